/-
  CLOSED FACTS of the row of ScanPrinted.
-/
import Derived.Test.YtpblellbffmolaaGreatDoorRows
import Derived.JoinedOf
import Derived.Stop.Joined
import Derived.KernelRfl
namespace Go.Proofs.YtpblellbffmolaaGreatDoor.scanPrinted
theorem named : Tryz.pinned.checked.prog.funcNamed Rows.scanPrintedRow.func = some 4 := by kernel_rfl
theorem k_wf : (Rows.scanPrintedRow.wf (OpenSpec.ofChange Rows.scanPrintedSpec)) = true := by kernel_rfl
theorem k_lay : (laidOutB Tryz.pinned.checked.prog) = true := by kernel_rfl
theorem k_maps : (mapsRowed Tryz.pinned.checked.prog) = true := by kernel_rfl
theorem k_tie : (namedTie Tryz.pinned.checked.prog Rows.scanPrintedRow.named Rows.scanPrintedSpec.vars) = true := by kernel_rfl
theorem k_in : (Rows.scanPrintedRow.inPlace == Tryz.pinned.checked.prog.inPlace 4) = true := by kernel_rfl
theorem k_un : (Rows.scanPrintedRow.unfollowed == Tryz.pinned.checked.prog.unfollowed 4) = true := by kernel_rfl
theorem k_rec : (Rows.scanPrintedRow.recurses == Tryz.pinned.checked.prog.recurses 4) = true := by kernel_rfl
theorem k_nam : (Rows.scanPrintedRow.named == Tryz.pinned.checked.prog.varsNamed 4) = true := by kernel_rfl
theorem k_all : joinedFacts Tryz.pinned.checked.prog 4 Tryz.f4 Rows.scanPrintedSpec Rows.scanPrintedRow = true := by
  unfold joinedFacts
  rw [k_wf, k_lay, k_maps, k_tie, k_in, k_un, k_rec, k_nam]
  kernel_rfl
theorem k_inst : Tryz.f4.isInstance Tryz.pinned.checked.prog Rows.scanPrintedRow.origin Rows.scanPrintedRow.targs := of_decide_eq_true (by kernel_rfl)
theorem k_wrap : Tryz.f4.isWrapper Tryz.pinned.checked.prog Rows.scanPrintedRow.wrapper Rows.scanPrintedRow.mainSum := by
  unfold Func.isWrapper; first | (rw [if_pos (by decide +kernel)]; kernel_rfl) | (rw [if_neg (by decide +kernel)]; exact ⟨rfl, rfl⟩)
end Go.Proofs.YtpblellbffmolaaGreatDoor.scanPrinted
