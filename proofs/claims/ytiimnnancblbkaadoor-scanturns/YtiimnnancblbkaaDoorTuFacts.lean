/-
  CLOSED FACTS of the row of ScanTurns.
-/
import Derived.Test.YtiimnnancblbkaaDoorRows
import Derived.JoinedOf
import Derived.Stop.Joined
import Derived.KernelRfl
namespace Go.Proofs.YtiimnnancblbkaaDoor.scanTurns
theorem named : Tryd.pinned.checked.prog.funcNamed Rows.scanTurnsRow.func = some 3 := by kernel_rfl
theorem k_wf : (Rows.scanTurnsRow.wf (OpenSpec.ofChange Rows.scanTurnsSpec)) = true := by kernel_rfl
theorem k_lay : (laidOutB Tryd.pinned.checked.prog) = true := by kernel_rfl
theorem k_maps : (mapsRowed Tryd.pinned.checked.prog) = true := by kernel_rfl
theorem k_tie : (namedTie Tryd.pinned.checked.prog Rows.scanTurnsRow.named Rows.scanTurnsSpec.vars) = true := by kernel_rfl
theorem k_in : (Rows.scanTurnsRow.inPlace == Tryd.pinned.checked.prog.inPlace 3) = true := by kernel_rfl
theorem k_un : (Rows.scanTurnsRow.unfollowed == Tryd.pinned.checked.prog.unfollowed 3) = true := by kernel_rfl
theorem k_rec : (Rows.scanTurnsRow.recurses == Tryd.pinned.checked.prog.recurses 3) = true := by kernel_rfl
theorem k_nam : (Rows.scanTurnsRow.named == Tryd.pinned.checked.prog.varsNamed 3) = true := by kernel_rfl
theorem k_all : joinedFacts Tryd.pinned.checked.prog 3 Tryd.f3 Rows.scanTurnsSpec Rows.scanTurnsRow = true := by
  unfold joinedFacts
  rw [k_wf, k_lay, k_maps, k_tie, k_in, k_un, k_rec, k_nam]
  kernel_rfl
theorem k_inst : Tryd.f3.isInstance Tryd.pinned.checked.prog Rows.scanTurnsRow.origin Rows.scanTurnsRow.targs := of_decide_eq_true (by kernel_rfl)
theorem k_wrap : Tryd.f3.isWrapper Tryd.pinned.checked.prog Rows.scanTurnsRow.wrapper Rows.scanTurnsRow.mainSum := by
  unfold Func.isWrapper; first | (rw [if_pos (by decide +kernel)]; kernel_rfl) | (rw [if_neg (by decide +kernel)]; exact ⟨rfl, rfl⟩)
end Go.Proofs.YtiimnnancblbkaaDoor.scanTurns
