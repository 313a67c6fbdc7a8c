/-
  CLOSED FACTS of the row of TreeLimits.
-/
import Derived.Test.YtalolaikhloopaaGreatDoorRows
import Derived.JoinedOf
import Derived.Stop.Joined
import Derived.KernelRfl
namespace Go.Proofs.YtalolaikhloopaaGreatDoor.treeLimits
theorem named : Tryz.pinned.checked.prog.funcNamed Rows.treeLimitsRow.func = some 4 := by kernel_rfl
theorem k_wf : (Rows.treeLimitsRow.wf (OpenSpec.ofChange Rows.treeLimitsSpec)) = true := by kernel_rfl
theorem k_lay : (laidOutB Tryz.pinned.checked.prog) = true := by kernel_rfl
theorem k_maps : (mapsRowed Tryz.pinned.checked.prog) = true := by kernel_rfl
theorem k_tie : (namedTie Tryz.pinned.checked.prog Rows.treeLimitsRow.named Rows.treeLimitsSpec.vars) = true := by kernel_rfl
theorem k_in : (Rows.treeLimitsRow.inPlace == Tryz.pinned.checked.prog.inPlace 4) = true := by kernel_rfl
theorem k_un : (Rows.treeLimitsRow.unfollowed == Tryz.pinned.checked.prog.unfollowed 4) = true := by kernel_rfl
theorem k_rec : (Rows.treeLimitsRow.recurses == Tryz.pinned.checked.prog.recurses 4) = true := by kernel_rfl
theorem k_nam : (Rows.treeLimitsRow.named == Tryz.pinned.checked.prog.varsNamed 4) = true := by kernel_rfl
theorem k_all : joinedFacts Tryz.pinned.checked.prog 4 Tryz.f4 Rows.treeLimitsSpec Rows.treeLimitsRow = true := by
  unfold joinedFacts
  rw [k_wf, k_lay, k_maps, k_tie, k_in, k_un, k_rec, k_nam]
  kernel_rfl
theorem k_inst : Tryz.f4.isInstance Tryz.pinned.checked.prog Rows.treeLimitsRow.origin Rows.treeLimitsRow.targs := of_decide_eq_true (by kernel_rfl)
theorem k_wrap : Tryz.f4.isWrapper Tryz.pinned.checked.prog Rows.treeLimitsRow.wrapper Rows.treeLimitsRow.mainSum := by
  unfold Func.isWrapper; first | (rw [if_pos (by decide +kernel)]; kernel_rfl) | (rw [if_neg (by decide +kernel)]; exact ⟨rfl, rfl⟩)
end Go.Proofs.YtalolaikhloopaaGreatDoor.treeLimits
