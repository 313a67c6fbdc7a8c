/-
  CLOSED FACTS of the row of DeviceSteps.
-/
import Derived.Test.YtndpehjbepfbkaaGreatDoorRows
import Derived.JoinedOf
import Derived.Stop.Joined
import Derived.KernelRfl
namespace Go.Proofs.YtndpehjbepfbkaaGreatDoor.deviceSteps
theorem named : Tryz.pinned.checked.prog.funcNamed Rows.deviceStepsRow.func = some 3 := by kernel_rfl
theorem k_wf : (Rows.deviceStepsRow.wf (OpenSpec.ofChange Rows.deviceStepsSpec)) = true := by kernel_rfl
theorem k_lay : (laidOutB Tryz.pinned.checked.prog) = true := by kernel_rfl
theorem k_maps : (mapsRowed Tryz.pinned.checked.prog) = true := by kernel_rfl
theorem k_tie : (namedTie Tryz.pinned.checked.prog Rows.deviceStepsRow.named Rows.deviceStepsSpec.vars) = true := by kernel_rfl
theorem k_in : (Rows.deviceStepsRow.inPlace == Tryz.pinned.checked.prog.inPlace 3) = true := by kernel_rfl
theorem k_un : (Rows.deviceStepsRow.unfollowed == Tryz.pinned.checked.prog.unfollowed 3) = true := by kernel_rfl
theorem k_rec : (Rows.deviceStepsRow.recurses == Tryz.pinned.checked.prog.recurses 3) = true := by kernel_rfl
theorem k_nam : (Rows.deviceStepsRow.named == Tryz.pinned.checked.prog.varsNamed 3) = true := by kernel_rfl
theorem k_all : joinedFacts Tryz.pinned.checked.prog 3 Tryz.f3 Rows.deviceStepsSpec Rows.deviceStepsRow = true := by
  unfold joinedFacts
  rw [k_wf, k_lay, k_maps, k_tie, k_in, k_un, k_rec, k_nam]
  kernel_rfl
theorem k_inst : Tryz.f3.isInstance Tryz.pinned.checked.prog Rows.deviceStepsRow.origin Rows.deviceStepsRow.targs := of_decide_eq_true (by kernel_rfl)
theorem k_wrap : Tryz.f3.isWrapper Tryz.pinned.checked.prog Rows.deviceStepsRow.wrapper Rows.deviceStepsRow.mainSum := by
  unfold Func.isWrapper; first | (rw [if_pos (by decide +kernel)]; kernel_rfl) | (rw [if_neg (by decide +kernel)]; exact ⟨rfl, rfl⟩)
end Go.Proofs.YtndpehjbepfbkaaGreatDoor.deviceSteps
