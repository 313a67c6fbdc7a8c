/-
 CLOSED FACTS of the row of CheckFinds.
-/
import Derived.Test.YtalolaikhloopaaGreatDoorRows
import Derived.JoinedOf
import Derived.Stop.Joined
import Derived.KernelRfl
namespace Go.Proofs.YtalolaikhloopaaGreatDoor.checkFinds
theorem named : Tryz.pinned.checked.prog.funcNamed Rows.checkFindsRow.func = some 5 := by kernel_rfl
theorem k_wf : (Rows.checkFindsRow.wf (OpenSpec.ofChange Rows.checkFindsSpec)) = true := by kernel_rfl
theorem k_lay : (laidOutB Tryz.pinned.checked.prog) = true := by kernel_rfl
theorem k_maps : (mapsRowed Tryz.pinned.checked.prog) = true := by kernel_rfl
theorem k_tie : (namedTie Tryz.pinned.checked.prog Rows.checkFindsRow.named Rows.checkFindsSpec.vars) = true := by kernel_rfl
theorem k_in : (Rows.checkFindsRow.inPlace == Tryz.pinned.checked.prog.inPlace 5) = true := by kernel_rfl
theorem k_un : (Rows.checkFindsRow.unfollowed == Tryz.pinned.checked.prog.unfollowed 5) = true := by kernel_rfl
theorem k_rec : (Rows.checkFindsRow.recurses == Tryz.pinned.checked.prog.recurses 5) = true := by kernel_rfl
theorem k_nam : (Rows.checkFindsRow.named == Tryz.pinned.checked.prog.varsNamed 5) = true := by kernel_rfl
theorem k_all : joinedFacts Tryz.pinned.checked.prog 5 Tryz.f5 Rows.checkFindsSpec Rows.checkFindsRow = true := by
 unfold joinedFacts
 rw [k_wf, k_lay, k_maps, k_tie, k_in, k_un, k_rec, k_nam]
 kernel_rfl
theorem k_inst : Tryz.f5.isInstance Tryz.pinned.checked.prog Rows.checkFindsRow.origin Rows.checkFindsRow.targs := of_decide_eq_true (by kernel_rfl)
theorem k_wrap : Tryz.f5.isWrapper Tryz.pinned.checked.prog Rows.checkFindsRow.wrapper Rows.checkFindsRow.mainSum := by
 unfold Func.isWrapper; first | (rw [if_pos (by decide +kernel)]; kernel_rfl) | (rw [if_neg (by decide +kernel)]; exact ⟨rfl, rfl⟩)
end Go.Proofs.YtalolaikhloopaaGreatDoor.checkFinds
