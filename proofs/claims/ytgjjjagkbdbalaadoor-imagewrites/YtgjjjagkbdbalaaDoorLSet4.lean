/-
  A STRUCT that is stored cell by cell.
-/
import Derived.Test.YtgjjjagkbdbalaaDoorLMem
import Derived.Deep.RegionHeld3
set_option linter.unusedSimpArgs false
set_option linter.unusedVariables false
namespace Go.Proofs.YtgjjjagkbdbalaaDoor
open Go.RowKit

theorem set4_me {w : World} {X : Nat} {t : TypeId} {e0 e1 e2 e3 a b c d : Value} (h : w.heap[X]? = some (.cells #[e0, e1, e2, e3] t (0, 0))) : ((((w.setCell ⟨X, 0, none⟩ a).setCell ⟨X, 1, none⟩ b).setCell ⟨X, 2, none⟩ c).setCell ⟨X, 3, none⟩ d).heap[X]? = some (.cells #[a, b, c, d] t (0, 0)) := by
  rw [blk_set (blk_set (blk_set (blk_set h _ _) _ _) _ _) _ _]; rfl
theorem set4_ne {w : World} {X : Nat} {a b c d : Value} {k : Nat} (h : k ≠ X) : ((((w.setCell ⟨X, 0, none⟩ a).setCell ⟨X, 1, none⟩ b).setCell ⟨X, 2, none⟩ c).setCell ⟨X, 3, none⟩ d).heap[k]? = w.heap[k]? :=
  (Below.heap_setCell _ ⟨X, 3, none⟩ _ k h).trans ((Below.heap_setCell _ ⟨X, 2, none⟩ _ k h).trans ((Below.heap_setCell _ ⟨X, 1, none⟩ _ k h).trans (Below.heap_setCell _ ⟨X, 0, none⟩ _ k h)))
end Go.Proofs.YtgjjjagkbdbalaaDoor
