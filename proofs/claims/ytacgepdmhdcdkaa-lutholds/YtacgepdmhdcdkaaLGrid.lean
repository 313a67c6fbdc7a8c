/-
  ROWS OF BITS THAT CAME IN.
-/
import Derived.Test.YtacgepdmhdcdkaaMA
set_option linter.unusedSimpArgs false
set_option linter.unusedVariables false
namespace Go.Proofs.Ytacgepdmhdcdkaa
open Go.RowKit

/-- rows of bits that came in -/
def rowAt (gs : List (List Bool)) (r : Nat) : List Bool := gs[r]?.getD []
def Grid (w : World) (ga : Option Addr) (A : Nat → Option Addr) (C : Nat → Nat) (gs : List (List Bool)) : Prop :=
  ∀ r, r < gs.length → (∃ b off, ga = some ⟨b, off, none⟩ ∧ w.cell? ⟨b, off + r, none⟩ = some (.slice (A r) (rowAt gs r).length (C r))) ∧ Lies AnyB w (A r) (bitsC (rowAt gs r))
theorem Grid.below {w w' : World} {ga : Option Addr} {A : Nat → Option Addr} {C : Nat → Nat} {gs : List (List Bool)} (h : Grid w ga A C gs) (hb : Below w.heap.size w w') : Grid w' ga A C gs := fun r hr => by
  obtain ⟨⟨b, off, h1, h2⟩, h3⟩ := h r hr
  exact ⟨⟨b, off, h1, (hb.cell (cell_lt h2)).trans h2⟩, h3.below hb⟩
end Go.Proofs.Ytacgepdmhdcdkaa
