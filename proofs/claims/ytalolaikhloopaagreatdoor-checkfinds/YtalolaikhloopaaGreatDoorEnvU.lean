/-
 WHAT is asked of the listed variables; what 'is' answers of an error.
-/
import Derived.Test.YtalolaikhloopaaGreatDoorRWhole
import Derived.Test.YtalolaikhloopaaGreatDoorJAs
namespace Go.Proofs.YtalolaikhloopaaGreatDoor
open Go.RowKit
set_option linter.unusedSimpArgs false
set_option linter.unusedVariables false

/-- the listed handle -/
abbrev Hdl2 (w : World) : Prop := w.cell? ⟨3, 0, none⟩ = some (.iface 276 (.agg #[.pointer (some ⟨14, 32, none⟩)]))
/-- what is asked of the listed variables -/
structure Env (w : World) : Prop where
 vars : Vars w
 rvars : RVars w
 hdl : Hdl2 w
 big : 12 ≤ w.heap.size
theorem Env.below {w w' : World} (h : Env w) (hb : Below w.heap.size w w') : Env w' := ⟨h.vars.below hb, h.rvars.below hb, (hb.cell (cell_lt h.hdl)).trans h.hdl, Nat.le_trans h.big hb.size⟩

/-- an error is this one, and there -/
def ErrOK (w : World) (ev : Value) (a b : Int) : Prop := ∀ W, Below w.heap.size w W → Calls Tryz.prog 12 #[ev, .agg #[.int .i64 a, .int .i64 b]] W fun e w' => e = .returned (.bool true) ∧ Below W.heap.size W w'
theorem ErrOK.below {w w' : World} {ev : Value} {a b : Int} (h : ErrOK w ev a b) (hb : Below w.heap.size w w') : ErrOK w' ev a b := fun W hW => h W (Below.step hb hW)
theorem prRep_2 {N : Nat} {w : World} {v : Value} {p : List De × List St} (h : PrRep N w v p) : ∃ (aa : Option Addr) (ac : Nat) (ba : Option Addr) (bc : Nat), v = .agg #[.slice aa p.1.length ac, .slice ba p.2.length bc] ∧ IsDes (From N) w p.1 (.slice aa p.1.length ac) ∧ IsSts (From N) w p.2 (.slice ba p.2.length bc) := by
 obtain ⟨a, b, rfl, h1, h2⟩ := h
 obtain ⟨aa, ac, rfl⟩ := h1.val
 obtain ⟨ba, bc, rfl⟩ := (show ∃ (x : Option Addr) (k : Nat), b = .slice x p.2.length k from by obtain ⟨cs, hr, _⟩ := h2; exact hr.val)
 exact ⟨aa, ac, ba, bc, rfl, h1, h2⟩
theorem err_nil (w : World) : ErrOK w .nilIface 0 (-1) := fun W _ => is_nil 0 (-1) W
theorem err_at {w : World} (h : Hdl2 w) (A p : Nat) (er : Int) (hA : w.heap[A]? = some (.cells #[.int .i64 er, .int .i64 p] 201 (0, 0))) : ErrOK w (.iface 193 (.pointer (some ⟨A, 0, none⟩))) er p := fun W hb =>
 (is_at A p er er p W ((hb.cell (cell_lt h)).trans h) (Below.blk hb hA)).mono fun e w' q => ⟨by rw [q.1]; simp, q.2⟩

end Go.Proofs.YtalolaikhloopaaGreatDoor
