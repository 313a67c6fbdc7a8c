/-
  ROWS of the reference's tables, that are built behind a world.
-/
import Derived.Test.YtndpehjbepfbkaaGreatDoorINet
import Derived.Test.YtndpehjbepfbkaaGreatDoorLTab
import Derived.Test.YtndpehjbepfbkaaGreatDoorRPl
set_option linter.unusedSimpArgs false
set_option linter.unusedVariables false
namespace Go.Proofs.YtndpehjbepfbkaaGreatDoor
open Go.RowKit

/-- a row of tables that is built behind a world, with the rows of their signals -/
structure LRowR (S : Nat → Prop) (w0 wr : World) (va : Option Addr) (vc : Nat) (A : Nat → Option Addr) (C : Nat → Nat) (ls : List Lt) : Prop where
  row : RowS S 93 2 w0 wr va vc ls.length (lutsC A C ls)
  ins : ∀ i, i < ls.length → Lies (fun b => w0.heap.size ≤ b ∧ b < wr.heap.size ∧ (Value.slice va ls.length vc).ownBlock ≠ some b) wr (A i) (intsC (ltAt ls i).ins)
theorem LRowR.none (S : Nat → Prop) (w : World) : LRowR S w w .none 0 (fun _ => .none) (fun _ => 0) [] := ⟨RowS.none S _ _ w, fun i hi => absurd hi (Nat.not_lt_zero _)⟩
theorem LRowR.more {S : Nat → Prop} {w0 wr wy : World} {va : Option Addr} {vc : Nat} {A : Nat → Option Addr} {C : Nat → Nat} {ls : List Lt} (h : LRowR S w0 wr va vc A C ls) (hb : KeptS S wr wy) (hS : ∀ b, S b → b < w0.heap.size) : LRowR S w0 wy va vc A C ls :=
  ⟨h.row.more hb hS, fun i hi => ((h.ins i hi).same fun b hs hl => hb.block b hl fun hh => by have := hS b hh; omega).imp fun b hl hs => ⟨hs.1, hl, hs.2.2⟩⟩
theorem LRowR.app {S : Nat → Prop} {w0 wr : World} {va : Option Addr} {vc : Nat} {A : Nat → Option Addr} {C : Nat → Nat} {ls : List Lt} (h : LRowR S w0 wr va vc A C ls) (hS : ∀ b, S b → b < w0.heap.size) (l : Lt) (a : Option Addr) (c : Nat) (ha : Lies (fun b => w0.heap.size ≤ b ∧ b < wr.heap.size ∧ (Value.slice va ls.length vc).ownBlock ≠ some b) wr a (intsC l.ins)) (ao : Option Addr) (hnew : Lies AnyB wr ao [.slice a l.ins.length c, .int .i64 l.table]) (n' : Nat) (hn : n' = ls.length + 1) (hbig : ls.length < 1000000) :
    ∃ va' vc' w2, (Builtin.append_ #[42, 42] 42 #[.slice va ls.length vc, .slice ao 1 1]).run Tryz.prog wr = .ok (.slice va' n' vc') w2 ∧ LRowR S w0 w2 va' vc' (atNew ls.length a A) (atNew ls.length c C) (ls ++ [l]) ∧ wr.grownBy w2 (Value.slice va ls.length vc).ownBlock := by
  subst hn
  obtain ⟨va', vc', w2, happ, hrow, hnb, hg⟩ := h.row.app (t := 42) info_rl (by decide) (by decide) rfl (by kernel_rfl) hS [.slice a l.ins.length c, .int .i64 l.table] ao 1 1 (ls.length + 1) hnew rfl (by intro u hu; simp at hu; rcases hu with rfl | rfl <;> rfl) rfl (by omega)
  have hlen : (ls ++ [l]).length = ls.length + 1 := by simp
  have carry : ∀ {x : Option Addr} {cs : List Value}, Lies (fun b => w0.heap.size ≤ b ∧ b < wr.heap.size ∧ (Value.slice va ls.length vc).ownBlock ≠ some b) wr x cs → Lies (fun b => w0.heap.size ≤ b ∧ b < w2.heap.size ∧ (Value.slice va' (ls.length + 1) vc').ownBlock ≠ some b) w2 x cs := fun hx =>
    (hx.same fun b hs hl => hg.block b hl fun e => hs.2.2 e.symm).imp fun b hl hs => ⟨hs.1, hl, fun e => (hnb b e).elim hs.2.2 fun hge => by have := hs.2.1; omega⟩
  refine ⟨va', vc', w2, happ, ⟨by rw [hlen, lutsC_snoc]; exact hrow, fun i hi => ?_⟩, hg⟩
  rw [hlen] at hi ⊢
  by_cases e : i = ls.length
  · subst e
    rw [atNew_new, ltAt_new]
    exact carry ha
  · rw [atNew_old _ _ _ i (by omega), ltAt_old ls l i (by omega)]
    exact carry (h.ins i (by omega))
/-- a net's block -/
def NetBR (N : Nat) (g : Int) (a1 : Option Addr) (n1 c1 : Nat) (a2 : Option Addr) (n2 c2 : Nat) (a3 : Option Addr) (n3 c3 : Nat) (w : World) : Prop := w.heap[N]? = some (.cells #[.int .i64 g, .slice a1 n1 c1, .slice a2 n2 c2, .slice a3 n3 c3] 44 (0, 0))
theorem NetBR.other {N : Nat} {g : Int} {a1 : Option Addr} {n1 c1 : Nat} {a2 : Option Addr} {n2 c2 : Nat} {a3 : Option Addr} {n3 c3 : Nat} {w w' : World} (h : NetBR N g a1 n1 c1 a2 n2 c2 a3 n3 c3 w) (e : w'.heap[N]? = w.heap[N]?) : NetBR N g a1 n1 c1 a2 n2 c2 a3 n3 c3 w' := e.trans h
theorem NetBR.c1 {N : Nat} {g : Int} {a1 : Option Addr} {n1 c1 : Nat} {a2 : Option Addr} {n2 c2 : Nat} {a3 : Option Addr} {n3 c3 : Nat} {w : World} (h : NetBR N g a1 n1 c1 a2 n2 c2 a3 n3 c3 w) : w.cell? ⟨N, 1, none⟩ = some (.slice a1 n1 c1) := by rw [blk_cell h]; rfl
theorem NetBR.c2 {N : Nat} {g : Int} {a1 : Option Addr} {n1 c1 : Nat} {a2 : Option Addr} {n2 c2 : Nat} {a3 : Option Addr} {n3 c3 : Nat} {w : World} (h : NetBR N g a1 n1 c1 a2 n2 c2 a3 n3 c3 w) : w.cell? ⟨N, 2, none⟩ = some (.slice a2 n2 c2) := by rw [blk_cell h]; rfl
theorem NetBR.c3 {N : Nat} {g : Int} {a1 : Option Addr} {n1 c1 : Nat} {a2 : Option Addr} {n2 c2 : Nat} {a3 : Option Addr} {n3 c3 : Nat} {w : World} (h : NetBR N g a1 n1 c1 a2 n2 c2 a3 n3 c3 w) : w.cell? ⟨N, 3, none⟩ = some (.slice a3 n3 c3) := by rw [blk_cell h]; rfl
theorem NetBR.set1 {N : Nat} {g : Int} {a1 : Option Addr} {n1 c1 : Nat} {a2 : Option Addr} {n2 c2 : Nat} {a3 : Option Addr} {n3 c3 : Nat} {w : World} (h : NetBR N g a1 n1 c1 a2 n2 c2 a3 n3 c3 w) (a : Option Addr) (n c : Nat) : NetBR N g a n c a2 n2 c2 a3 n3 c3 (w.setCell ⟨N, 1, none⟩ (.slice a n c)) := by unfold NetBR; rw [blk_set h]; rfl
theorem NetBR.set2 {N : Nat} {g : Int} {a1 : Option Addr} {n1 c1 : Nat} {a2 : Option Addr} {n2 c2 : Nat} {a3 : Option Addr} {n3 c3 : Nat} {w : World} (h : NetBR N g a1 n1 c1 a2 n2 c2 a3 n3 c3 w) (a : Option Addr) (n c : Nat) : NetBR N g a1 n1 c1 a n c a3 n3 c3 (w.setCell ⟨N, 2, none⟩ (.slice a n c)) := by unfold NetBR; rw [blk_set h]; rfl
theorem NetBR.set3 {N : Nat} {g : Int} {a1 : Option Addr} {n1 c1 : Nat} {a2 : Option Addr} {n2 c2 : Nat} {a3 : Option Addr} {n3 c3 : Nat} {w : World} (h : NetBR N g a1 n1 c1 a2 n2 c2 a3 n3 c3 w) (a : Option Addr) (n c : Nat) : NetBR N g a1 n1 c1 a2 n2 c2 a n c (w.setCell ⟨N, 3, none⟩ (.slice a n c)) := by unfold NetBR; rw [blk_set h]; rfl
theorem TkAt.below {T : Nat} {s : Tk} {w w' : World} (h : TkAt T s w) (hb : Below w.heap.size w w') : TkAt T s w' := Below.blk hb h
/-- a table that is being built -/
def LtB (L : Nat) (a : Option Addr) (n c : Nat) (t : Int) (w : World) : Prop := w.heap[L]? = some (.cells #[.slice a n c, .int .i64 t] 93 (0, 0))
theorem LtB.other {L : Nat} {a : Option Addr} {n c : Nat} {t : Int} {w w' : World} (h : LtB L a n c t w) (e : w'.heap[L]? = w.heap[L]?) : LtB L a n c t w' := e.trans h
theorem LtB.c0 {L : Nat} {a : Option Addr} {n c : Nat} {t : Int} {w : World} (h : LtB L a n c t w) : w.cell? ⟨L, 0, none⟩ = some (.slice a n c) := by rw [blk_cell h]; rfl
theorem LtB.c1 {L : Nat} {a : Option Addr} {n c : Nat} {t : Int} {w : World} (h : LtB L a n c t w) : w.cell? ⟨L, 1, none⟩ = some (.int .i64 t) := by rw [blk_cell h]; rfl
theorem LtB.set0 {L : Nat} {a : Option Addr} {n c : Nat} {t : Int} {w : World} (h : LtB L a n c t w) (a' : Option Addr) (n' c' : Nat) : LtB L a' n' c' t (w.setCell ⟨L, 0, none⟩ (.slice a' n' c')) := by unfold LtB; rw [blk_set h]; rfl
theorem LtB.set1 {L : Nat} {a : Option Addr} {n c : Nat} {t : Int} {w : World} (h : LtB L a n c t w) (t' : Int) : LtB L a n c t' (w.setCell ⟨L, 1, none⟩ (.int .i64 t')) := by unfold LtB; rw [blk_set h]; rfl
end Go.Proofs.YtndpehjbepfbkaaGreatDoor
