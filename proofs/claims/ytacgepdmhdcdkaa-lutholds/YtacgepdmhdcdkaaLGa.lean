/-
  GATE: its two loops, plain and in memory.
-/
import Derived.Test.YtacgepdmhdcdkaaLWa
import Derived.Test.YtacgepdmhdcdkaaLJn
set_option linter.unusedSimpArgs false
set_option linter.unusedVariables false
namespace Go.Proofs.Ytacgepdmhdcdkaa
open Go.RowKit

theorem Lies.wy {S : Nat → Prop} {w : World} {ao : Option Addr} {ws : List Wy} (h : Lies S w ao (wyC ws)) {i : Nat} (hi : i < ws.length) : ∃ b off, ao = some ⟨b, off, none⟩ ∧ w.cell? ⟨b, off + i * 2, none⟩ = some (wy0 (wyAt ws i)) ∧ w.cell? ⟨b, off + i * 2 + 1, none⟩ = some (wy1 (wyAt ws i)) := by
  rcases h with h | ⟨b, off, h1, h2, h3⟩
  · have := congrArg List.length h
    rw [wyC_len] at this
    simp at this
    omega
  · have c0 := h3 _ _ (wyC_0 ws i hi)
    have c1 := h3 _ _ (wyC_1 ws i hi)
    exact ⟨b, off, h1, c0, by rw [Nat.add_assoc]; exact c1⟩
/-- the ways that gate has found so far -/
structure GaAt (w : World) (op : Int) (xs ys : List Wy) (v : Value) (ws : List Wy) (wr : World) : Prop where
  bel : Below w.heap.size w wr
  mine : Mine 44 2 w.heap.size wr v ws.length (wyC ws)
  all : ∀ x ∈ ws, Lies (fun b => w.heap.size ≤ b ∧ v.ownBlock ≠ some b) wr x.a (intsC x.l.ins) ∧ ∃ a ∈ xs, ∃ b ∈ ys, Joined2 op a.l b.l x.l
theorem GaAt.below {w : World} {op : Int} {xs ys : List Wy} {v : Value} {ws : List Wy} {wr wr' : World} (h : GaAt w op xs ys v ws wr) (hb : Below wr.heap.size wr wr') : GaAt w op xs ys v ws wr' :=
  ⟨Below.step h.bel hb, h.mine.below hb, fun x hx => ⟨(h.all x hx).1.below hb, (h.all x hx).2⟩⟩
theorem GaAt.app {w : World} {op : Int} {xs ys : List Wy} {v v' : Value} {ws : List Wy} {w2 w3 : World} {x : Wy} {W : Nat} (h : GaAt w op xs ys v ws w2) (hx : Lies (FromB W) w2 x.a (intsC x.l.ins)) (hW : w.heap.size ≤ W) (hv : ∀ b, v.ownBlock = some b → b < W) (hj : ∃ a ∈ xs, ∃ b ∈ ys, Joined2 op a.l b.l x.l) (hm : Mine 44 2 w.heap.size w3 v' (ws.length + 1) (wyC (ws ++ [x]))) (hg : w2.grownBy w3 v.ownBlock) (hnb : ∀ b, v'.ownBlock = some b → v.ownBlock = some b ∨ w2.heap.size ≤ b) : GaAt w op xs ys v' (ws ++ [x]) w3 := by
  have hone : ∀ y : Wy, Lies (fun b => w.heap.size ≤ b ∧ v.ownBlock ≠ some b) w2 y.a (intsC y.l.ins) → Lies (fun b => w.heap.size ≤ b ∧ v'.ownBlock ≠ some b) w3 y.a (intsC y.l.ins) := by
    intro y hy
    have h1 := hy.imp (T := fun b => (w.heap.size ≤ b ∧ v.ownBlock ≠ some b) ∧ b < w2.heap.size) (fun b hb hs => ⟨hs, hb⟩)
    have h2 := h1.same (w' := w3) (fun b hs hb => hg.block b hb (fun e => hs.1.2 e.symm))
    refine h2.imp (fun b _ hs => ⟨hs.1.1, fun e => ?_⟩)
    rcases hnb b e with q | q
    · exact hs.1.2 q
    · omega
  refine ⟨⟨hg.os.trans h.bel.os, hg.tape.trans h.bel.tape, hg.output.trans h.bel.output, Nat.le_trans h.bel.size hg.size, fun k hk => (hg.block k (Nat.lt_of_lt_of_le hk h.bel.size) (fun e => by have := h.mine.new k e.symm; omega)).trans (h.bel.block k hk)⟩, by rw [List.length_append]; exact hm, fun y hy => ?_⟩
  rcases List.mem_append.1 hy with hy | hy
  · exact ⟨hone y (h.all y hy).1, (h.all y hy).2⟩
  · rw [List.mem_singleton] at hy
    subst hy
    exact ⟨hone y (hx.imp fun b _ hs => ⟨Nat.le_trans hW hs, fun e => by have := hv b e; have : W ≤ b := hs; omega⟩), hj⟩
end Go.Proofs.Ytacgepdmhdcdkaa
