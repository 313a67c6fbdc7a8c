/-
  ROWS of ways of the call's own that are written into.
-/
import Derived.Test.YtacgepdmhdcdkaaLCw
set_option linter.unusedSimpArgs false
set_option linter.unusedVariables false
namespace Go.Proofs.Ytacgepdmhdcdkaa
open Go.RowKit

/-- a way, with the row of its signals -/
structure Wy where
  a : Option Addr
  c : Nat
  l : Lt
instance : Inhabited Wy := ⟨⟨none, 0, ⟨[], 0⟩⟩⟩
def wy0 (x : Wy) : Value := .slice x.a x.l.ins.length x.c
def wy1 (x : Wy) : Value := .int .i64 x.l.table
def wyC (ws : List Wy) : List Value := ws.flatMap fun x => [wy0 x, wy1 x]
def wyAt (ws : List Wy) (i : Nat) : Wy := ws[i]?.getD default
theorem wyC_nil : wyC [] = [] := rfl
theorem wyC_cons (x : Wy) (ws : List Wy) : wyC (x :: ws) = wy0 x :: wy1 x :: wyC ws := rfl
theorem wyC_len (ws : List Wy) : (wyC ws).length = ws.length * 2 := by
  induction ws with
  | nil => rfl
  | cons x ws ih => rw [wyC_cons, List.length_cons, List.length_cons, ih, List.length_cons]; omega
theorem wyC_append (a b : List Wy) : wyC (a ++ b) = wyC a ++ wyC b := by simp [wyC]
theorem wyC_0 : ∀ (ws : List Wy) (i : Nat), i < ws.length → (wyC ws)[i * 2]? = some (wy0 (wyAt ws i))
  | [], i, h => absurd h (Nat.not_lt_zero _)
  | x :: ws, 0, h => rfl
  | x :: ws, i + 1, h => by
    have ih := wyC_0 ws i (by simpa using h)
    rw [wyC_cons, show (i + 1) * 2 = i * 2 + 1 + 1 by omega, List.getElem?_cons_succ, List.getElem?_cons_succ, ih]
    simp [wyAt]
theorem wyC_1 : ∀ (ws : List Wy) (i : Nat), i < ws.length → (wyC ws)[i * 2 + 1]? = some (wy1 (wyAt ws i))
  | [], i, h => absurd h (Nat.not_lt_zero _)
  | x :: ws, 0, h => rfl
  | x :: ws, i + 1, h => by
    have ih := wyC_1 ws i (by simpa using h)
    rw [wyC_cons, show (i + 1) * 2 + 1 = (i * 2 + 1) + 1 + 1 by omega, List.getElem?_cons_succ, List.getElem?_cons_succ, ih]
    simp [wyAt]
theorem wyC_set : ∀ (ws : List Wy) (i : Nat) (x : Wy), wyC (ws.set i x) = ((wyC ws).set (i * 2) (wy0 x)).set (i * 2 + 1) (wy1 x)
  | [], i, x => by simp [wyC]
  | y :: ws, 0, x => rfl
  | y :: ws, i + 1, x => by
    have ih := wyC_set ws i x
    rw [List.set_cons_succ, wyC_cons, wyC_cons, ih, show (i + 1) * 2 = i * 2 + 1 + 1 by omega]
    rfl
/-- a row of ways of the call's own, from the beginning of a block on -/
structure OwnW (B g : Nat) (w : World) (n cap : Nat) (ws : List Wy) : Prop where
  mine : Mine 44 2 B w (.slice (some ⟨g, 0, none⟩) n cap) n (wyC ws)
  len : ws.length = n
theorem OwnW.blk {B g : Nat} {w : World} {n cap : Nat} {l : List Wy} (h : OwnW B g w n cap l) : ∃ cur, w.heap[g]? = some (.cells cur 44 (0, 0)) ∧ n ≤ cap ∧ cur.size = cap * 2 ∧ cur.toList.take (n * 2) = wyC l := by
  rcases h.mine.own.2 with ⟨h0, _⟩ | ⟨g', cap', cur, hv, hbg, hg, hnc, hcm, hcs, htake⟩
  · cases h0
  · cases hv
    exact ⟨cur, hg, hnc, by simpa using hcs, by simpa using htake⟩
theorem OwnW.cells {B g : Nat} {w : World} {n cap : Nat} {l : List Wy} (h : OwnW B g w n cap l) {i : Nat} (hi : i < n) : w.cell? ⟨g, i * 2, none⟩ = some (wy0 (wyAt l i)) ∧ w.cell? ⟨g, i * 2 + 1, none⟩ = some (wy1 (wyAt l i)) := by
  obtain ⟨cur, h1, h2, h3, h4⟩ := h.blk
  have hl := h.len
  rw [blk_cell h1, blk_cell h1]
  have h5 : (cur.toList.take (n * 2))[i * 2]? = (wyC l)[i * 2]? := by rw [h4]
  have h6 : (cur.toList.take (n * 2))[i * 2 + 1]? = (wyC l)[i * 2 + 1]? := by rw [h4]
  rw [List.getElem?_take_of_lt (by omega), wyC_0 l i (by omega)] at h5
  rw [List.getElem?_take_of_lt (by omega), wyC_1 l i (by omega)] at h6
  exact ⟨by simpa using h5, by simpa using h6⟩
theorem OwnW.frozen {B g : Nat} {w : World} {n cap : Nat} {l : List Wy} (h : OwnW B g w n cap l) (i : Nat) : w.frozen? ⟨g, i, none⟩ = false := by
  obtain ⟨cur, h1, _⟩ := h.blk
  exact blk_frozen h1 i
theorem OwnW.lt {B g : Nat} {w : World} {n cap : Nat} {l : List Wy} (h : OwnW B g w n cap l) : g < w.heap.size := by
  obtain ⟨cur, h1, _⟩ := h.blk
  exact blk_lt h1
theorem OwnW.ge {B g : Nat} {w : World} {n cap : Nat} {l : List Wy} (h : OwnW B g w n cap l) : B ≤ g := h.mine.new g rfl
theorem OwnW.below {B g : Nat} {w w' : World} {n cap : Nat} {l : List Wy} (h : OwnW B g w n cap l) (hb : Below w.heap.size w w') : OwnW B g w' n cap l := ⟨h.mine.below hb, h.len⟩
theorem OwnW.kept {B g R : Nat} {w w' : World} {n cap : Nat} {l : List Wy} (h : OwnW B g w n cap l) (hk : Kept R w w') (hn : g ≠ R) : OwnW B g w' n cap l := ⟨h.mine.same fun b hb hl => by simp [Value.ownBlock] at hb; exact hk.block b hl (by omega), h.len⟩
theorem OwnW.mk' {B g : Nat} {w : World} {n cap : Nat} {l : List Wy} {cur : Array Value} (hB : B ≤ g) (h1 : w.heap[g]? = some (.cells cur 44 (0, 0))) (h2 : n ≤ cap) (h3 : cur.size = cap * 2) (hm : cap ≤ maxLen) (h4 : cur.toList.take (n * 2) = wyC l) (hl : l.length = n) : OwnW B g w n cap l :=
  ⟨⟨⟨by rw [wyC_len, hl], .inr ⟨g, cap, cur, rfl, Nat.zero_le _, h1, h2, hm, by simpa using h3, by simpa using h4⟩⟩, fun b hb => by simp [Value.ownBlock] at hb; omega⟩, hl⟩
theorem OwnW.capM {B g : Nat} {w : World} {n cap : Nat} {l : List Wy} (h : OwnW B g w n cap l) : cap ≤ maxLen := by
  rcases h.mine.own.2 with ⟨h0, _⟩ | ⟨g', cap', cur, hv, hbg, hg, hnc, hcm, hcs, htake⟩
  · cases h0
  · cases hv; exact hcm
theorem OwnW.set {B g : Nat} {w : World} {n cap : Nat} {l : List Wy} (h : OwnW B g w n cap l) (i : Nat) (x : Wy) : OwnW B g ((w.setCell ⟨g, i * 2, none⟩ (wy0 x)).setCell ⟨g, i * 2 + 1, none⟩ (wy1 x)) n cap (l.set i x) := by
  obtain ⟨cur, h1, h2, h3, h4⟩ := h.blk
  refine OwnW.mk' (cur := (cur.setIfInBounds (i * 2) (wy0 x)).setIfInBounds (i * 2 + 1) (wy1 x)) h.ge (blk_set (blk_set h1 _ _) _ _) h2 (by simpa using h3) h.capM ?_ (by rw [List.length_set]; exact h.len)
  rw [Array.toList_setIfInBounds, Array.toList_setIfInBounds, List.take_set, List.take_set, h4, wyC_set]
theorem swapW_perm {l : List Wy} {i j : Nat} (hi : i < l.length) (hj : j < l.length) : ((l.set i (wyAt l j)).set j (wyAt l i)).Perm l := by
  have e1 : wyAt l i = l[i] := by simp [wyAt, hi]
  have e2 : wyAt l j = l[j] := by simp [wyAt, hj]
  rw [e1, e2]
  exact List.set_set_perm hi hj
/-- all that these are: their rows of signals lie there -/
def WyIn (S : Nat → Prop) (w : World) (x : Wy) : Prop := Lies S w x.a (intsC x.l.ins)
theorem WyIn.below {S : Nat → Prop} {w w' : World} {x : Wy} (h : WyIn S w x) (hb : Below w.heap.size w w') : WyIn S w' x := Lies.below h hb
end Go.Proofs.Ytacgepdmhdcdkaa
