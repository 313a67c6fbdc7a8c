/-
  MEMORY: rows of statements.
-/
import Derived.Test.YtgncgbngjdcpgaaGreatDoorArgs
namespace Go.Proofs.YtgncgbngjdcpgaaGreatDoor
open Go.RowKit

mutual
/-- the eight cells of a statement -/
def IsSt (S : Nat → Prop) (w : World) : St → List Value → Prop
  | .set p s x, c => ∃ a, c = [.int .i64 1, .int .i64 p, .string s, a, .slice none 0 0, .int .i64 0, .slice none 0 0, .slice none 0 0] ∧ IsEx S w x a
  | .call p s l n, c => ∃ a, c = [.int .i64 3, .int .i64 p, .string s, .pointer none, a, .int .i64 n, .slice none 0 0, .slice none 0 0] ∧ IsExs S w l a
  | .cond p x th el, c => ∃ (a t u : Value) (cs ds : List (List Value)), c = [.int .i64 2, .int .i64 p, .string ⟨#[]⟩, a, .slice none 0 0, .int .i64 0, t, u] ∧ IsEx S w x a ∧ IsRow S w 99 8 t th.length cs.flatten ∧ IsStL S w th cs ∧ IsRow S w 99 8 u el.length ds.flatten ∧ IsStL S w el ds
def IsStL (S : Nat → Prop) (w : World) : List St → List (List Value) → Prop
  | [], [] => True
  | s :: l, c :: cs => IsSt S w s c ∧ IsStL S w l cs
  | [], _ :: _ => False
  | _ :: _, [] => False
end

mutual
theorem IsSt.same {S : Nat → Prop} {w w' : World} (hb : ∀ b, S b → b < w.heap.size → w'.heap[b]? = w.heap[b]?) : ∀ (s : St) (c : List Value), IsSt S w s c → IsSt S w' s c
  | .set _ _ _, _, h => by
    simp only [IsSt] at h ⊢
    obtain ⟨a, e, hx⟩ := h
    exact ⟨a, e, hx.same hb⟩
  | .call _ _ _ _, _, h => by
    simp only [IsSt] at h ⊢
    obtain ⟨a, e, hx⟩ := h
    exact ⟨a, e, hx.same hb⟩
  | .cond _ _ th el, _, h => by
    simp only [IsSt] at h ⊢
    obtain ⟨a, t, u, cs, ds, e, hx, h1, h2, h3, h4⟩ := h
    exact ⟨a, t, u, cs, ds, e, hx.same hb, h1.same hb, IsStL.same hb th cs h2, h3.same hb, IsStL.same hb el ds h4⟩
theorem IsStL.same {S : Nat → Prop} {w w' : World} (hb : ∀ b, S b → b < w.heap.size → w'.heap[b]? = w.heap[b]?) : ∀ (l : List St) (cs : List (List Value)), IsStL S w l cs → IsStL S w' l cs
  | [], [], _ => by simp only [IsStL]
  | s :: l, c :: cs, h => by
    simp only [IsStL] at h ⊢
    exact ⟨IsSt.same hb s c h.1, IsStL.same hb l cs h.2⟩
  | [], _ :: _, h => by simp only [IsStL] at h
  | _ :: _, [], h => by simp only [IsStL] at h
end
mutual
theorem IsSt.imp {S S' : Nat → Prop} {w : World} (hl : ∀ b, b < w.heap.size → S b → S' b) : ∀ (s : St) (c : List Value), IsSt S w s c → IsSt S' w s c
  | .set _ _ _, _, h => by
    simp only [IsSt] at h ⊢
    obtain ⟨a, e, hx⟩ := h
    exact ⟨a, e, hx.imp hl⟩
  | .call _ _ _ _, _, h => by
    simp only [IsSt] at h ⊢
    obtain ⟨a, e, hx⟩ := h
    exact ⟨a, e, hx.imp hl⟩
  | .cond _ _ th el, _, h => by
    simp only [IsSt] at h ⊢
    obtain ⟨a, t, u, cs, ds, e, hx, h1, h2, h3, h4⟩ := h
    exact ⟨a, t, u, cs, ds, e, hx.imp hl, h1.imp hl, IsStL.imp hl th cs h2, h3.imp hl, IsStL.imp hl el ds h4⟩
theorem IsStL.imp {S S' : Nat → Prop} {w : World} (hl : ∀ b, b < w.heap.size → S b → S' b) : ∀ (l : List St) (cs : List (List Value)), IsStL S w l cs → IsStL S' w l cs
  | [], [], _ => by simp only [IsStL]
  | s :: l, c :: cs, h => by
    simp only [IsStL] at h ⊢
    exact ⟨IsSt.imp hl s c h.1, IsStL.imp hl l cs h.2⟩
  | [], _ :: _, h => by simp only [IsStL] at h
  | _ :: _, [], h => by simp only [IsStL] at h
end
theorem IsStL.snoc {S : Nat → Prop} {w : World} {s : St} {c : List Value} (hs : IsSt S w s c) : ∀ (l : List St) (cs : List (List Value)), IsStL S w l cs → IsStL S w (l ++ [s]) (cs ++ [c])
  | [], [], _ => by simp only [List.nil_append, IsStL, hs, and_self]
  | _ :: l, _ :: cs, h => by
    simp only [List.cons_append, IsStL] at h ⊢
    exact ⟨h.1, IsStL.snoc hs l cs h.2⟩
  | [], _ :: _, h => by simp only [IsStL] at h
  | _ :: _, [], h => by simp only [IsStL] at h
theorem IsSt.form {S : Nat → Prop} {w : World} : ∀ (s : St) (c : List Value), IsSt S w s c → c.length = 8 ∧ ∀ u ∈ c, u.oneCell' = true
  | .set _ _ _, _, h => by
    simp only [IsSt] at h
    obtain ⟨a, rfl, hx⟩ := h
    obtain ⟨B, rfl⟩ := hx.ptr
    exact ⟨rfl, by simp [Value.oneCell']⟩
  | .call _ _ _ _, _, h => by
    simp only [IsSt] at h
    obtain ⟨a, rfl, vs, hr, _⟩ := h
    obtain ⟨p, q, rfl⟩ := hr.val
    exact ⟨rfl, by simp [Value.oneCell']⟩
  | .cond _ _ _ _, _, h => by
    simp only [IsSt] at h
    obtain ⟨a, t, u, cs, ds, rfl, hx, h1, _, h3, _⟩ := h
    obtain ⟨B, rfl⟩ := hx.ptr
    obtain ⟨p, q, rfl⟩ := h1.val
    obtain ⟨p', q', rfl⟩ := h3.val
    exact ⟨rfl, by simp [Value.oneCell']⟩

/-- a row of statements -/
def IsSts (S : Nat → Prop) (w : World) (l : List St) (v : Value) : Prop := ∃ cs : List (List Value), IsRow S w 99 8 v l.length cs.flatten ∧ IsStL S w l cs
theorem IsSts.same {S : Nat → Prop} {w w' : World} {l : List St} {v : Value} (h : IsSts S w l v) (hb : ∀ b, S b → b < w.heap.size → w'.heap[b]? = w.heap[b]?) : IsSts S w' l v := by
  obtain ⟨cs, h1, h2⟩ := h
  exact ⟨cs, h1.same hb, IsStL.same hb l cs h2⟩
theorem IsSts.imp {S S' : Nat → Prop} {w : World} {l : List St} {v : Value} (h : IsSts S w l v) (hl : ∀ b, b < w.heap.size → S b → S' b) : IsSts S' w l v := by
  obtain ⟨cs, h1, h2⟩ := h
  exact ⟨cs, h1.imp hl, IsStL.imp hl l cs h2⟩
theorem IsSts.nil (S : Nat → Prop) (w : World) : IsSts S w [] (.slice none 0 0) := ⟨[], IsRow.nil .., by simp only [IsStL]⟩

/-- a row of statements under way: none of what they hold lies in the row itself -/
def Growing (N : Nat) (w : World) (l : List St) (v : Value) : Prop := ∃ cs : List (List Value), IsRow (From N) w 99 8 v l.length cs.flatten ∧ IsStL (fun b => N ≤ b ∧ some b ≠ v.ownBlock) w l cs
theorem Growing.nil (N : Nat) (w : World) : Growing N w [] (.slice none 0 0) := ⟨[], IsRow.nil .., by simp only [IsStL]⟩
theorem Growing.same {N : Nat} {w w' : World} {l : List St} {v : Value} (h : Growing N w l v) (hb : ∀ b, N ≤ b → b < w.heap.size → w'.heap[b]? = w.heap[b]?) : Growing N w' l v := by
  obtain ⟨cs, h1, h2⟩ := h
  exact ⟨cs, h1.same hb, IsStL.same (fun b h => hb b h.1) l cs h2⟩
theorem Growing.done {N : Nat} {w : World} {l : List St} {v : Value} (h : Growing N w l v) : IsSts (From N) w l v := by
  obtain ⟨cs, h1, h2⟩ := h
  exact ⟨cs, h1, IsStL.imp (fun b _ h => h.1) l cs h2⟩
theorem Growing.val {N : Nat} {w : World} {l : List St} {v : Value} (h : Growing N w l v) : ∃ (a : Option Addr) (cap : Nat), v = .slice a l.length cap := by
  obtain ⟨cs, h1, h2⟩ := h
  exact h1.val

theorem sts_snoc {R N : Nat} {w0 w5 w w1 : World} {l : List St} {s : St} {c : List Value} {v v' : Value} {cs : List (List Value)} (o : Obj) (h0 : w0.heap.size = N) (hN : N ≤ w5.heap.size) (h5 : w5.heap.size ≤ w.heap.size) (hk : Kept R w0 w)
    (hv5 : ∀ b, v.ownBlock = some b → b < w5.heap.size) (hrow : IsRow (From N) w 99 8 v l.length cs.flatten) (hall : IsStL (fun b => N ≤ b ∧ some b ≠ v.ownBlock) w l cs) (hs : IsSt (From w5.heap.size) w s c)
    (hown : w1.ownsRow 0 99 8 v' (l.length + 1) (cs.flatten ++ c)) (hg : (w.alloc o).grownBy w1 v.ownBlock) (hb : v'.ownBlock = v.ownBlock ∨ v'.ownBlock = some (w.heap.size + 1)) :
    Growing N w1 (l ++ [s]) v' ∧ Kept R w0 w1 := by
  have hsz : w.heap.size ≤ (w.alloc o).heap.size := by simp
  have hs2 : IsSt (fun b => N ≤ b ∧ some b ≠ v.ownBlock) w s c := IsSt.imp (fun b _ h => ⟨Nat.le_trans hN h, fun e => by have := hv5 b e.symm; have h' : w5.heap.size ≤ b := h; omega⟩) s c hs
  have hall2 := IsStL.snoc hs2 l cs hall
  have carry : ∀ b, (N ≤ b ∧ some b ≠ v.ownBlock) → b < w.heap.size → w1.heap[b]? = w.heap[b]? := fun b h1 h2 => (hg.block b (Nat.lt_of_lt_of_le h2 hsz) h1.2).trans (Below.heap_alloc w o b h2)
  have hall3 : IsStL (fun b => (N ≤ b ∧ some b ≠ v.ownBlock) ∧ some b ≠ v'.ownBlock) w (l ++ [s]) (cs ++ [c]) := IsStL.imp (fun b h1 h2 => ⟨h2, fun e => by
    rcases hb with hb | hb
    · exact h2.2 (e.trans hb)
    · rw [hb] at e
      simp only [Option.some.injEq] at e
      omega⟩) _ _ hall2
  have hall4 := IsStL.same (w' := w1) (fun b h1 h2 => carry b h1.1 h2) _ _ hall3
  refine ⟨⟨cs ++ [c], ⟨?_, fun b hb' => ?_⟩, IsStL.imp (fun b _ h => ⟨h.1.1, h.2⟩) _ _ hall4⟩, ?_⟩
  · simpa using hown
  · show N ≤ b
    rcases hb with e | e
    · exact hrow.2 b (by rw [← e]; exact hb')
    · rw [e] at hb'
      simp only [Option.some.injEq] at hb'
      omega
  · exact grown_kept hg (fun b h => hrow.2 b h) (hk.alloc o) (by omega)
end Go.Proofs.YtgncgbngjdcpgaaGreatDoor
