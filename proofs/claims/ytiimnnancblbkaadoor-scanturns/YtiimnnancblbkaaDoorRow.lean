/-
  MEMORY: rows, their cells, and what lies in them.
-/
import Derived.Test.YtiimnnancblbkaaDoorJStm
import Derived.Test.YtiimnnancblbkaaDoorJPrt
set_option linter.unusedSimpArgs false
set_option linter.unusedVariables false
namespace Go.Proofs.YtiimnnancblbkaaDoor
open Go.RowKit

theorem all2_get {α β : Type} {p : α → β → Prop} : ∀ {l : List α} {m : List β}, All2 p l m → ∀ i (h : i < l.length), ∃ b, m[i]? = some b ∧ p l[i] b
  | a :: l, b :: m, ⟨h1, h2⟩, 0, _ => ⟨b, rfl, h1⟩
  | a :: l, b :: m, ⟨h1, h2⟩, i + 1, h => by
    obtain ⟨c, hc, hp⟩ := all2_get h2 i (by simpa using h)
    exact ⟨c, by simpa using hc, by simpa using hp⟩
theorem sz_list (s : ByteArray) : s.data.toList.length = s.size := Array.length_toList
theorem tab_str (l : List UInt8) : (⟨l.toArray⟩ : ByteArray).data.toList = l := rfl
theorem str_sz (l : List UInt8) : (⟨l.toArray⟩ : ByteArray).size = l.length := by simp [ByteArray.size]
theorem IsRow.cell {S : Nat → Prop} {e size n : Nat} {w : World} {v : Value} {xs : List Value} (h : IsRow S w e size v n xs) {g cap m : Nat} (hv : v = .slice (some ⟨g, 0, none⟩) m cap) {j : Nat} {u : Value} (hj : xs[j]? = some u) : w.cell? ⟨g, j, none⟩ = some u := by
  subst hv
  have := h.1.cells (g := g) rfl j u hj
  unfold Addr.add at this
  split at this
  · rename_i e; subst e; exact this
  · simpa using this
theorem IsRow.addr {S : Nat → Prop} {e size n : Nat} {w : World} {v : Value} {xs : List Value} (h : IsRow S w e size v n xs) (hn : 0 < n) : ∃ g cap : Nat, v = .slice (some ⟨g, 0, none⟩) n cap ∧ S g := by
  rcases h.1.2 with ⟨rfl, rfl⟩ | ⟨g, cap, cur, rfl, _⟩
  · omega
  · exact ⟨g, cap, rfl, h.2 g rfl⟩
theorem below_drewL (w : World) (n : Nat) : Below w.heap.size w (w.drewN n) := ⟨rfl, rfl, rfl, Nat.le_refl _, fun _ _ => rfl⟩
theorem sts_val {S : Nat → Prop} {w : World} {l : List St} {v : Value} (h : IsSts S w l v) : ∃ (a : Option Addr) (cap : Nat), v = .slice a l.length cap := by
  obtain ⟨cs, h1, _⟩ := h
  exact h1.val
theorem IsStL.get {S : Nat → Prop} {w : World} : ∀ {l : List St} {cs : List (List Value)}, IsStL S w l cs → ∀ i (h : i < l.length), ∃ c, cs[i]? = some c ∧ IsSt S w l[i] c
  | s :: l, c :: cs, h, 0, _ => by simp only [IsStL] at h; exact ⟨c, rfl, h.1⟩
  | s :: l, c :: cs, h, i + 1, hi => by
    simp only [IsStL] at h
    obtain ⟨d, hd, hs⟩ := IsStL.get h.2 i (by simpa using hi)
    exact ⟨d, by simpa using hd, by simpa using hs⟩
  | _ :: _, [], h, _, _ => by simp only [IsStL] at h
theorem IsStL.eight {S : Nat → Prop} {w : World} : ∀ {l : List St} {cs : List (List Value)}, IsStL S w l cs → ∀ c ∈ cs, c.length = 8
  | [], [], _, c, hc => by simp at hc
  | s :: l, d :: cs, h, c, hc => by
    simp only [IsStL] at h
    rcases List.mem_cons.1 hc with e | e
    · rw [e]; exact (IsSt.form s d h.1).1
    · exact IsStL.eight h.2 c e
  | [], _ :: _, h, _, _ => by simp only [IsStL] at h
  | _ :: _, [], h, _, _ => by simp only [IsStL] at h
theorem flat_at {α : Type} (m : Nat) : ∀ (cs : List (List α)), (∀ c ∈ cs, c.length = m) → ∀ (i : Nat) (c : List α), cs[i]? = some c → ∀ k, k < m → cs.flatten[i * m + k]? = c[k]?
  | [], _, i, c, h, _, _ => by simp at h
  | d :: cs, h8, 0, c, h, k, hk => by
    simp at h; subst h
    rw [List.flatten_cons, List.getElem?_append_left (by rw [h8 d (by simp)]; omega)]
    simp
  | d :: cs, h8, i + 1, c, h, k, hk => by
    have hd := h8 d (by simp)
    have e : (i + 1) * m + k = d.length + (i * m + k) := by rw [hd, Nat.add_mul]; omega
    rw [List.flatten_cons, e, List.getElem?_append_right (by omega), Nat.add_sub_cancel_left]
    exact flat_at m cs (fun c hc => h8 c (by simp [hc])) i c (by simpa using h) k hk
theorem goodL_mem : ∀ {l : List St}, GoodL l → ∀ s ∈ l, GoodSt s
  | s :: l, h, t, ht => by
    simp only [GoodL] at h
    rcases List.mem_cons.1 ht with e | e
    · rw [e]; exact h.1
    · exact goodL_mem h.2 t e
end Go.Proofs.YtiimnnancblbkaaDoor
