/-
  PLAIN: what is known at first; who reads whom.
-/
import Derived.Test.YtlnmemeejgnbeaaClD
set_option linter.unusedSimpArgs false
set_option linter.unusedVariables false
namespace Go.Proofs.Ytlnmemeejgnbeaa

/-- what an op reads is below a number -/
theorem nowK_pre {given : Int} {n k : Nat} {x : Nd} (hx : rightN given n k x = true) (h4 : x.op ≠ 4) {l m : List Int} (h : ∀ j, j < k → outAt l j = outAt m j) : nowK x l = nowK x m := by
  obtain ⟨op, a, b, nx⟩ := x
  simp only at h4
  unfold rightN at hx
  unfold nowK
  simp only at hx ⊢
  have one : ∀ {a : Int}, inR a k = true → kAt l a = kAt m a := by
    intro a ha
    obtain ⟨i, rfl⟩ := Int.eq_ofNat_of_zero_le (inR_iff.1 ha).1
    rw [kAt_n, kAt_n]
    exact h i (by have := (inR_iff.1 ha).2; omega)
  by_cases c1 : op = 1
  · rw [if_pos c1, if_pos c1]
  rw [if_neg c1] at hx ⊢
  rw [if_neg c1]
  by_cases c2 : op = 2
  · rw [if_pos c2, if_pos c2]
  rw [if_neg c2] at hx ⊢
  rw [if_neg c2, if_neg h4, if_neg h4]
  rw [if_neg h4] at hx
  by_cases c3 : op = 3
  · subst c3; rfl
  rw [if_neg c3] at hx
  by_cases c5 : op = 5
  · subst c5
    obtain ⟨h1, h2⟩ := Bool.and_eq_true_iff.1 (show (inR a k && inR b k) = true from hx)
    rw [one h1, one h2]
  rw [if_neg c5] at hx
  by_cases c6 : op = 6
  · subst c6
    obtain ⟨h1, h2⟩ := Bool.and_eq_true_iff.1 (show (inR a k && inR b k) = true from hx)
    rw [one h1, one h2]
  rw [if_neg c6] at hx
  by_cases c7 : op = 7
  · subst c7
    obtain ⟨h1, h2⟩ := Bool.and_eq_true_iff.1 (show (inR a k && inR b k) = true from hx)
    rw [one h1, one h2]
  rw [if_neg c7] at hx
  by_cases c8 : op = 8
  · subst c8
    rw [one (show inR a k = true from hx)]; rfl
  · rw [if_neg c8] at hx; cases hx
theorem xor_tri {a b : Int} : Tri (xorK a b) := by
  unfold Tri xorK
  split
  · omega
  split
  · omega
  split <;> omega
theorem nowK_tri {given : Int} {n k : Nat} {x : Nd} (hx : rightN given n k x = true) {l : List Int} (h : ∀ j, j < k → Tri (outAt l j)) : Tri (nowK x l) := by
  obtain ⟨op, a, b, nx⟩ := x
  unfold rightN at hx
  unfold nowK
  simp only at hx ⊢
  have one : ∀ {a : Int}, inR a k = true → Tri (kAt l a) := by
    intro a ha
    obtain ⟨i, rfl⟩ := Int.eq_ofNat_of_zero_le (inR_iff.1 ha).1
    rw [kAt_n]
    exact h i (by have := (inR_iff.1 ha).2; omega)
  by_cases c1 : op = 1
  · rw [if_pos c1]; exact ⟨by decide, by decide⟩
  rw [if_neg c1] at hx ⊢
  by_cases c2 : op = 2
  · rw [if_pos c2]; exact ⟨by decide, by decide⟩
  rw [if_neg c2] at hx ⊢
  by_cases c4 : op = 4
  · subst c4
    rw [if_pos rfl]
    have h4 := inR_iff.1 (Bool.and_eq_true_iff.1 (show (inR a 2 && inR nx n) = true from hx)).1
    split
    · exact ⟨h4.1, by omega⟩
    · exact ⟨by decide, by decide⟩
  rw [if_neg c4] at hx ⊢
  by_cases c3 : op = 3
  · subst c3; show Tri 2; exact ⟨by decide, by decide⟩
  rw [if_neg c3] at hx
  by_cases c5 : op = 5
  · subst c5
    obtain ⟨h1, h2⟩ := Bool.and_eq_true_iff.1 (show (inR a k && inR b k) = true from hx)
    exact least_tri (one h1) (one h2)
  rw [if_neg c5] at hx
  by_cases c6 : op = 6
  · subst c6
    obtain ⟨h1, h2⟩ := Bool.and_eq_true_iff.1 (show (inR a k && inR b k) = true from hx)
    exact turn_tri (least_tri (turn_tri (one h1)) (turn_tri (one h2)))
  rw [if_neg c6] at hx
  by_cases c7 : op = 7
  · subst c7
    exact xor_tri
  rw [if_neg c7] at hx
  by_cases c8 : op = 8
  · subst c8
    exact turn_tri (one (show inR a k = true from hx))
  · rw [if_neg c8] at hx; cases hx
theorem outAt_app_left {l m : List Int} {i : Nat} (h : i < l.length) : outAt (l ++ m) i = outAt l i := by
  unfold outAt; rw [List.getElem?_append_left h]
theorem outAt_app_at {l m : List Int} {v : Int} {i : Nat} (h : l.length = i) : outAt (l ++ v :: m) i = v := by
  subst h; simp [outAt]
theorem initTo_len (ns : List Nd) : ∀ k, (initTo ns k).length = k
  | 0 => rfl
  | k + 1 => by simp [initTo, initTo_len ns k]
theorem firstK_tri {given : Int} {n k : Nat} {x : Nd} (hx : rightN given n k x = true) {l : List Int} (h : ∀ j, j < k → Tri (outAt l j)) : Tri (firstK x l) := by
  unfold firstK
  split
  · rename_i h4
    obtain ⟨op, a, b, nx⟩ := x
    simp only at h4
    subst h4
    have h4 := inR_iff.1 (Bool.and_eq_true_iff.1 (show (inR a 2 && inR nx n) = true from hx)).1
    exact ⟨h4.1, by simp only; omega⟩
  · exact nowK_tri hx h
theorem initTo_tri {given : Int} {ns : List Nd} {os : List Int} (hr : RightP given ns os) : ∀ k, k ≤ ns.length → ∀ j, j < k → Tri (outAt (initTo ns k) j)
  | 0, _, j, hj => absurd hj (Nat.not_lt_zero _)
  | k + 1, hk, j, hj => by
    have ih := initTo_tri hr k (by omega)
    have hl := initTo_len ns k
    by_cases e : j = k
    · subst e
      rw [initTo, outAt_app_at hl]
      exact firstK_tri (hr.nodes j (by omega)) ih
    · rw [initTo, outAt_app_left (by omega)]
      exact ih j (by omega)
theorem rowI_set (l : List Int) (n k : Nat) (v : Int) (hl : l.length = k) (hk : k < n) : (l ++ List.replicate (n - k) 0).set k v = (l ++ [v]) ++ List.replicate (n - (k + 1)) 0 := by
  subst hl
  rw [List.set_append_right _ _ (Nat.le_refl _), Nat.sub_self]
  obtain ⟨m, hm⟩ : ∃ m, n - l.length = m + 1 := ⟨n - l.length - 1, by omega⟩
  rw [hm, show n - (l.length + 1) = m by omega, List.replicate_succ]
  simp

/-- all that reads is a node -/
def AllIn (n : Nat) (rd : List (List Int)) : Prop := ∀ (j : Nat) (l : List Int), rd[j]? = some l → ∀ m, m < l.length → ∃ q : Nat, q < n ∧ outAt l m = q
theorem AllIn.add {n : Nat} {rd : List (List Int)} (h : AllIn n rd) (j : Int) {i : Nat} (hi : i < n) : AllIn n (rdAdd rd j i) := by
  intro a l hl m hm
  unfold rdAdd at hl
  rw [List.getElem?_set] at hl
  split at hl
  · split at hl
    · rename_i hj
      cases hl
      by_cases hm2 : m < (rdAt rd j.toNat).length
      · rw [outAt_app_left hm2]
        exact h j.toNat (rdAt rd j.toNat) (by simp [rdAt, hj]) m hm2
      · have : m = (rdAt rd j.toNat).length := by simp at hm; omega
        subst this
        exact ⟨i, hi, outAt_app_at rfl⟩
    · cases hl
  · exact h a l hl m hm
theorem AllIn.step {n : Nat} {rd : List (List Int)} (h : AllIn n rd) (x : Nd) {i : Nat} (hi : i < n) : AllIn n (rdStep rd x i) := by
  unfold rdStep
  split
  · exact h.add _ hi
  split
  · exact h.add _ hi
  split
  · exact (h.add _ hi).add _ hi
  split
  · exact (h.add _ hi).add _ hi
  split
  · exact (h.add _ hi).add _ hi
  · exact h
theorem rdTo_in (ns : List Nd) : ∀ k, k ≤ ns.length → AllIn ns.length (rdTo ns k)
  | 0, _ => by
    intro j l hl m hm
    rw [rdTo, List.getElem?_replicate] at hl
    split at hl
    · cases hl; exact absurd hm (Nat.not_lt_zero _)
    · cases hl
  | k + 1, hk => (rdTo_in ns k (by omega)).step _ (by omega)
end Go.Proofs.Ytlnmemeejgnbeaa
