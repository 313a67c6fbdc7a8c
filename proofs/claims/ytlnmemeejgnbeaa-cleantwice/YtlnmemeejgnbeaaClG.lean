/-
  PLAIN: what a maker makes is as it must be.
-/
import Derived.Test.YtlnmemeejgnbeaaClA
import Derived.Test.YtlnmemeejgnbeaaClQ
set_option linter.unusedSimpArgs false
set_option linter.unusedVariables false
namespace Go.Proofs.Ytlnmemeejgnbeaa

/-- a request that may be -/
def RqOK (ms : List Nd) : Rq → Prop
  | .num k => In ms k
  | .req x => (x.op = 8 → In ms x.a) ∧ (isTwo x.op = true → In ms x.a ∧ In ms x.b)
theorem not_ok {ms : List Nd} (h : Ahead ms) {a : Int} (ha : In ms a) : RqOK ms (notR ms a) := by
  unfold notR
  split
  · rename_i hs; exact other_in h ha hs
  · exact ⟨fun _ => ha, fun h => by cases h⟩
theorem two_ok {ms : List Nd} {op a b : Int} (h8 : op ≠ 8) (ha : In ms a) (hb : In ms b) : RqOK ms (twoR op a b) := by
  refine ⟨fun e => absurd e h8, fun _ => ⟨?_, ?_⟩⟩
  · rcases Int.le_total a b with h | h
    · rw [Int.min_eq_left h]; exact ha
    · rw [Int.min_eq_right h]; exact hb
  · rcases Int.le_total a b with h | h
    · rw [Int.max_eq_right h]; exact hb
    · rw [Int.max_eq_left h]; exact ha
theorem join_ok {ms : List Nd} (h : Ahead ms) {op : Int} (h8 : op ≠ 8) : ∀ (f : Nat) {a b : Int}, In ms a → In ms b → RqOK ms (joinR ms f op a b)
  | 0, a, b, ha, hb => In.small h ⟨by decide, by decide⟩
  | f + 1, a, b, ha, hb => by
    rw [joinR]
    split
    · rename_i hs; exact free_in h ha hb hs
    split
    · split
      · exact two_ok h8 ha hb
      · exact join_ok h h8 f (where_in h (idle_le op) b 3 ha) hb
    · exact join_ok h h8 f ha (where_in h (idle_le op) a 3 hb)
theorem xor_ok {ms : List Nd} (h : Ahead ms) : ∀ (f : Nat) {a b : Int}, In ms a → In ms b → RqOK ms (xorR ms f a b)
  | 0, a, b, ha, hb => In.small h ⟨by decide, by decide⟩
  | f + 1, a, b, ha, hb => by
    rw [xorR]
    split
    · rename_i hs; exact free_in h ha hb hs
    split
    · exact not_ok h hb
    split
    · exact not_ok h ha
    split
    · rename_i hs; exact xor_ok h f (h.one ha hs.1) (h.one hb hs.2)
    · exact two_ok (by decide) ha hb
/-- of what may stand at number k, what is read is ahead of it -/
theorem right_cases {given : Int} {n k : Nat} {x : Nd} (hx : rightN given n k x = true) : x.op = 1 ∨ x.op = 2 ∨ (x.op = 3 ∧ 0 ≤ x.a ∧ x.a < given) ∨ (x.op = 4 ∧ 0 ≤ x.a ∧ x.a < 2 ∧ ∃ q : Nat, x.next = q ∧ q < n) ∨ (isTwo x.op = true ∧ x.op ≠ 8 ∧ x.op ≠ 1 ∧ x.op ≠ 2 ∧ x.op ≠ 3 ∧ x.op ≠ 4 ∧ ∃ i j : Nat, x.a = i ∧ x.b = j ∧ i < k ∧ j < k) ∨ (x.op = 8 ∧ ∃ i : Nat, x.a = i ∧ i < k) := by
  obtain ⟨op, a, b, nx⟩ := x
  unfold rightN at hx
  simp only at hx ⊢
  have two : (inR a k && inR b k) = true → ∃ i j : Nat, a = i ∧ b = j ∧ i < k ∧ j < k := by
    intro h
    simp only [Bool.and_eq_true, inR_iff] at h
    obtain ⟨i, rfl⟩ := Int.eq_ofNat_of_zero_le h.1.1
    obtain ⟨j, rfl⟩ := Int.eq_ofNat_of_zero_le h.2.1
    exact ⟨i, j, rfl, rfl, by omega, by omega⟩
  by_cases c1 : op = 1
  · exact .inl c1
  by_cases c2 : op = 2
  · exact .inr (.inl c2)
  rw [if_neg c1, if_neg c2] at hx
  by_cases c3 : op = 3
  · rw [if_pos c3] at hx
    exact .inr (.inr (.inl ⟨c3, inR_iff.1 hx⟩))
  rw [if_neg c3] at hx
  by_cases c4 : op = 4
  · rw [if_pos c4] at hx
    obtain ⟨h1, h2⟩ := Bool.and_eq_true_iff.1 hx
    obtain ⟨q, rfl⟩ := Int.eq_ofNat_of_zero_le (inR_iff.1 h2).1
    exact .inr (.inr (.inr (.inl ⟨c4, (inR_iff.1 h1).1, (inR_iff.1 h1).2, q, rfl, by have := (inR_iff.1 h2).2; omega⟩)))
  rw [if_neg c4] at hx
  by_cases c5 : op = 5
  · subst c5
    exact .inr (.inr (.inr (.inr (.inl ⟨rfl, by decide, c1, c2, c3, c4, two hx⟩))))
  rw [if_neg c5] at hx
  by_cases c6 : op = 6
  · subst c6
    exact .inr (.inr (.inr (.inr (.inl ⟨rfl, by decide, c1, c2, c3, c4, two hx⟩))))
  rw [if_neg c6] at hx
  by_cases c7 : op = 7
  · subst c7
    exact .inr (.inr (.inr (.inr (.inl ⟨rfl, by decide, c1, c2, c3, c4, two hx⟩))))
  rw [if_neg c7] at hx
  by_cases c8 : op = 8
  · rw [if_pos c8] at hx
    obtain ⟨i, rfl⟩ := Int.eq_ofNat_of_zero_le (inR_iff.1 hx).1
    exact .inr (.inr (.inr (.inr (.inr ⟨c8, i, rfl, by have := (inR_iff.1 hx).2; omega⟩))))
  · rw [if_neg c8] at hx; cases hx
theorem two_cases {op : Int} (h : isTwo op = true) : op = 5 ∨ op = 6 ∨ op = 7 := by
  simp [isTwo] at h; exact h
theorem anew_ok {ms : List Nd} (h : Ahead ms) {st : List Int} {given : Int} {n k : Nat} {x : Nd} (hx : rightN given n k x = true) (h1 : x.op ≠ 1) (h2 : x.op ≠ 2) (hv : ∀ i, i < k → In ms (outAt st i)) : RqOK ms (anewR ms st x) := by
  obtain ⟨op, a, b, nx⟩ := x
  rcases right_cases hx with c | c | c | c | c | c
  · exact absurd c h1
  · exact absurd c h2
  · obtain ⟨rfl, _⟩ := c
    exact ⟨fun e => (by cases e), fun e => by cases e⟩
  · obtain ⟨rfl, _⟩ := c
    exact ⟨fun e => (by cases e), fun e => by cases e⟩
  · obtain ⟨c1, c2, _, _, c3, c4, i, j, e1, e2, hi, hj⟩ := c
    simp only at c1 c2 c3 c4 e1 e2
    subst e1 e2
    unfold anewR
    simp only [kAt_nat]
    rw [if_neg c3, if_neg c4]
    split
    · exact join_ok h (by decide) _ (hv i hi) (hv j hj)
    split
    · exact join_ok h (by decide) _ (hv i hi) (hv j hj)
    split
    · exact xor_ok h _ (hv i hi) (hv j hj)
    · rcases two_cases c1 with e | e | e <;> contradiction
  · obtain ⟨c8, i, e1, hi⟩ := c
    simp only at c8 e1
    subst c8 e1
    show RqOK ms (notR ms (kAt st (i : Int)))
    rw [kAt_nat]
    exact not_ok h (hv i hi)
theorem anew_pre {ms : List Nd} {st sl : List Int} {given : Int} {n k : Nat} {x : Nd} (hx : rightN given n k x = true) (h1 : x.op ≠ 1) (h2 : x.op ≠ 2) (hv : ∀ i, i < k → outAt sl i = outAt st i) : anewR ms sl x = anewR ms st x := by
  obtain ⟨op, a, b, nx⟩ := x
  rcases right_cases hx with c | c | c | c | c | c
  · exact absurd c h1
  · exact absurd c h2
  · obtain ⟨rfl, _⟩ := c; rfl
  · obtain ⟨rfl, _⟩ := c; rfl
  · obtain ⟨c1, c2, _, _, c3, c4, i, j, e1, e2, hi, hj⟩ := c
    simp only at e1 e2
    subst e1 e2
    unfold anewR
    simp only [kAt_nat]
    rw [hv i hi, hv j hj]
  · obtain ⟨c8, i, e1, hi⟩ := c
    simp only at c8 e1
    subst c8 e1
    show notR ms (kAt sl (i : Int)) = notR ms (kAt st (i : Int))
    rw [kAt_nat, kAt_nat, hv i hi]
theorem find_lt {l : List Nd} {x : Nd} : ∀ {k m : Nat}, findN l x k = some m → k ≤ m ∧ m < k + l.length ∧ ndAt l (m - k) = x := by
  induction l with
  | nil => intro k m h; cases h
  | cons y l ih =>
    intro k m h
    unfold findN at h
    split at h
    · rename_i hy
      cases h
      refine ⟨Nat.le_refl _, by simp, ?_⟩
      rw [Nat.sub_self]
      exact eqN_iff.1 hy
    · obtain ⟨a, b, c⟩ := ih h
      refine ⟨by omega, by simp; omega, ?_⟩
      have : m - k = (m - (k + 1)) + 1 := by omega
      rw [this]
      simpa [ndAt] using c
theorem ndAt_left {l m : List Nd} {i : Nat} (h : i < l.length) : ndAt (l ++ m) i = ndAt l i := by
  unfold ndAt; rw [List.getElem?_append_left h]
theorem ndAt_last (l : List Nd) (x : Nd) : ndAt (l ++ [x]) l.length = x := by simp [ndAt]
theorem Ahead.snoc {ms : List Nd} (h : Ahead ms) {x : Nd} (hx : RqOK ms (.req x)) : Ahead (ms ++ [x]) := by
  refine ⟨by have := h.1; simp; omega, fun k hk => ?_⟩
  by_cases hl : k < ms.length
  · rw [ndAt_left hl]; exact h.2 k hl
  · obtain rfl : k = ms.length := by simp at hk; omega
    rw [ndAt_last]
    exact ⟨fun e => hx.1 e, fun e => hx.2 e⟩
theorem done_none {ms : List Nd} {x : Nd} (h : findN ms x 0 = none) : doneR ms (.req x) = ((ms.length : Int), ms ++ [x]) := by simp [doneR, nodeM, h]
theorem done_some {ms : List Nd} {x : Nd} {k : Nat} (h : findN ms x 0 = some k) : doneR ms (.req x) = ((k : Int), ms) := by simp [doneR, nodeM, h]
/-- what is done with a request: the maker grows by one, or not at all -/
theorem done_grows {ms : List Nd} (h : Ahead ms) {r : Rq} (hr : RqOK ms r) : Ahead (doneR ms r).2 ∧ In (doneR ms r).2 (doneR ms r).1 ∧ ((doneR ms r).2 = ms ∨ ∃ x, r = .req x ∧ (doneR ms r).2 = ms ++ [x] ∧ (doneR ms r).1 = ms.length) := by
  cases r with
  | num k => exact ⟨h, hr, .inl rfl⟩
  | req x =>
    cases hf : findN ms x 0 with
    | none =>
      rw [done_none hf]
      exact ⟨h.snoc hr, ⟨by simp, by simp; omega⟩, .inr ⟨x, rfl, rfl, rfl⟩⟩
    | some k =>
      have := find_lt hf
      rw [done_some hf]
      exact ⟨h, ⟨by simp, by simp; omega⟩, .inl rfl⟩
theorem In.mono {ms ms' : List Nd} {a : Int} (h : In ms a) (hl : ms.length ≤ ms'.length) : In ms' a := ⟨h.1, by have := h.2; omega⟩
/-- of what is known: of Zero and One it is so -/
def KnOK (ns : List Nd) (is : List Int) : Prop := is.length = ns.length ∧ TriL is ∧ ∀ i, i < ns.length → outAt is i = 2 → (ndAt ns i).op ≠ 1 ∧ (ndAt ns i).op ≠ 2
structure MkGood (k : Nat) (m : Mk) : Prop where
  len : m.st.length = k
  ahead : Ahead m.ms
  few : m.ms.length ≤ 2 + k
  all : ∀ i, i < k → In m.ms (outAt m.st i)
theorem ahead0 : Ahead ms0 := by
  refine ⟨Nat.le_refl _, fun k hk => ?_⟩
  have : k = 0 ∨ k = 1 := by simp [ms0] at hk; omega
  rcases this with rfl | rfl
  · exact ⟨fun e => absurd e (by decide), fun e => absurd e (by decide)⟩
  · exact ⟨fun e => absurd e (by decide), fun e => absurd e (by decide)⟩
theorem mkTo_good {given : Int} {ns : List Nd} {os : List Int} (hr : RightP given ns os) {is : List Int} (hk : KnOK ns is) : ∀ k, k ≤ ns.length → MkGood k (mkTo is ns k)
  | 0, _ => ⟨rfl, ahead0, Nat.le_refl _, fun i hi => absurd hi (Nat.not_lt_zero _)⟩
  | k + 1, hle => by
    have g := mkTo_good hr hk k (by omega)
    have e0 : mkTo is ns (k + 1) = mkStep (mkTo is ns k) (outAt is k) (ndAt ns k) := rfl
    rw [e0]
    generalize mkTo is ns k = m at *
    unfold mkStep
    split
    · rename_i h2
      have hx := hr.nodes k (by omega)
      have ho := hk.2.2 k (by omega) h2
      obtain ⟨d1, d2, d3⟩ := done_grows g.ahead (anew_ok g.ahead hx ho.1 ho.2 g.all)
      have hl : m.ms.length ≤ (doneR m.ms (anewR m.ms m.st (ndAt ns k))).2.length ∧ (doneR m.ms (anewR m.ms m.st (ndAt ns k))).2.length ≤ m.ms.length + 1 := by
        rcases d3 with e | ⟨x, _, e, _⟩ <;> rw [e]
        · exact ⟨Nat.le_refl _, by omega⟩
        · simp
      refine ⟨by simp [g.len], d1, by have := g.few; simp only; omega, fun i hi => ?_⟩
      by_cases e : i = k
      · subst e
        simp only
        rw [outAt_app_at g.len]
        exact d2
      · simp only
        rw [outAt_app_left (by rw [g.len]; omega)]
        exact (g.all i (by omega)).mono hl.1
    · rename_i h2
      refine ⟨by simp [g.len], g.ahead, by have := g.few; simp only; omega, fun i hi => ?_⟩
      by_cases e : i = k
      · subst e
        simp only
        rw [outAt_app_at g.len]
        have := hk.2.1 i (by rw [hk.1]; omega)
        unfold Tri at this
        exact In.small g.ahead ⟨this.1, by omega⟩
      · simp only
        rw [outAt_app_left (by rw [g.len]; omega)]
        exact g.all i (by omega)
end Go.Proofs.Ytlnmemeejgnbeaa
