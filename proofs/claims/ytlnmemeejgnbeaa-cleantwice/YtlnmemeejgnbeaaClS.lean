/-
  PLAIN: what is known is so; what is made does the same.
-/
import Derived.Test.YtlnmemeejgnbeaaClG
set_option linter.unusedSimpArgs false
set_option linter.unusedVariables false
namespace Go.Proofs.Ytlnmemeejgnbeaa

/-- to know less of what is read leaves what is known, or nothing -/
def Less (l m : List Int) : Prop := ∀ i, outAt m i = outAt l i ∨ outAt m i = 2
theorem Less.k {l m : List Int} (h : Less l m) (a : Int) : kAt m a = kAt l a ∨ kAt m a = 2 := h a.toNat
theorem turn_less {a b : Int} (h : b = a ∨ b = 2) : turnK b = turnK a ∨ turnK b = 2 := by
  rcases h with rfl | rfl
  · exact .inl rfl
  · exact .inr rfl
theorem least_less {a b c d : Int} (ta : Tri a) (tc : Tri c) (h : b = a ∨ b = 2) (k : d = c ∨ d = 2) : leastK b d = leastK a c ∨ leastK b d = 2 := by
  unfold Tri at *
  unfold leastK
  rcases h with rfl | rfl <;> rcases k with rfl | rfl
  · exact .inl rfl
  · split
    · exact .inl rfl
    · right; rw [if_neg (by decide)]; omega
  · by_cases hc : d = 0
    · left; simp [hc]
    · right; simp [hc]; omega
  · right; decide
theorem xor_less {a b c d : Int} (h : b = a ∨ b = 2) (k : d = c ∨ d = 2) : xorK b d = xorK a c ∨ xorK b d = 2 := by
  unfold xorK
  rcases h with rfl | rfl
  · rcases k with rfl | rfl
    · exact .inl rfl
    · right; split <;> rfl
  · right; rfl
theorem now_less {given : Int} {n k : Nat} {x : Nd} (hx : rightN given n k x = true) {l m : List Int} (h : Less l m) (ht : ∀ j, j < k → Tri (outAt l j)) : nowK x m = nowK x l ∨ nowK x m = 2 := by
  obtain ⟨op, a, b, nx⟩ := x
  have one : ∀ {i : Nat}, i < k → Tri (kAt l (i : Int)) := fun hi => by rw [kAt_n]; exact ht _ hi
  rcases right_cases hx with c | c | c | c | c | c
  · simp only at c; subst c; exact .inl rfl
  · simp only at c; subst c; exact .inl rfl
  · obtain ⟨rfl, _⟩ := c; exact .inl rfl
  · obtain ⟨rfl, _⟩ := c
    show (if kAt m nx = a then a else 2) = (if kAt l nx = a then a else 2) ∨ (if kAt m nx = a then a else 2) = 2
    rcases h.k nx with e | e
    · rw [e]; exact .inl rfl
    · rw [e]
      by_cases h2 : (2 : Int) = a
      · right; rw [if_pos h2, ← h2]
      · right; rw [if_neg h2]
  · obtain ⟨c1, c2, _, _, c3, c4, i, j, e1, e2, hi, hj⟩ := c
    simp only at c1 c2 c3 c4 e1 e2
    subst e1 e2
    rcases two_cases c1 with e | e | e
    · subst e; exact least_less (one hi) (one hj) (h.k _) (h.k _)
    · subst e; exact turn_less (least_less (turn_tri (one hi)) (turn_tri (one hj)) (turn_less (h.k _)) (turn_less (h.k _)))
    · subst e; exact xor_less (h.k _) (h.k _)
  · obtain ⟨c8, i, e1, hi⟩ := c
    simp only at c8 e1
    subst c8 e1
    exact turn_less (h.k _)
/-- what a node reads -/
def Reads (x : Nd) (j : Nat) : Prop := (x.op = 4 ∧ x.next = j) ∨ (x.op = 8 ∧ x.a = j) ∨ (isTwo x.op = true ∧ (x.a = j ∨ x.b = j))
/-- what is known of a node hangs on what it reads alone -/
theorem now_reads {given : Int} {n k : Nat} {x : Nd} (hx : rightN given n k x = true) {l m : List Int} (h : ∀ j, Reads x j → outAt m j = outAt l j) : nowK x m = nowK x l := by
  obtain ⟨op, a, b, nx⟩ := x
  rcases right_cases hx with c | c | c | c | c | c
  · simp only at c; subst c; rfl
  · simp only at c; subst c; rfl
  · obtain ⟨rfl, _⟩ := c; rfl
  · obtain ⟨rfl, _, _, q, e, _⟩ := c
    simp only at e
    subst e
    show (if kAt m (q : Int) = a then a else 2) = (if kAt l (q : Int) = a then a else 2)
    rw [kAt_n, kAt_n, h q (.inl ⟨rfl, rfl⟩)]
  · obtain ⟨c1, c2, _, _, c3, c4, i, j, e1, e2, hi, hj⟩ := c
    simp only at c1 c2 c3 c4 e1 e2
    subst e1 e2
    have h1 := h i (.inr (.inr ⟨c1, .inl rfl⟩))
    have h2 := h j (.inr (.inr ⟨c1, .inr rfl⟩))
    unfold nowK
    simp only [kAt_n, h1, h2]
    rw [if_neg c4, if_neg c4]
  · obtain ⟨c8, i, e1, hi⟩ := c
    simp only at c8 e1
    subst c8 e1
    show turnK (kAt m (i : Int)) = turnK (kAt l (i : Int))
    rw [kAt_n, kAt_n, h i (.inr (.inl ⟨rfl, rfl⟩))]
/-- whoever reads is among the readers -/
theorem rdAdd_at (rd : List (List Int)) (j : Nat) (i : Nat) (hj : j < rd.length) : (i : Int) ∈ rdAt (rdAdd rd (j : Int) i) j := by
  unfold rdAt rdAdd
  rw [Int.toNat_natCast, List.getElem?_set_self hj]
  simp
theorem rdAdd_keep (rd : List (List Int)) (a : Int) (i : Nat) {j : Nat} {v : Int} (h : v ∈ rdAt rd j) : v ∈ rdAt (rdAdd rd a i) j := by
  unfold rdAt rdAdd at *
  rw [List.getElem?_set]
  split
  · rename_i e
    split
    · subst e; simp; left; exact h
    · rename_i hl
      rw [List.getElem?_eq_none (by omega)] at h
      exact absurd h (by simp)
  · exact h
theorem rdStep_keep (rd : List (List Int)) (x : Nd) (i : Nat) {j : Nat} {v : Int} (h : v ∈ rdAt rd j) : v ∈ rdAt (rdStep rd x i) j := by
  unfold rdStep
  repeat' split
  all_goals first | exact rdAdd_keep _ _ _ h | exact rdAdd_keep _ _ _ (rdAdd_keep _ _ _ h) | exact h
theorem rdStep_at (rd : List (List Int)) (x : Nd) (i j : Nat) (hj : j < rd.length) (h : Reads x j) : (i : Int) ∈ rdAt (rdStep rd x i) j := by
  obtain ⟨op, a, b, nx⟩ := x
  rcases h with ⟨h1, h2⟩ | ⟨h1, h2⟩ | ⟨h1, h2⟩ <;> simp only at h1 h2
  · subst h1 h2; exact rdAdd_at _ _ _ hj
  · subst h1 h2; exact rdAdd_at _ _ _ hj
  · have hs : rdStep rd ⟨op, a, b, nx⟩ i = rdAdd (rdAdd rd a i) b i := by
      rcases two_cases h1 with e | e | e <;> subst e <;> rfl
    rw [hs]
    rcases h2 with e | e
    · subst e; exact rdAdd_keep _ _ _ (rdAdd_at _ _ _ hj)
    · subst e; exact rdAdd_at _ _ _ (by rw [rdAdd_len]; exact hj)
theorem rdTo_has (ns : List Nd) : ∀ (k i j : Nat), i < k → k ≤ ns.length → j < ns.length → Reads (ndAt ns i) j → (i : Int) ∈ rdAt (rdTo ns k) j
  | 0, i, j, h, _, _, _ => absurd h (Nat.not_lt_zero _)
  | k + 1, i, j, h, hk, hj, hr => by
    by_cases e : i = k
    · subst e; exact rdStep_at _ _ _ _ (by rw [rdTo_len]; exact hj) hr
    · exact rdStep_keep _ _ _ (rdTo_has ns k i j (by omega) (by omega) hj hr)

/-- not open, but such as it reads leaves it so -/
def Bad (ns : List Nd) (is : List Int) (i : Nat) : Prop := i < ns.length ∧ outAt is i ≠ 2 ∧ nowK (ndAt ns i) is = 2
/-- all that is so far known fits what is known of what it reads, or is to be doubted -/
structure Fits (ns : List Nd) (is : List Int) : Prop where
  len : is.length = ns.length
  tri : TriL is
  fit : ∀ i, i < ns.length → outAt is i ≠ 2 → nowK (ndAt ns i) is = outAt is i ∨ nowK (ndAt ns i) is = 2
theorem set_less (l : List Int) (i : Nat) : Less l (l.set i 2) := by
  intro j
  by_cases e : i = j
  · subst e
    by_cases h : i < l.length
    · exact .inr (outAt_set_self _ _ _ h)
    · left; rw [List.set_eq_of_length_le (by omega)]
  · exact .inl (outAt_set_ne _ _ _ _ e)
theorem Fits.set {given : Int} {ns : List Nd} {os : List Int} (hr : RightP given ns os) {is : List Int} (h : Fits ns is) (i : Nat) : Fits ns (is.set i 2) := by
  refine ⟨by rw [List.length_set]; exact h.len, h.tri.set i, fun j hj hne => ?_⟩
  have hl := set_less is i j
  have e : outAt (is.set i 2) j = outAt is j := by
    rcases hl with e | e
    · exact e
    · exact absurd e hne
  rw [e] at hne ⊢
  have hn := now_less (hr.nodes j hj) (set_less is i) (fun q hq => h.tri q (by rw [h.len]; omega))
  rcases hn with e1 | e1
  · rw [e1]; exact h.fit j hj hne
  · exact .inr e1
theorem bad_set {given : Int} {ns : List Nd} {os : List Int} (hr : RightP given ns os) {is : List Int} (h : Fits ns is) {i : Nat} (hi : i < ns.length) {j : Nat} (hb : Bad ns (is.set i 2) j) : (Bad ns is j ∧ j ≠ i) ∨ (j : Int) ∈ rdAt (rdP ns) i := by
  obtain ⟨hj, h1, h2⟩ := hb
  have hne : j ≠ i := fun e => by
    subst e
    exact h1 (outAt_set_self _ _ _ (by rw [h.len]; exact hi))
  rw [outAt_set_ne _ _ _ _ (Ne.symm hne)] at h1
  by_cases hr' : Reads (ndAt ns j) i
  · exact .inr (rdTo_has ns ns.length j i hj (Nat.le_refl _) hi hr')
  · left
    refine ⟨⟨hj, h1, ?_⟩, hne⟩
    rw [← h2]
    refine (now_reads (hr.nodes j hj) fun q hq => ?_).symm
    by_cases e : q = i
    · subst e; exact absurd hq hr'
    · exact outAt_set_ne _ _ _ _ (Ne.symm e)
theorem doubt_fits {given : Int} {ns : List Nd} {os : List Int} (hr : RightP given ns os) : ∀ (f : Nat) (i : Nat) (is : List Int), i < ns.length → Fits ns is → cntC is ≤ f → Fits ns (doubtF ns (rdP ns) f i is) ∧ (∀ j, Bad ns (doubtF ns (rdP ns) f i is) j → Bad ns is j ∧ j ≠ i) ∧ (∀ j, outAt (doubtF ns (rdP ns) f i is) j = outAt is j ∨ outAt (doubtF ns (rdP ns) f i is) j = 2)
  | 0, i, is, hi, h, hc => by
    have v2 : outAt is i = 2 := by
      rcases Classical.em (outAt is i = 2) with e | e
      · exact e
      · have := cntC_set is i (by rw [h.len]; exact hi) e; omega
    exact ⟨h, fun j hb => ⟨hb, fun e => hb.2.1 (e ▸ v2)⟩, fun j => .inl rfl⟩
  | f + 1, i, is, hi, h, hc => by
    rw [doubtF, kAt_n, Int.toNat_natCast]
    split
    · rename_i v2
      exact ⟨h, fun j hb => ⟨hb, fun e => hb.2.1 (e ▸ v2)⟩, fun j => .inl rfl⟩
    · rename_i v2
      split
      · rename_i v3
        have hcc := cntC_set is i (by rw [h.len]; exact hi) v2
        have fold : ∀ (l : List Int) (s : List Int), (∀ v ∈ l, ∃ q : Nat, q < ns.length ∧ v = q) → Fits ns s → cntC s ≤ f →
            Fits ns (l.foldl (fun s r => doubtF ns (rdP ns) f r s) s) ∧ (∀ j, Bad ns (l.foldl (fun s r => doubtF ns (rdP ns) f r s) s) j → Bad ns s j ∧ (j : Int) ∉ l) ∧ (∀ j, outAt (l.foldl (fun s r => doubtF ns (rdP ns) f r s) s) j = outAt s j ∨ outAt (l.foldl (fun s r => doubtF ns (rdP ns) f r s) s) j = 2) := by
          intro l
          induction l with
          | nil => intro s _ hs _; exact ⟨hs, fun j hb => ⟨hb, by simp⟩, fun j => .inl rfl⟩
          | cons v l ih =>
            intro s hv hs hcs
            obtain ⟨q, hq, rfl⟩ := hv v (by simp)
            obtain ⟨a1, a2, a3⟩ := doubt_fits hr f q s hq hs hcs
            obtain ⟨b1, b2, b3⟩ := ih (doubtF ns (rdP ns) f q s) (fun v hv' => hv v (by simp [hv'])) a1 (Nat.le_trans (doubt_keeps ns (rdP ns) f q s).2.1 hcs)
            refine ⟨b1, fun j hb => ?_, fun j => ?_⟩
            · obtain ⟨c1, c2⟩ := b2 j hb
              obtain ⟨d1, d2⟩ := a2 j c1
              refine ⟨d1, fun hm => ?_⟩
              rcases List.mem_cons.1 hm with e | e
              · exact d2 (by omega)
              · exact c2 e
            · rcases b3 j with e | e
              · rcases a3 j with e' | e'
                · exact .inl (e.trans e')
                · exact .inr (e.trans e')
              · exact .inr e
        have hmem : ∀ v ∈ rdAt (rdP ns) i, ∃ q : Nat, q < ns.length ∧ v = q := by
          intro v hv
          obtain ⟨m, hm, e⟩ := List.getElem_of_mem hv
          have hl : (rdP ns)[i]? = some (rdAt (rdP ns) i) := by
            have : i < (rdP ns).length := by unfold rdP; rw [rdTo_len]; exact hi
            simp [rdAt, this]
          obtain ⟨q, hq, he⟩ := rdTo_in ns ns.length (Nat.le_refl _) i _ hl m hm
          refine ⟨q, hq, ?_⟩
          rw [← he, ← e]; simp [outAt, hm]
        obtain ⟨a1, a2, a3⟩ := fold (rdAt (rdP ns) i) (is.set i 2) hmem (h.set hr i) (by omega)
        refine ⟨a1, fun j hb => ?_, fun j => ?_⟩
        · obtain ⟨c1, c2⟩ := a2 j hb
          rcases bad_set hr h hi c1 with e | e
          · exact e
          · exact absurd e c2
        · rcases a3 j with e | e
          · rcases set_less is i j with e' | e'
            · exact .inl (e.trans e')
            · exact .inr (e.trans e')
          · exact .inr e
      · rename_i v3
        exact ⟨h, fun j hb => ⟨hb, fun e => v3 (by have := hb.2.2; rwa [e] at this)⟩, fun j => .inl rfl⟩
end Go.Proofs.Ytlnmemeejgnbeaa
