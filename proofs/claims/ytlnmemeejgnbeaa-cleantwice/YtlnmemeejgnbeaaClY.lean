/-
  PLAIN: what is needed is closed; the net that is laid may be, is no greater, and does the same.
-/
import Derived.Test.YtlnmemeejgnbeaaClV
import Derived.Test.YtlnmemeejgnbeaaClLy
set_option linter.unusedSimpArgs false
set_option linter.unusedVariables false
namespace Go.Proofs.Ytlnmemeejgnbeaa

def RdsM (m : Mk) (x : Nd) (j : Nat) : Prop := (x.op = 4 ∧ kAt m.st x.next = (j : Int)) ∨ (x.op = 8 ∧ x.a = (j : Int)) ∨ (isTwo x.op = true ∧ (x.a = (j : Int) ∨ x.b = (j : Int)))
theorem bit_set_self (l : List Bool) (i : Nat) (b : Bool) (h : i < l.length) : bit (l.set i b) i = b := by unfold bit; rw [List.getElem?_set_self h]; rfl
theorem bit_set_ne (l : List Bool) (i j : Nat) (b : Bool) (h : i ≠ j) : bit (l.set i b) j = bit l j := by unfold bit; rw [List.getElem?_set_ne h]
/-- what a note comes to -/
structure Noted (m : Mk) (v : Nat) (nd nd' : List Bool) : Prop where
  mono : ∀ i, bit nd i = true → bit nd' i = true
  here : bit nd' v = true
  closed : ∀ i, bit nd' i = true → bit nd i = true ∨ ∀ j, RdsM m (ndAt m.ms i) j → bit nd' j = true
  only : ∀ P : Nat → Prop, (∀ i, bit nd i = true → P i) → P v → (∀ i, P i → ∀ j, RdsM m (ndAt m.ms i) j → P j) → ∀ i, bit nd' i = true → P i
theorem note_noted {m : Mk} (hd : MkDone m) : ∀ (f v : Nat) (nd : List Bool), v < m.ms.length → nd.length = m.ms.length → cntB nd ≤ f → Noted m v nd (noteF m f v nd)
  | 0, v, nd, hv, hl, hc => by
    have hb : bit nd v = true := by
      cases h : bit nd v
      · have := cntB_set nd v (by omega) h; omega
      · rfl
    exact ⟨fun i h => h, hb, fun i h => .inl h, fun P h1 _ _ i h => h1 i h⟩
  | f + 1, v, nd, hv, hl, hc => by
    rw [noteF, Int.toNat_natCast]
    have hm : mAt m.ms (v : Int) = ndAt m.ms v := by simp [mAt]
    rw [hm]
    cases hb : bit nd v
    · rw [if_neg (by simp)]
      have hc1 : cntB (nd.set v true) ≤ f := by have := cntB_set nd v (by omega) hb; omega
      have hl1 : (nd.set v true).length = m.ms.length := by rw [List.length_set]; exact hl
      have s0 : bit (nd.set v true) v = true := bit_set_self _ _ _ (by omega)
      have s1 : ∀ i, bit nd i = true → bit (nd.set v true) i = true := fun i h => by
        by_cases e : v = i
        · subst e; exact s0
        · rw [bit_set_ne _ _ _ _ e]; exact h
      have s2 : ∀ i, bit (nd.set v true) i = true → i = v ∨ bit nd i = true := fun i h => by
        by_cases e : v = i
        · exact .inl e.symm
        · rw [bit_set_ne _ _ _ _ e] at h; exact .inr h
      generalize nd.set v true = n1 at *
      have ah := hd.ahead.2 v hv
      have rg := hd.regs v hv
      have fin : ∀ nd', (∀ i, bit n1 i = true → bit nd' i = true) → (∀ i, bit nd' i = true → bit n1 i = true ∨ ∀ j, RdsM m (ndAt m.ms i) j → bit nd' j = true) → (∀ j, RdsM m (ndAt m.ms v) j → bit nd' j = true) → (∀ P : Nat → Prop, (∀ i, bit n1 i = true → P i) → (∀ j, RdsM m (ndAt m.ms v) j → P j) → (∀ i, P i → ∀ j, RdsM m (ndAt m.ms i) j → P j) → ∀ i, bit nd' i = true → P i) → Noted m v nd nd' := by
        intro nd' h1 h2 h3 h4
        refine ⟨fun i h => h1 i (s1 i h), h1 v s0, fun i h => ?_, fun P p1 p2 p3 => h4 P (fun i h => ?_) (fun j hj => p3 v p2 j hj) p3⟩
        · rcases h2 i h with e | e
          · rcases s2 i e with rfl | e'
            · exact .inr h3
            · exact .inl e'
          · exact .inr e
        · rcases s2 i h with rfl | e
          · exact p2
          · exact p1 i e
      by_cases c4 : (ndAt m.ms v).op = 4
      · rw [if_pos c4]
        obtain ⟨q, hq, hql⟩ := rg c4
        rw [hq, kAt_n]
        have hi := hd.all q hql
        obtain ⟨u, hu⟩ := Int.eq_ofNat_of_zero_le hi.1
        rw [hu]
        have ih := note_noted hd f u n1 (by have := hi.2; omega) hl1 hc1
        have ru : ∀ j, RdsM m (ndAt m.ms v) j → j = u := fun j hj => by
          rcases hj with ⟨_, e⟩ | ⟨e, _⟩ | ⟨e, _⟩
          · rw [hq, kAt_n, hu] at e; omega
          · rw [c4] at e; exact absurd e (by decide)
          · rw [c4] at e; exact absurd e (by decide)
        exact fin _ ih.mono ih.closed (fun j hj => by rw [ru j hj]; exact ih.here) (fun P p1 p2 p3 => ih.only P p1 (p2 u (.inl ⟨c4, by rw [hq, kAt_n, hu]⟩)) p3)
      rw [if_neg c4]
      by_cases c8 : (ndAt m.ms v).op = 8
      · rw [if_pos c8]
        have h8 := ah.1 c8
        obtain ⟨u, hu⟩ := Int.eq_ofNat_of_zero_le h8.1
        rw [hu]
        have ih := note_noted hd f u n1 (by omega) hl1 hc1
        have ru : ∀ j, RdsM m (ndAt m.ms v) j → j = u := fun j hj => by
          rcases hj with ⟨e, _⟩ | ⟨_, e⟩ | ⟨e, _⟩
          · exact absurd e c4
          · rw [hu] at e; omega
          · rw [c8] at e; exact absurd e (by decide)
        exact fin _ ih.mono ih.closed (fun j hj => by rw [ru j hj]; exact ih.here) (fun P p1 p2 p3 => ih.only P p1 (p2 u (.inr (.inl ⟨c8, hu⟩))) p3)
      rw [if_neg c8]
      by_cases c2 : isTwo (ndAt m.ms v).op = true
      · rw [if_pos c2]
        have h2 := ah.2 c2
        obtain ⟨p, hp⟩ := Int.eq_ofNat_of_zero_le h2.1.1
        obtain ⟨q, hq⟩ := Int.eq_ofNat_of_zero_le h2.2.1
        rw [hp, hq]
        have ia := note_noted hd f p n1 (by omega) hl1 hc1
        have kp := note_keeps m f (p : Int) n1
        have ib := note_noted hd f q (noteF m f p n1) (by omega) (kp.1.trans hl1) (Nat.le_trans kp.2 hc1)
        have ru : ∀ j, RdsM m (ndAt m.ms v) j → j = p ∨ j = q := fun j hj => by
          rcases hj with ⟨e, _⟩ | ⟨e, _⟩ | ⟨_, e | e⟩
          · exact absurd e c4
          · exact absurd e c8
          · rw [hp] at e; left; omega
          · rw [hq] at e; right; omega
        refine fin _ (fun i h => ib.mono i (ia.mono i h)) (fun i h => ?_) (fun j hj => ?_) (fun P p1 p2 p3 => ib.only P (ia.only P p1 (p2 p (.inr (.inr ⟨c2, .inl hp⟩))) p3) (p2 q (.inr (.inr ⟨c2, .inr hq⟩))) p3)
        · rcases ib.closed i h with e | e
          · rcases ia.closed i e with e' | e'
            · exact .inl e'
            · exact .inr fun j hj => ib.mono j (e' j hj)
          · exact .inr e
        · rcases ru j hj with rfl | rfl
          · exact ib.mono _ ia.here
          · exact ib.here
      rw [if_neg c2]
      refine fin _ (fun i h => h) (fun i h => .inl h) (fun j hj => ?_) (fun P p1 p2 p3 i h => p1 i h)
      rcases hj with ⟨e, _⟩ | ⟨e, _⟩ | ⟨e, _⟩
      · exact absurd e c4
      · exact absurd e c8
      · exact absurd e c2
    · rw [if_pos rfl]
      exact ⟨fun i h => h, hb, fun i h => .inl h, fun P h1 _ _ i h => h1 i h⟩
/-- what is needed -/
structure Needed (m : Mk) (os : List Int) (nd : List Bool) : Prop where
  len : nd.length = m.ms.length
  outs : ∀ i, i < os.length → ∀ u : Nat, kAt m.st (outAt os i) = u → bit nd u = true
  closed : ∀ i, bit nd i = true → ∀ j, RdsM m (ndAt m.ms i) j → bit nd j = true
  only : ∀ P : Nat → Prop, (∀ i, i < os.length → ∀ u : Nat, kAt m.st (outAt os i) = u → P u) → (∀ i, P i → ∀ j, RdsM m (ndAt m.ms i) j → P j) → ∀ i, bit nd i = true → P i
theorem noteTo_noted {m : Mk} (hd : MkDone m) {os : List Int} (hin : ∀ i, i < os.length → ∃ q : Nat, q < m.st.length ∧ outAt os i = q) : ∀ k, k ≤ os.length → (∀ i, i < k → ∀ u : Nat, kAt m.st (outAt os i) = u → bit (noteTo m os k) u = true) ∧ (∀ i, bit (noteTo m os k) i = true → ∀ j, RdsM m (ndAt m.ms i) j → bit (noteTo m os k) j = true) ∧ (∀ P : Nat → Prop, (∀ i, i < k → ∀ u : Nat, kAt m.st (outAt os i) = u → P u) → (∀ i, P i → ∀ j, RdsM m (ndAt m.ms i) j → P j) → ∀ i, bit (noteTo m os k) i = true → P i)
  | 0, _ => by
    have h0 : ∀ i, bit (noteTo m os 0) i = true → False := by
      intro i h
      unfold noteTo bit at h
      rw [List.getElem?_replicate] at h
      split at h <;> simp at h
    exact ⟨fun i h => absurd h (Nat.not_lt_zero _), fun i h => (h0 i h).elim, fun P _ _ i h => (h0 i h).elim⟩
  | k + 1, hk => by
    obtain ⟨h1, h2, h3⟩ := noteTo_noted hd hin k (by omega)
    obtain ⟨q, hq, hqe⟩ := hin k (by omega)
    have hi := hd.all q hq
    obtain ⟨u, hu⟩ := Int.eq_ofNat_of_zero_le hi.1
    have hl := noteTo_keeps m os k
    have e : noteTo m os (k + 1) = noteF m m.ms.length (u : Int) (noteTo m os k) := by rw [noteTo, hqe, kAt_n, hu]
    have nn := note_noted hd m.ms.length u (noteTo m os k) (by have := hi.2; omega) hl (by have := cntB_le (noteTo m os k); omega)
    rw [e]
    refine ⟨fun i h v hv => ?_, fun i h j hj => ?_, fun P p1 p2 => nn.only P (h3 P (fun i h => p1 i (by omega)) p2) (p1 k (by omega) u (by rw [hqe, kAt_n, hu])) p2⟩
    · by_cases ei : i = k
      · subst ei
        rw [hqe, kAt_n, hu] at hv
        have : u = v := by omega
        subst this
        exact nn.here
      · exact nn.mono _ (h1 i (by omega) v hv)
    · rcases nn.closed i h with e' | e'
      · exact nn.mono _ (h2 i e' j hj)
      · exact e' j hj
theorem needed_is {m : Mk} (hd : MkDone m) {os : List Int} (hin : ∀ i, i < os.length → ∃ q : Nat, q < m.st.length ∧ outAt os i = q) : Needed m os (needP m os) := by
  obtain ⟨a, b, c⟩ := noteTo_noted hd hin os.length (Nat.le_refl _)
  exact ⟨noteTo_keeps m os _, a, b, c⟩

/-- how many -/
def cntP (p : Nat → Bool) : Nat → Nat
  | 0 => 0
  | k + 1 => cntP p k + (if p k then 1 else 0)
theorem cntP_drop (p : Nat → Bool) (c : Nat) : ∀ k, cntP p k ≤ cntP (fun i => p i && !(i == c)) k + 1
  | 0 => Nat.zero_le _
  | k + 1 => by
    have ih := cntP_drop p c k
    simp only [cntP]
    by_cases e : k = c
    · subst e
      have same : ∀ j, j ≤ k → cntP (fun i => p i && !(i == k)) j = cntP p j := by
        intro j
        induction j with
        | zero => intro _; rfl
        | succ j ihj =>
          intro hj
          simp only [cntP]
          rw [ihj (by omega)]
          have e2 : ¬ j = k := by omega
          simp [e2]
      rw [same k (Nat.le_refl _)]
      simp
      split <;> omega
    · simp [e]
      omega
theorem cntP_le (f : Nat → Nat) : ∀ (b a : Nat) (p q : Nat → Bool), (∀ i, i < a → p i = true → ∃ j, j < b ∧ q j = true ∧ f j = i) → cntP p a ≤ cntP q b
  | 0, a, p, q, h => by
    have : ∀ k, k ≤ a → cntP p k = 0 := by
      intro k
      induction k with
      | zero => intro _; rfl
      | succ k ih =>
        intro hk
        rw [cntP, ih (by omega)]
        cases hp : p k
        · rfl
        · obtain ⟨j, hj, _⟩ := h k (by omega) hp
          exact absurd hj (Nat.not_lt_zero _)
    rw [this a (Nat.le_refl _)]; exact Nat.zero_le _
  | b + 1, a, p, q, h => by
    rw [cntP]
    cases hq : q b
    · have := cntP_le f b a p q fun i hi hp => by
        obtain ⟨j, hj, h1, h2⟩ := h i hi hp
        by_cases e : j = b
        · subst e; rw [hq] at h1; cases h1
        · exact ⟨j, by omega, h1, h2⟩
      simpa using this
    · have h1 := cntP_le f b a (fun i => p i && !(i == f b)) q fun i hi hp => by
        simp only [Bool.and_eq_true, Bool.not_eq_true', beq_eq_false_iff_ne] at hp
        obtain ⟨j, hj, e1, e2⟩ := h i hi hp.1
        by_cases e : j = b
        · subst e; exact absurd e2.symm hp.2
        · exact ⟨j, by omega, e1, e2⟩
      have h2 := cntP_drop p (f b) a
      simp only [if_true]
      omega
theorem cntP_all : ∀ n, cntP (fun _ => true) n = n
  | 0 => rfl
  | n + 1 => by simp [cntP, cntP_all n]
theorem cntTo_P (nd : List Bool) : ∀ k, cntTo nd k = cntP (bit nd) k
  | 0 => rfl
  | k + 1 => by simp only [cntTo, cntP, cntTo_P nd k]
theorem gatesTo_P (ns : List Nd) : ∀ k, gatesTo ns k = cntP (fun i => isGate (ndAt ns i)) k
  | 0 => rfl
  | k + 1 => by simp only [gatesTo, cntP, gatesTo_P ns k]
theorem gatesTo_app (l m : List Nd) : ∀ k, k ≤ l.length → gatesTo (l ++ m) k = gatesTo l k
  | 0, _ => rfl
  | k + 1, h => by simp only [gatesTo, gatesTo_app l m k (by omega), ndAt_left (show k < l.length by omega)]
theorem reN_gate (nd : List Bool) (st : List Int) (x : Nd) : isGate (reN nd st x) = isGate x := by
  unfold reN
  repeat' split
  all_goals first | rfl | (rename_i h; simp [isGate, h]) | simp_all [isGate]
theorem new_gates (m : Mk) (nd : List Bool) : ∀ k, gatesTo (newTo m nd k) (newTo m nd k).length = cntP (fun i => bit nd i && isGate (ndAt m.ms i)) k
  | 0 => rfl
  | k + 1 => by
    have ih := new_gates m nd k
    cases hb : bit nd k
    · rw [newTo_no m nd k hb, cntP, ih, hb]; simp
    · rw [newTo_yes m nd k hb, cntP, hb]
      rw [List.length_append, List.length_singleton, gatesTo, gatesTo_app _ _ _ (Nat.le_refl _), ih, ndAt_last, reN_gate]
      simp
theorem cntTo_mono (nd : List Bool) {i : Nat} (hb : bit nd i = true) : ∀ {k : Nat}, i < k → cntTo nd i < cntTo nd k
  | 0, h => absurd h (Nat.not_lt_zero _)
  | k + 1, h => by
    rw [cntTo]
    by_cases e : i = k
    · subst e; rw [hb]; simp
    · have := cntTo_mono nd hb (show i < k by omega)
      omega
theorem new_at_is (m : Mk) (nd : List Bool) {i : Nat} (hb : bit nd i = true) : ∀ {k : Nat}, i < k → ndAt (newTo m nd k) (cntTo nd i) = reN nd m.st (ndAt m.ms i)
  | 0, h => absurd h (Nat.not_lt_zero _)
  | k + 1, h => by
    by_cases e : i = k
    · subst e
      rw [newTo_yes m nd i hb]
      have := ndAt_last (newTo m nd i) (reN nd m.st (ndAt m.ms i))
      rwa [newTo_len] at this
    · have hm := cntTo_mono nd hb (show i < k by omega)
      have ih := new_at_is m nd hb (show i < k by omega)
      cases hk : bit nd k
      · rw [newTo_no m nd k hk]; exact ih
      · rw [newTo_yes m nd k hk, ndAt_left (by rw [newTo_len]; exact hm)]; exact ih
theorem cnt_inv (nd : List Bool) : ∀ (k p : Nat), p < cntTo nd k → ∃ i, i < k ∧ bit nd i = true ∧ cntTo nd i = p
  | 0, p, h => absurd h (Nat.not_lt_zero _)
  | k + 1, p, h => by
    rw [cntTo] at h
    by_cases e : p < cntTo nd k
    · obtain ⟨i, h1, h2, h3⟩ := cnt_inv nd k p e
      exact ⟨i, by omega, h2, h3⟩
    · cases hb : bit nd k
      · rw [hb] at h; simp at h; omega
      · rw [hb] at h; simp at h
        exact ⟨k, by omega, hb, by omega⟩
end Go.Proofs.Ytlnmemeejgnbeaa
