/-
  PLAIN: what is known, cycle by cycle; who made what.
-/
import Derived.Test.YtlnmemeejgnbeaaClT
set_option linter.unusedSimpArgs false
set_option linter.unusedVariables false
namespace Go.Proofs.Ytlnmemeejgnbeaa

theorem initTo_at (ns : List Nd) {i : Nat} : ∀ {k : Nat}, i < k → outAt (initTo ns k) i = firstK (ndAt ns i) (initTo ns i)
  | 0, h => absurd h (Nat.not_lt_zero _)
  | k + 1, h => by
    rw [initTo]
    by_cases e : i = k
    · subst e; rw [outAt_app_at (initTo_len _ _)]
    · rw [outAt_app_left (by rw [initTo_len]; omega)]
      exact initTo_at ns (by omega)
theorem initTo_same (ns : List Nd) {i k n : Nat} (h : i < k) (hn : i < n) : outAt (initTo ns k) i = outAt (initTo ns n) i := by
  rw [initTo_at _ h, initTo_at _ hn]
theorem init_now {given : Int} {ns : List Nd} {os : List Int} (hr : RightP given ns os) {i : Nat} (hi : i < ns.length) (h4 : (ndAt ns i).op ≠ 4) : outAt (initTo ns ns.length) i = nowK (ndAt ns i) (initTo ns ns.length) := by
  rw [initTo_at ns hi]
  unfold firstK
  rw [if_neg h4]
  exact nowK_pre (hr.nodes i hi) h4 fun j hj => initTo_same ns hj (by omega)
theorem init_fits {given : Int} {ns : List Nd} {os : List Int} (hr : RightP given ns os) : Fits ns (initTo ns ns.length) := by
  refine ⟨initTo_len _ _, fun j hj => initTo_tri hr _ (Nat.le_refl _) j (by rwa [initTo_len] at hj), fun i hi hne => ?_⟩
  by_cases h4 : (ndAt ns i).op = 4
  · have e : outAt (initTo ns ns.length) i = (ndAt ns i).a := by rw [initTo_at ns hi]; unfold firstK; rw [if_pos h4]
    rw [e]
    have : nowK (ndAt ns i) (initTo ns ns.length) = if kAt (initTo ns ns.length) (ndAt ns i).next = (ndAt ns i).a then (ndAt ns i).a else 2 := by
      unfold nowK
      rw [h4, if_neg (by decide), if_neg (by decide), if_pos rfl]
    rw [this]
    split
    · exact .inl rfl
    · exact .inr rfl
  · exact .inl (init_now hr hi h4).symm
theorem doubtTo_fits {given : Int} {ns : List Nd} {os : List Int} (hr : RightP given ns os) : ∀ k, k ≤ ns.length → Fits ns (doubtTo ns (rdP ns) (initTo ns ns.length) k) ∧ ∀ j, Bad ns (doubtTo ns (rdP ns) (initTo ns ns.length) k) j → k ≤ j
  | 0, _ => ⟨init_fits hr, fun j _ => Nat.zero_le j⟩
  | k + 1, h => by
    obtain ⟨h1, h2⟩ := doubtTo_fits hr k (by omega)
    obtain ⟨a, b, _⟩ := doubt_fits hr ns.length k _ (by omega) h1 (by have := cntC_le (doubtTo ns (rdP ns) (initTo ns ns.length) k); have := h1.len; omega)
    refine ⟨a, fun j hj => ?_⟩
    obtain ⟨c, d⟩ := b j hj
    have := h2 j c
    omega
theorem known_fits {given : Int} {ns : List Nd} {os : List Int} (hr : RightP given ns os) : Fits ns (knownP ns) := (doubtTo_fits hr ns.length (Nat.le_refl _)).1
theorem known_fit {given : Int} {ns : List Nd} {os : List Int} (hr : RightP given ns os) {i : Nat} (hi : i < ns.length) (hne : outAt (knownP ns) i ≠ 2) : nowK (ndAt ns i) (knownP ns) = outAt (knownP ns) i := by
  obtain ⟨h1, h2⟩ := doubtTo_fits hr ns.length (Nat.le_refl _)
  rcases h1.fit i hi hne with e | e
  · exact e
  · have := h2 i ⟨hi, hne, e⟩; omega
/-- what is always known is never doubted -/
theorem doubt_never {ns : List Nd} {rd : List (List Int)} {i : Nat} (hn : ∀ s, nowK (ndAt ns i) s ≠ 2) : ∀ (f : Nat) (v : Int) (is : List Int), outAt is i ≠ 2 → outAt (doubtF ns rd f v is) i ≠ 2
  | 0, v, is, h => h
  | f + 1, v, is, h => by
    rw [doubtF]
    split
    · exact h
    split
    · rename_i h3
      have hne : v.toNat ≠ i := fun e => hn is (e ▸ h3)
      have : ∀ (l s : List Int), outAt s i ≠ 2 → outAt (l.foldl (fun s r => doubtF ns rd f r s) s) i ≠ 2 := by
        intro l
        induction l with
        | nil => intro s h; exact h
        | cons r l ih => intro s h; exact ih _ (doubt_never hn f r s h)
      exact this _ _ (by rw [outAt_set_ne _ _ _ _ hne]; exact h)
    · exact h
theorem known_ok {given : Int} {ns : List Nd} {os : List Int} (hr : RightP given ns os) : KnOK ns (knownP ns) := by
  have hf := known_fits hr
  refine ⟨hf.len, hf.tri, fun i hi h2 => ?_⟩
  have never : (∀ s, nowK (ndAt ns i) s ≠ 2) → (ndAt ns i).op ≠ 4 → False := by
    intro hn h4
    have : ∀ k, outAt (doubtTo ns (rdP ns) (initTo ns ns.length) k) i ≠ 2 := by
      intro k
      induction k with
      | zero => rw [doubtTo, init_now hr hi h4]; exact hn _
      | succ k ih => exact doubt_never hn _ _ _ ih
    exact this ns.length h2
  constructor
  · intro e
    refine never (fun s => ?_) (by rw [e]; decide)
    unfold nowK; rw [if_pos e]; decide
  · intro e
    refine never (fun s => ?_) (by rw [e]; decide)
    unfold nowK; rw [e, if_neg (by decide), if_pos rfl]; decide
theorem known_reg {given : Int} {ns : List Nd} {os : List Int} (hr : RightP given ns os) {i : Nat} (hi : i < ns.length) (h4 : (ndAt ns i).op = 4) (hne : outAt (knownP ns) i ≠ 2) : outAt (knownP ns) i = (ndAt ns i).a ∧ kAt (knownP ns) (ndAt ns i).next = (ndAt ns i).a := by
  have h := known_fit hr hi hne
  have e : nowK (ndAt ns i) (knownP ns) = if kAt (knownP ns) (ndAt ns i).next = (ndAt ns i).a then (ndAt ns i).a else 2 := by
    unfold nowK
    rw [h4, if_neg (by decide), if_neg (by decide), if_pos rfl]
  rw [e] at h
  split at h
  · rename_i h'; exact ⟨h.symm, h'⟩
  · exact absurd h.symm hne

theorem valsTo_at (g held : List Bool) (ns : List Nd) {i : Nat} : ∀ {k : Nat}, i < k → bit (valsTo g held ns k) i = valN g (valsTo g held ns i) (bit held i) (ndAt ns i)
  | 0, h => absurd h (Nat.not_lt_zero _)
  | k + 1, h => by
    rw [valsTo]
    by_cases e : i = k
    · subst e; rw [bit_last (valsTo_len _ _ _ _)]
    · rw [bit_left (by rw [valsTo_len]; omega)]
      exact valsTo_at g held ns (by omega)
theorem valsTo_same (g held : List Bool) (ns : List Nd) {i k n : Nat} (h : i < k) (hn : i < n) : bit (valsTo g held ns k) i = bit (valsTo g held ns n) i := by
  rw [valsTo_at _ _ _ h, valsTo_at _ _ _ hn]
/-- what is known of registers is so -/
def Kn (ns : List Nd) (is : List Int) (held : List Bool) : Prop := ∀ i, i < ns.length → (ndAt ns i).op = 4 → outAt is i ≠ 2 → bit held i = decide (outAt is i = 1)
theorem tri_cases {a : Int} (h : Tri a) : a = 0 ∨ a = 1 ∨ a = 2 := by unfold Tri at h; omega
theorem known_sem {given : Int} {ns : List Nd} {os : List Int} (hr : RightP given ns os) (g held : List Bool) (hk : Kn ns (knownP ns) held) : ∀ (i : Nat), i < ns.length → outAt (knownP ns) i ≠ 2 → bit (vals g held ns) i = decide (outAt (knownP ns) i = 1) := by
  have hf := known_fits hr
  intro i
  induction i using Nat.strongRecOn with
  | ind i ih =>
    intro hi hne
    have hfit := known_fit hr hi hne
    have hreg := hk i hi
    unfold vals at ih ⊢
    rw [valsTo_at _ _ _ hi]
    have rd : ∀ j, j < i → (outAt (knownP ns) j ≠ 2 → bit (valsTo g held ns i) j = decide (outAt (knownP ns) j = 1)) ∧ Tri (outAt (knownP ns) j) := fun j hj =>
      ⟨fun h => by rw [valsTo_same g held ns hj (show j < ns.length by omega)]; exact ih j hj (by omega) h, hf.tri j (by rw [hf.len]; omega)⟩
    have hx := hr.nodes i hi
    generalize bit held i = hb at *
    generalize hv : valsTo g held ns i = v at *
    generalize hK : outAt (knownP ns) i = K at *
    generalize ndAt ns i = x at *
    obtain ⟨op, a, b, nx⟩ := x
    rcases right_cases hx with c | c | c | c | c | c
    · simp only at c; subst c
      have : K = 0 := hfit.symm
      subst this; rfl
    · simp only at c; subst c
      have : K = 1 := hfit.symm
      subst this; rfl
    · obtain ⟨rfl, _⟩ := c
      exact absurd hfit.symm hne
    · obtain ⟨rfl, _⟩ := c
      exact hreg rfl hne
    · obtain ⟨c1, c2, _, _, c3, c4, p, q, e1, e2, hp, hq⟩ := c
      simp only at c1 c2 c3 c4 e1 e2
      subst e1 e2
      obtain ⟨vp, tp⟩ := rd p hp
      obtain ⟨vq, tq⟩ := rd q hq
      rcases two_cases c1 with e | e | e
      · subst e
        have hfit : leastK (kAt (knownP ns) (p : Int)) (kAt (knownP ns) (q : Int)) = K := hfit
        rw [kAt_n, kAt_n] at hfit
        show (bit v ((p : Int).toNat) && bit v ((q : Int).toNat)) = _
        rw [Int.toNat_natCast, Int.toNat_natCast]
        subst hfit
        rcases tri_cases tp with e | e | e <;> rcases tri_cases tq with e' | e' | e' <;> rw [e] at vp hne ⊢ <;> rw [e'] at vq hne ⊢ <;> simp [leastK] at vp vq hne ⊢ <;> first | (simp [vp, vq]; done) | (exfalso; omega)
      · subst e
        have hfit : turnK (leastK (turnK (kAt (knownP ns) (p : Int))) (turnK (kAt (knownP ns) (q : Int)))) = K := hfit
        rw [kAt_n, kAt_n] at hfit
        show (bit v ((p : Int).toNat) || bit v ((q : Int).toNat)) = _
        rw [Int.toNat_natCast, Int.toNat_natCast]
        subst hfit
        rcases tri_cases tp with e | e | e <;> rcases tri_cases tq with e' | e' | e' <;> rw [e] at vp hne ⊢ <;> rw [e'] at vq hne ⊢ <;> simp [leastK, turnK] at vp vq hne ⊢ <;> first | (simp [vp, vq]; done) | (exfalso; omega)
      · subst e
        have hfit : xorK (kAt (knownP ns) (p : Int)) (kAt (knownP ns) (q : Int)) = K := hfit
        rw [kAt_n, kAt_n] at hfit
        show (bit v ((p : Int).toNat) != bit v ((q : Int).toNat)) = _
        rw [Int.toNat_natCast, Int.toNat_natCast]
        subst hfit
        rcases tri_cases tp with e | e | e <;> rcases tri_cases tq with e' | e' | e' <;> rw [e] at vp hne ⊢ <;> rw [e'] at vq hne ⊢ <;> simp [xorK] at vp vq hne ⊢ <;> first | (simp [vp, vq]; done) | (exfalso; omega)
    · obtain ⟨c8, p, e1, hp⟩ := c
      simp only at c8 e1
      subst c8 e1
      obtain ⟨vp, tp⟩ := rd p hp
      have hfit : turnK (kAt (knownP ns) (p : Int)) = K := hfit
      rw [kAt_n] at hfit
      show (!bit v ((p : Int).toNat)) = _
      rw [Int.toNat_natCast]
      subst hfit
      rcases tri_cases tp with e | e | e <;> rw [e] at vp hne ⊢ <;> simp [turnK] at vp hne ⊢ <;> simp [vp]
theorem first_at (ns : List Nd) {i : Nat} (hi : i < ns.length) : bit (first ns) i = firstOf (ndAt ns i) := by
  unfold first firstTo bit
  rw [getElem?_mapRange _ _ _ hi]; simp [hi]
theorem next_at (v held : List Bool) (ns : List Nd) {i : Nat} (hi : i < ns.length) (hl : held.length = ns.length) : bit (heldNext v held ns) i = nextOf v (ndAt ns i) (bit held i) := by
  unfold heldNext heldTo bit
  rw [getElem?_mapRange _ _ _ (by omega)]; simp [hi, bit]
theorem kn_first {given : Int} {ns : List Nd} {os : List Int} (hr : RightP given ns os) : Kn ns (knownP ns) (first ns) := by
  intro i hi h4 hne
  rw [first_at ns hi, (known_reg hr hi h4 hne).1]
  simp [firstOf, h4]
  by_cases h : (ndAt ns i).a = 1 <;> simp [h]
theorem kn_next {given : Int} {ns : List Nd} {os : List Int} (hr : RightP given ns os) (g held : List Bool) (hl : held.length = ns.length) (hk : Kn ns (knownP ns) held) : Kn ns (knownP ns) (heldNext (vals g held ns) held ns) := by
  intro i hi h4 hne
  obtain ⟨e1, e2⟩ := known_reg hr hi h4 hne
  rw [next_at _ _ _ hi hl]
  have hx := hr.nodes i hi
  rcases right_cases hx with c | c | c | c | c | c
  · rw [h4] at c; exact absurd c (by decide)
  · rw [h4] at c; exact absurd c (by decide)
  · rw [h4] at c; exact absurd c.1 (by decide)
  · obtain ⟨_, _, _, q, hq, hql⟩ := c
    rw [hq, kAt_n] at e2
    have := known_sem hr g held hk q hql (by rw [e2, ← e1]; exact hne)
    unfold nextOf isReg
    rw [h4, hq, Int.toNat_natCast]
    simp only [beq_self_eq_true, if_true]
    rw [this, e2, e1]
  · rw [h4] at c; exact absurd c.1 (by decide)
  · rw [h4] at c; exact absurd c.1 (by decide)
/-- registers are told by what they are at first and whose they were -/
def RV (ns : List Nd) (held : List Bool) (rv : Int → Int → Bool) : Prop := ∀ i, i < ns.length → (ndAt ns i).op = 4 → bit held i = rv (ndAt ns i).a (ndAt ns i).next
theorem rv_first (ns : List Nd) : RV ns (first ns) fun a _ => a == 1 := by
  intro i hi h4
  rw [first_at ns hi]
  simp [firstOf, h4]
theorem rv_next (ns : List Nd) (v held : List Bool) (hl : held.length = ns.length) : RV ns (heldNext v held ns) fun _ nx => bit v nx.toNat := by
  intro i hi h4
  rw [next_at _ _ _ hi hl]
  simp [nextOf, isReg, h4]
theorem base0 : Base ms0 := ⟨rfl, rfl⟩
theorem mkTo_sem {given : Int} {ns : List Nd} {os : List Int} (hr : RightP given ns os) {g held : List Bool} {rv : Int → Int → Bool} (hk : Kn ns (knownP ns) held) (hv : RV ns held rv) : ∀ k, k ≤ ns.length → Base (mkTo (knownP ns) ns k).ms ∧ ∀ i, i < k → mV g rv (mkTo (knownP ns) ns k).ms (outAt (mkTo (knownP ns) ns k).st i) = bit (vals g held ns) i
  | 0, _ => ⟨base0, fun i h => absurd h (Nat.not_lt_zero _)⟩
  | k + 1, hle => by
    have hko := known_ok hr
    have gd := mkTo_good hr hko k (by omega)
    obtain ⟨hb, hs⟩ := mkTo_sem (g := g) hr hk hv k (by omega)
    have ks := known_sem hr g held hk k (by omega)
    have hx := hr.nodes k (by omega)
    have ho := hko.2.2 k (by omega)
    have e0 : mkTo (knownP ns) ns (k + 1) = mkStep (mkTo (knownP ns) ns k) (outAt (knownP ns) k) (ndAt ns k) := rfl
    have ht := hko.2.1 k (by rw [hko.1]; omega)
    have hva := valsTo_at g held ns (show k < ns.length by omega)
    have hvr := hv k (by omega)
    rw [e0]
    clear e0
    generalize mkTo (knownP ns) ns k = m at gd hb hs ⊢
    unfold mkStep
    split
    · rename_i h2
      have ho := ho h2
      obtain ⟨d1, d2, d3⟩ := done_grows gd.ahead (anew_ok gd.ahead hx ho.1 ho.2 gd.all)
      obtain ⟨s1, s2, s3⟩ := done_sem (g := g) (rv := rv) hb gd.ahead (anew_ok gd.ahead hx ho.1 ho.2 gd.all)
      refine ⟨s1, fun i hi => ?_⟩
      by_cases e : i = k
      · subst e
        simp only
        rw [outAt_app_at gd.len, s2]
        rw [anew_sem (v := valsTo g held ns i) hb gd.ahead hx ho.1 ho.2 (fun j hj => ⟨gd.all j hj, by rw [hs j hj]; exact valsTo_same g held ns (by omega) hj⟩)]
        unfold vals
        rw [hva]
        by_cases h4 : (ndAt ns i).op = 4
        · rw [hvr h4]
        · unfold valN
          simp [h4]
      · simp only
        rw [outAt_app_left (by rw [gd.len]; omega), s3 _ (gd.all i (by omega))]
        exact hs i (by omega)
    · rename_i h2
      refine ⟨hb, fun i hi => ?_⟩
      by_cases e : i = k
      · subst e
        simp only
        rw [outAt_app_at gd.len, ks h2, mV_const hb gd.ahead (by unfold Tri at ht; omega)]
      · simp only
        rw [outAt_app_left (by rw [gd.len]; omega)]
        exact hs i (by omega)
end Go.Proofs.Ytlnmemeejgnbeaa
