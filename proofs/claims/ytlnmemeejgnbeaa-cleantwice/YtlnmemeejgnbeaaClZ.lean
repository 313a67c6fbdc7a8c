/-
  PLAIN: a clean net may be, is no greater, and does the same.
-/
import Derived.Test.YtlnmemeejgnbeaaClY
set_option linter.unusedSimpArgs false
set_option linter.unusedVariables false
namespace Go.Proofs.Ytlnmemeejgnbeaa

/-- all that is known of a cleaned net -/
structure Cln (given : Int) (ns : List Nd) (os : List Int) (m : Mk) (nd : List Bool) : Prop where
  right : RightP given ns os
  done : MkDone m
  stl : m.st.length = ns.length
  base : Base m.ms
  made : Made1 given ns ns.length m
  need : Needed m os nd
theorem outs_in {given : Int} {ns : List Nd} {os : List Int} (hr : RightP given ns os) : ∀ i, i < os.length → ∃ q : Nat, q < ns.length ∧ outAt os i = q := by
  intro i hi
  have := inR_iff.1 (hr.outs i hi)
  obtain ⟨q, hq⟩ := Int.eq_ofNat_of_zero_le this.1
  exact ⟨q, by omega, hq⟩
theorem cln_of {given : Int} {ns : List Nd} {os : List Int} (hr : RightP given ns os) : Cln given ns os (mkAll ns) (needP (mkAll ns) os) := by
  obtain ⟨a, b, c, d⟩ := mkAll_done hr
  exact ⟨hr, a, b, c, d, needed_is a (by rw [b]; exact outs_in hr)⟩
section
variable {given : Int} {ns : List Nd} {os : List Int} {m : Mk} {nd : List Bool}
theorem Cln.lt (h : Cln given ns os m nd) {i : Nat} (hb : bit nd i = true) : i < m.ms.length := by
  rcases Nat.lt_or_ge i m.ms.length with e | e
  · exact e
  · unfold bit at hb
    rw [List.getElem?_eq_none (by rw [h.need.len]; exact e)] at hb
    cases hb
/-- of a node that is made: Zero, One, or such as it may be -/
theorem Cln.kinds (h : Cln given ns os m nd) {i : Nat} (hi : i < m.ms.length) : (i = 0 ∧ ndAt m.ms i = ⟨1, 0, 0, 0⟩) ∨ (i = 1 ∧ ndAt m.ms i = ⟨2, 0, 0, 0⟩) ∨ (2 ≤ i ∧ NodeOK given ns.length (ndAt m.ms i)) := by
  by_cases e0 : i = 0
  · subst e0; exact .inl ⟨rfl, h.base.1⟩
  by_cases e1 : i = 1
  · subst e1; exact .inr (.inl ⟨rfl, h.base.2⟩)
  · exact .inr (.inr ⟨by omega, (h.made i (by omega) hi).1⟩)
theorem Cln.opis (h : Cln given ns os m nd) : ∀ k, k < m.ms.length → OpIs (ndAt m.ms k).op := by
  intro k hk
  rcases h.kinds hk with ⟨_, e⟩ | ⟨_, e⟩ | ⟨_, e⟩
  · rw [e]; exact .inl rfl
  · rw [e]; exact .inr (.inl rfl)
  · unfold OpIs
    rcases e with e | e | e | e
    · exact .inr (.inr (.inl e.1))
    · exact .inr (.inr (.inr (.inl e.1)))
    · rcases two_cases e.1 with e' | e' | e' <;> rw [e'] <;> decide
    · rw [e.1]; decide
/-- what is needed stands for something -/
theorem Cln.pre (h : Cln given ns os m nd) {i : Nat} (hb : bit nd i = true) : ∃ j, j < ns.length ∧ outAt m.st j = (i : Int) := by
  refine h.need.only (fun i => ∃ j, j < ns.length ∧ outAt m.st j = (i : Int)) (fun k hk u hu => ?_) (fun i hi j hj => ?_) i hb
  · obtain ⟨q, hq, e⟩ := outs_in h.right k hk
    rw [e, kAt_n] at hu
    exact ⟨q, hq, hu⟩
  · obtain ⟨p, hp, hpe⟩ := hi
    have hil : i < m.ms.length := by have := (h.done.all p (by rw [h.stl]; exact hp)).2; omega
    have big : 2 ≤ j → j < m.ms.length → ∃ j', j' < ns.length ∧ outAt m.st j' = (j : Int) := fun h2 hl => by
      obtain ⟨_, q, hq, e, _⟩ := h.made j h2 hl
      exact ⟨q, hq, e⟩
    rcases hj with ⟨e1, e2⟩ | ⟨e1, e2⟩ | ⟨e1, e2⟩
    · obtain ⟨q, hq, hql⟩ := h.done.regs i hil e1
      rw [hq, kAt_n] at e2
      exact ⟨q, by rw [← h.stl]; exact hql, e2⟩
    · have ha := (h.done.ahead.2 i hil).1 e1
      rcases h.kinds hil with ⟨_, e⟩ | ⟨_, e⟩ | ⟨_, e⟩
      · rw [e] at e1; cases e1
      · rw [e] at e1; cases e1
      · rcases e with e | e | e | e
        · rw [e1] at e; exact absurd e.1 (by decide)
        · rw [e1] at e; exact absurd e.1 (by decide)
        · rw [e1] at e; exact absurd e.1 (by decide)
        · exact big (by omega) (by omega)
    · have ha := (h.done.ahead.2 i hil).2 e1
      rcases h.kinds hil with ⟨_, e⟩ | ⟨_, e⟩ | ⟨_, e⟩
      · rw [e] at e1; cases e1
      · rw [e] at e1; cases e1
      · rcases e with e | e | e | e
        · rw [e.1] at e1; cases e1
        · rw [e.1] at e1; cases e1
        · rcases e2 with e2 | e2
          · exact big (by omega) (by omega)
          · exact big (by omega) (by omega)
        · rw [e.1] at e1; cases e1
theorem Cln.size (h : Cln given ns os m nd) : (newTo m nd m.ms.length).length ≤ ns.length := by
  rw [newTo_len, cntTo_P]
  have := cntP_le (fun j => (outAt m.st j).toNat) ns.length m.ms.length (bit nd) (fun _ => true) fun i hi hp => by
    obtain ⟨j, hj, e⟩ := h.pre hp
    exact ⟨j, hj, rfl, by omega⟩
  rwa [cntP_all] at this
theorem Cln.gates (h : Cln given ns os m nd) : gatesTo (newTo m nd m.ms.length) (newTo m nd m.ms.length).length ≤ gatesTo ns ns.length := by
  rw [new_gates, gatesTo_P]
  refine cntP_le (fun j => (outAt m.st j).toNat) ns.length m.ms.length _ _ fun i hi hp => ?_
  simp only [Bool.and_eq_true] at hp
  have h2 : 2 ≤ i := by
    rcases h.kinds hi with ⟨_, e⟩ | ⟨_, e⟩ | ⟨e, _⟩
    · rw [e] at hp; cases hp.2
    · rw [e] at hp; cases hp.2
    · exact e
  obtain ⟨_, j, hj, e, hg⟩ := h.made i h2 hi
  exact ⟨j, hj, hg hp.2, by omega⟩
theorem newOs_len : ∀ (os : List Int), (os.map fun o => numP nd (kAt m.st o)).length = os.length := fun os => by simp
theorem outAt_map (os : List Int) (f : Int → Int) {i : Nat} (h : i < os.length) : outAt (os.map f) i = f (outAt os i) := by simp [outAt, h]
/-- an out of a cleaned net -/
theorem Cln.outp (h : Cln given ns os m nd) {i : Nat} (hi : i < os.length) : ∃ (q u : Nat), q < ns.length ∧ outAt os i = q ∧ outAt m.st q = u ∧ bit nd u = true := by
  obtain ⟨q, hq, e⟩ := outs_in h.right i hi
  have hu := h.done.all q (by rw [h.stl]; exact hq)
  obtain ⟨u, hue⟩ := Int.eq_ofNat_of_zero_le hu.1
  exact ⟨q, u, hq, e, hue, h.need.outs i hi u (by rw [e, kAt_n, hue])⟩
/-- a node of a cleaned net, renumbered -/
theorem Cln.node (h : Cln given ns os m nd) {i : Nat} (hb : bit nd i = true) : rightN given (newTo m nd m.ms.length).length (cntTo nd i) (reN nd m.st (ndAt m.ms i)) = true := by
  have hil := h.lt hb
  have hcl := h.need.closed i hb
  have inn : ∀ {u : Nat}, bit nd u = true → cntTo nd u < (newTo m nd m.ms.length).length := fun hu => by rw [newTo_len]; exact cntTo_mono nd hu (h.lt hu)
  have ah := h.done.ahead.2 i hil
  have rg := h.done.regs i hil
  rcases h.kinds hil with ⟨_, e⟩ | ⟨_, e⟩ | ⟨_, e⟩
  · rw [e]; rfl
  · rw [e]; rfl
  · generalize ndAt m.ms i = x at *
    obtain ⟨op, a, b, nx⟩ := x
    rcases e with ⟨e, e1, e2⟩ | ⟨e, ⟨e1, e2⟩, _⟩ | ⟨e, _⟩ | ⟨e, _⟩
    · simp only at e e1 e2
      subst e
      exact inR_iff.2 ⟨e1, e2⟩
    · simp only at e e1 e2
      subst e
      obtain ⟨q, hq, hql⟩ := rg rfl
      simp only at hq
      subst hq
      have hu := h.done.all q hql
      obtain ⟨u, hue⟩ := Int.eq_ofNat_of_zero_le hu.1
      have hbu := hcl u (.inl ⟨rfl, by rw [kAt_n, hue]⟩)
      have := inn hbu
      show (inR a 2 && inR (numP nd (kAt m.st (q : Int))) _) = true
      rw [kAt_n, hue, numP, Int.toNat_natCast, Bool.and_eq_true]
      exact ⟨inR_iff.2 ⟨e1, e2⟩, inR_iff.2 ⟨by omega, by omega⟩⟩
    · simp only at e
      have h2 := ah.2 e
      simp only at h2
      obtain ⟨p, rfl⟩ := Int.eq_ofNat_of_zero_le h2.1.1
      obtain ⟨q, rfl⟩ := Int.eq_ofNat_of_zero_le h2.2.1
      have hp := cntTo_mono nd (hcl p (.inr (.inr ⟨e, .inl rfl⟩))) (show p < i by omega)
      have hq := cntTo_mono nd (hcl q (.inr (.inr ⟨e, .inr rfl⟩))) (show q < i by omega)
      have g : (inR (cntTo nd p : Nat) (cntTo nd i : Nat) && inR (cntTo nd q : Nat) (cntTo nd i : Nat)) = true := by
        rw [Bool.and_eq_true]
        exact ⟨inR_iff.2 ⟨by omega, by omega⟩, inR_iff.2 ⟨by omega, by omega⟩⟩
      rcases two_cases e with e' | e' | e' <;> subst e' <;> (unfold reN numP; simp only [Int.toNat_natCast]; exact g)
    · simp only at e
      subst e
      have h8 := ah.1 rfl
      simp only at h8
      obtain ⟨p, rfl⟩ := Int.eq_ofNat_of_zero_le h8.1
      have hp := cntTo_mono nd (hcl p (.inr (.inl ⟨rfl, rfl⟩))) (show p < i by omega)
      show inR (numP nd (p : Int)) _ = true
      rw [numP, Int.toNat_natCast]
      exact inR_iff.2 ⟨by omega, by omega⟩
theorem Cln.newRight (h : Cln given ns os m nd) : RightP given (newTo m nd m.ms.length) (os.map fun o => numP nd (kAt m.st o)) := by
  have hs := h.size
  have hr := h.right
  refine ⟨hr.g0, hr.g1, Nat.le_trans hs hr.n1, by rw [newOs_len]; exact hr.o1, fun p hp => ?_, fun i hi => ?_⟩
  · rw [newTo_len] at hp
    obtain ⟨i, hi, hb, e⟩ := cnt_inv nd m.ms.length p hp
    rw [← e, new_at_is m nd hb hi]
    exact h.node hb
  · rw [newOs_len] at hi
    obtain ⟨q, u, hq, e1, e2, e3⟩ := h.outp hi
    rw [outAt_map _ _ hi, e1, kAt_n, e2, numP, Int.toNat_natCast]
    have := cntTo_mono nd e3 (h.lt e3)
    rw [newTo_len]
    exact inR_iff.2 ⟨by omega, by omega⟩
/-- what both hold, between two cycles -/
structure Both (given : Int) (ns : List Nd) (os : List Int) (m : Mk) (nd : List Bool) (held held' : List Bool) (rv : Int → Int → Bool) : Prop where
  len : held.length = ns.length
  len' : held'.length = (newTo m nd m.ms.length).length
  kn : Kn ns (knownP ns) held
  rvs : RV ns held rv
  rvs' : ∀ i, bit nd i = true → (ndAt m.ms i).op = 4 → bit held' (cntTo nd i) = rv (ndAt m.ms i).a (ndAt m.ms i).next
theorem Both.val (h : Cln given ns os m nd) {held held' : List Bool} {rv : Int → Int → Bool} (hb : Both given ns os m nd held held' rv) (g : List Bool) : ∀ (i : Nat), bit nd i = true → bit (vals g held' (newTo m nd m.ms.length)) (cntTo nd i) = mV g rv m.ms (i : Int) := by
  intro i
  induction i using Nat.strongRecOn with
  | ind i ih =>
    intro hbi
    have hil := h.lt hbi
    have hpl : cntTo nd i < (newTo m nd m.ms.length).length := by rw [newTo_len]; exact cntTo_mono nd hbi hil
    unfold vals at ih ⊢
    rw [valsTo_at _ _ _ hpl, new_at_is m nd hbi hil, mV_nat hil]
    have hcl := h.need.closed i hbi
    have ah := h.done.ahead.2 i hil
    have hrv := hb.rvs' i hbi
    have rd : ∀ u : Nat, u < i → bit nd u = true → bit (valsTo g held' (newTo m nd m.ms.length) (cntTo nd i)) (cntTo nd u) = bit (mvTo g rv m.ms i) u := fun u hu hbu => by
      rw [valsTo_same g held' _ (cntTo_mono nd hbu hu) (show cntTo nd u < (newTo m nd m.ms.length).length by have := cntTo_mono nd hbu hu; omega), ih u hu hbu, ← mV_bit hu (by omega)]
    generalize mvTo g rv m.ms i = v at *
    generalize valsTo g held' (newTo m nd m.ms.length) (cntTo nd i) = v' at *
    rcases h.kinds hil with ⟨_, e⟩ | ⟨_, e⟩ | ⟨_, e⟩
    · rw [e]; rfl
    · rw [e]; rfl
    · generalize ndAt m.ms i = x at *
      obtain ⟨op, a, b, nx⟩ := x
      rcases e with ⟨e, e1, e2⟩ | ⟨e, _⟩ | ⟨e, _⟩ | ⟨e, _⟩
      · simp only at e
        subst e
        rfl
      · simp only at e
        subst e
        exact hrv rfl
      · simp only at e
        have h2 := ah.2 e
        simp only at h2
        obtain ⟨p, rfl⟩ := Int.eq_ofNat_of_zero_le h2.1.1
        obtain ⟨q, rfl⟩ := Int.eq_ofNat_of_zero_le h2.2.1
        have hp := rd p (by omega) (hcl p (.inr (.inr ⟨e, .inl rfl⟩)))
        have hq := rd q (by omega) (hcl q (.inr (.inr ⟨e, .inr rfl⟩)))
        rcases two_cases e with e' | e' | e' <;> subst e' <;> simp [reN, numP, valN, hp, hq]
      · simp only at e
        subst e
        have h8 := ah.1 rfl
        simp only at h8
        obtain ⟨p, rfl⟩ := Int.eq_ofNat_of_zero_le h8.1
        have hp := rd p (by omega) (hcl p (.inr (.inl ⟨rfl, rfl⟩)))
        simp [reN, numP, valN, hp]
end
theorem both_first {given : Int} {ns : List Nd} {os : List Int} (hr : RightP given ns os) : Both given ns os (mkAll ns) (needP (mkAll ns) os) (first ns) (first (cleanNs ns os)) (fun a _ => a == 1) := by
  have h := cln_of hr
  refine ⟨firstTo_len _ _, firstTo_len _ _, kn_first hr, rv_first ns, fun i hb h4 => ?_⟩
  have hil := h.lt hb
  have hpl : cntTo (needP (mkAll ns) os) i < (newTo (mkAll ns) (needP (mkAll ns) os) (mkAll ns).ms.length).length := by rw [newTo_len]; exact cntTo_mono _ hb hil
  show bit (first (newTo (mkAll ns) (needP (mkAll ns) os) (mkAll ns).ms.length)) _ = _
  rw [first_at _ hpl, new_at_is _ _ hb hil]
  generalize ndAt (mkAll ns).ms i = x at *
  obtain ⟨op, a, b, nx⟩ := x
  simp only at h4
  subst h4
  rfl
theorem both_outs {given : Int} {ns : List Nd} {os : List Int} (hr : RightP given ns os) {held held' : List Bool} {rv : Int → Int → Bool} (hb : Both given ns os (mkAll ns) (needP (mkAll ns) os) held held' rv) (g : List Bool) :
    outs (vals g held' (cleanNs ns os)) (cleanOs ns os) = outs (vals g held ns) os ∧ Both given ns os (mkAll ns) (needP (mkAll ns) os) (heldNext (vals g held ns) held ns) (heldNext (vals g held' (cleanNs ns os)) held' (cleanNs ns os)) (fun _ nx => bit (vals g held ns) nx.toNat) := by
  have h := cln_of hr
  obtain ⟨hbase, hsem⟩ := mkTo_sem (g := g) hr hb.kn hb.rvs ns.length (Nat.le_refl _)
  have hsem : ∀ i, i < ns.length → mV g rv (mkAll ns).ms (outAt (mkAll ns).st i) = bit (vals g held ns) i := hsem
  have hv := hb.val h g
  have hv : ∀ i, bit (needP (mkAll ns) os) i = true → bit (vals g held' (cleanNs ns os)) (cntTo (needP (mkAll ns) os) i) = mV g rv (mkAll ns).ms (i : Int) := hv
  constructor
  · apply List.ext_getElem?
    intro i
    unfold outs cleanOs newOs
    by_cases hi : i < os.length
    · obtain ⟨q, u, hq, e1, e2, e3⟩ := h.outp hi
      have eo : os[i]? = some (q : Int) := by
        have : outAt os i = os[i] := by simp [outAt, hi]
        rw [List.getElem?_eq_getElem hi, ← this, e1]
      simp only [List.getElem?_map, eo, Option.map_some, kAt_n, e2, numP, Int.toNat_natCast]
      rw [hv u e3, ← e2, hsem q hq]
    · simp [hi]
  · refine ⟨by rw [heldNext, heldTo_len]; exact hb.len, by rw [heldNext, heldTo_len]; exact hb.len', kn_next hr g held hb.len hb.kn, rv_next ns _ held hb.len, fun i hbi h4 => ?_⟩
    have hil := h.lt hbi
    have hpl : cntTo (needP (mkAll ns) os) i < (cleanNs ns os).length := by
      show _ < (newTo (mkAll ns) (needP (mkAll ns) os) (mkAll ns).ms.length).length
      rw [newTo_len]; exact cntTo_mono _ hbi hil
    rw [next_at _ _ _ hpl hb.len']
    have hn : ndAt (cleanNs ns os) (cntTo (needP (mkAll ns) os) i) = reN (needP (mkAll ns) os) (mkAll ns).st (ndAt (mkAll ns).ms i) := new_at_is _ _ hbi hil
    rw [hn]
    obtain ⟨q, hq, hql⟩ := h.done.regs i hil h4
    have hu := h.done.all q hql
    obtain ⟨u, hue⟩ := Int.eq_ofNat_of_zero_le hu.1
    have hbu := h.need.closed i hbi u (.inl ⟨h4, by rw [hq, kAt_n, hue]⟩)
    have hvu := hv u hbu
    rw [← hue, hsem q (by rw [← h.stl]; exact hql)] at hvu
    generalize ndAt (mkAll ns).ms i = x at *
    obtain ⟨op, a, b, nx⟩ := x
    simp only at h4 hq
    subst h4 hq
    show bit (vals g held' (cleanNs ns os)) (numP (needP (mkAll ns) os) (kAt (mkAll ns).st (q : Int))).toNat = bit (vals g held ns) ((q : Int).toNat)
    rw [kAt_n, hue, numP, Int.toNat_natCast, Int.toNat_natCast, Int.toNat_natCast]
    exact hvu
theorem clean_right {given : Int} {ns : List Nd} {os : List Int} (hr : RightP given ns os) : RightP given (cleanNs ns os) (cleanOs ns os) := (cln_of hr).newRight
theorem clean_size {given : Int} {ns : List Nd} {os : List Int} (hr : RightP given ns os) : (cleanNs ns os).length ≤ ns.length := (cln_of hr).size
theorem clean_gates {given : Int} {ns : List Nd} {os : List Int} (hr : RightP given ns os) : gatesTo (cleanNs ns os) (cleanNs ns os).length ≤ gatesTo ns ns.length := (cln_of hr).gates
theorem clean_outs (ns : List Nd) (os : List Int) : (cleanOs ns os).length = os.length := newOs_len os
end Go.Proofs.Ytlnmemeejgnbeaa
