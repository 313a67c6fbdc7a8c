/-
  THE LAW CleanTwice, plain: a net without registers, beside itself, is cleaned to the very nodes that it is cleaned to alone.
-/
import Derived.Test.YtlnmemeejgnbeaaClKp
import Derived.Test.YtlnmemeejgnbeaaGJnP
set_option linter.unusedSimpArgs false
set_option linter.unusedVariables false
namespace Go.Proofs.Ytlnmemeejgnbeaa

theorem ifc {α : Type} {c : Prop} [Decidable c] {a b b2 : α} (h : b = b2) : (if c then a else b) = if c then a else b2 := by rw [h]
section
variable {ms : List Nd}
theorem mAt_pre {t : List Nd} {a : Int} (h : In ms a) : mAt (ms ++ t) a = mAt ms a := by
  unfold mAt; rw [ndAt_left (by have := h.1; have := h.2; omega)]
theorem other_pre {t : List Nd} {a : Int} (h : In ms a) : otherM (ms ++ t) a = otherM ms a := by unfold otherM; rw [mAt_pre h]
theorem opp_pre {t : List Nd} {a b : Int} (h : In ms a) (k : In ms b) : oppM (ms ++ t) a b = oppM ms a b := by unfold oppM; rw [mAt_pre h, mAt_pre k]
theorem free_pre {t : List Nd} {op a b : Int} (h : In ms a) (k : In ms b) : freeM (ms ++ t) op a b = freeM ms op a b := by
  unfold freeM freeX; rw [opp_pre h k, other_pre h, other_pre k]
theorem where_pre {t : List Nd} (h : Ahead ms) {is that : Int} (hi : 0 ≤ is ∧ is ≤ 1) (ht : In ms that) : ∀ (f : Nat) {node : Int}, In ms node → whereM (ms ++ t) f node that is = whereM ms f node that is
  | 0, node, hn => by rw [whereM, whereM, opp_pre hn ht]
  | f + 1, node, hn => by
    rw [whereM, whereM, opp_pre hn ht, mAt_pre hn]
    refine ifc (ifc ?_)
    by_cases c8 : (mAt ms node).op = 8
    · rw [if_pos c8, if_pos c8, where_pre h hi ht f (h.one hn c8), other_pre (where_in h hi that f (h.one hn c8))]
    · rw [if_neg c8, if_neg c8]
      by_cases c2 : isTwo (mAt ms node).op = true
      · have ab := h.twoA hn c2
        rw [if_pos c2, if_pos c2, where_pre h hi ht f ab.1, where_pre h hi ht f ab.2, free_pre (where_in h hi that f ab.1) (where_in h hi that f ab.2)]
      · rw [if_neg c2, if_neg c2]
theorem not_pre {t : List Nd} {a : Int} (h : In ms a) : notR (ms ++ t) a = notR ms a := by unfold notR; rw [other_pre h]
theorem join_pre {t : List Nd} (h : Ahead ms) (op : Int) : ∀ (f : Nat) {a b : Int}, In ms a → In ms b → joinR (ms ++ t) f op a b = joinR ms f op a b
  | 0, a, b, ha, hb => rfl
  | f + 1, a, b, ha, hb => by
    rw [joinR, joinR, free_pre ha hb, where_pre h (idle_le op) ha 3 hb, where_pre h (idle_le op) hb 3 ha, join_pre h op f (where_in h (idle_le op) b 3 ha) hb, join_pre h op f ha (where_in h (idle_le op) a 3 hb)]
theorem xor_pre {t : List Nd} (h : Ahead ms) : ∀ (f : Nat) {a b : Int}, In ms a → In ms b → xorR (ms ++ t) f a b = xorR ms f a b
  | 0, a, b, ha, hb => rfl
  | f + 1, a, b, ha, hb => by
    rw [xorR, xorR, free_pre ha hb, not_pre ha, not_pre hb, mAt_pre ha, mAt_pre hb]
    refine ifc (ifc (ifc ?_))
    by_cases c : (mAt ms a).op = 8 ∧ (mAt ms b).op = 8
    · rw [if_pos c, if_pos c, xor_pre h f (h.one ha c.1) (h.one hb c.2)]
    · rw [if_neg c, if_neg c]
end
theorem out_right {l m : List Int} {n i : Nat} (h : l.length = n) : outAt (l ++ m) (n + i) = outAt m i := by
  subst h; unfold outAt; rw [List.getElem?_append_right (by omega), Nat.add_sub_cancel_left]
theorem kAt_sh {l m : List Int} {n i : Nat} (h : l.length = n) : kAt (l ++ m) ((i : Int) + (n : Int)) = outAt m i := by
  unfold kAt; rw [show ((i : Int) + (n : Int)).toNat = n + i by omega, out_right h]
/-- a node beside, on a longer maker: the same request -/
theorem anew_sh {ms t : List Nd} (h : Ahead ms) {L st : List Int} {given : Int} {n m k : Nat} {x : Nd} (hx : rightN given m k x = true) (h1 : x.op ≠ 1) (h2 : x.op ≠ 2) (h4 : x.op ≠ 4) (hl : L.length = n) (hv : ∀ i, i < k → In ms (outAt st i)) : anewR (ms ++ t) (L ++ st) (shN n 0 x) = anewR ms st x := by
  obtain ⟨op, a, b, nx⟩ := x
  rcases right_cases hx with c | c | c | c | c | c
  · exact absurd c h1
  · exact absurd c h2
  · obtain ⟨rfl, _⟩ := c; simp [anewR, shN]
  · exact absurd c.1 h4
  · obtain ⟨c1, c2, _, _, c3, c4, i, j, e1, e2, hi, hj⟩ := c
    simp only at c1 c2 c3 c4 e1 e2
    subst e1 e2
    rcases two_cases c1 with rfl | rfl | rfl
    · show joinR (ms ++ t) (joinFuel (kAt (L ++ st) ((i : Int) + n)) (kAt (L ++ st) ((j : Int) + n))) 5 (kAt (L ++ st) ((i : Int) + n)) (kAt (L ++ st) ((j : Int) + n)) = joinR ms (joinFuel (kAt st (i : Int)) (kAt st (j : Int))) 5 (kAt st (i : Int)) (kAt st (j : Int))
      rw [kAt_sh hl, kAt_sh hl, kAt_nat, kAt_nat, join_pre h 5 _ (hv i hi) (hv j hj)]
    · show joinR (ms ++ t) (joinFuel (kAt (L ++ st) ((i : Int) + n)) (kAt (L ++ st) ((j : Int) + n))) 6 (kAt (L ++ st) ((i : Int) + n)) (kAt (L ++ st) ((j : Int) + n)) = joinR ms (joinFuel (kAt st (i : Int)) (kAt st (j : Int))) 6 (kAt st (i : Int)) (kAt st (j : Int))
      rw [kAt_sh hl, kAt_sh hl, kAt_nat, kAt_nat, join_pre h 6 _ (hv i hi) (hv j hj)]
    · show xorR (ms ++ t) (joinFuel (kAt (L ++ st) ((i : Int) + n)) (kAt (L ++ st) ((j : Int) + n))) (kAt (L ++ st) ((i : Int) + n)) (kAt (L ++ st) ((j : Int) + n)) = xorR ms (joinFuel (kAt st (i : Int)) (kAt st (j : Int))) (kAt st (i : Int)) (kAt st (j : Int))
      rw [kAt_sh hl, kAt_sh hl, kAt_nat, kAt_nat, xor_pre h _ (hv i hi) (hv j hj)]
  · obtain ⟨c8, i, e1, hi⟩ := c
    simp only at c8 e1
    subst c8 e1
    show notR (ms ++ t) (kAt (L ++ st) ((i : Int) + n)) = notR ms (kAt st (i : Int))
    rw [kAt_sh hl, kAt_nat, not_pre (hv i hi)]
theorem now_sh {L st : List Int} {given : Int} {n m k : Nat} {x : Nd} (hx : rightN given m k x = true) (h4 : x.op ≠ 4) (hl : L.length = n) : firstK (shN n 0 x) (L ++ st) = firstK x st := by
  obtain ⟨op, a, b, nx⟩ := x
  rcases right_cases hx with c | c | c | c | c | c
  · simp only at c; subst c; rfl
  · simp only at c; subst c; rfl
  · obtain ⟨rfl, _⟩ := c; simp [firstK, nowK, shN]
  · exact absurd c.1 h4
  · obtain ⟨c1, c2, _, _, c3, c4, i, j, e1, e2, hi, hj⟩ := c
    simp only at c1 c2 c3 c4 e1 e2
    subst e1 e2
    rcases two_cases c1 with rfl | rfl | rfl <;> simp [firstK, nowK, shN, kAt_sh hl, kAt_nat]
  · obtain ⟨c8, i, e1, hi⟩ := c
    simp only at c8 e1
    subst c8 e1
    simp [firstK, nowK, shN, kAt_sh hl, kAt_nat]
theorem find_left {x : Nd} {t : List Nd} : ∀ {l : List Nd} {k m : Nat}, findN l x k = some m → findN (l ++ t) x k = some m
  | y :: l, k, m, h => by
    rw [List.cons_append, findN]
    rw [findN] at h
    split
    · rename_i e; rw [if_pos e] at h; exact h
    · rename_i e; rw [if_neg e] at h; exact find_left h
theorem find_new {x : Nd} {t : List Nd} : ∀ {l : List Nd} {k : Nat}, findN l x k = none → findN (l ++ x :: t) x k = some (k + l.length)
  | [], k, h => by
    rw [List.nil_append, findN, if_pos (eqN_iff.2 rfl)]; rfl
  | y :: l, k, h => by
    rw [List.cons_append, findN]
    rw [findN] at h
    split
    · rename_i e; rw [if_pos e] at h; cases h
    · rename_i e; rw [if_neg e] at h; rw [find_new h]; simp; omega
theorem done_again {ms t MS : List Nd} {r : Rq} (h : MS = (doneR ms r).2 ++ t) : doneR MS r = ((doneR ms r).1, MS) := by
  cases r with
  | num k => rfl
  | req x =>
    cases hf : findN ms x 0 with
    | none =>
      rw [done_none hf] at h ⊢
      rw [h]
      rw [done_some (k := ms.length) (by rw [List.append_assoc]; simpa using find_new (t := t) hf)]
    | some k =>
      rw [done_some hf] at h ⊢
      rw [h, done_some (k := k) (find_left hf)]
theorem done_pre (ms : List Nd) (r : Rq) : ∃ t, (doneR ms r).2 = ms ++ t := by
  cases r with
  | num k => exact ⟨[], by simp [doneR]⟩
  | req x =>
    cases hf : findN ms x 0 with
    | none => exact ⟨[x], by rw [done_none hf]⟩
    | some k => exact ⟨[], by rw [done_some hf]; simp⟩
theorem mk_pre1 (is : List Int) (ns : List Nd) (k : Nat) : ∃ t, (mkTo is ns (k + 1)).ms = (mkTo is ns k).ms ++ t := by
  show ∃ t, (mkStep (mkTo is ns k) (outAt is k) (ndAt ns k)).ms = _
  unfold mkStep
  split
  · exact done_pre _ _
  · exact ⟨[], by simp⟩
theorem mk_pre (is : List Int) (ns : List Nd) (k : Nat) : ∀ d, ∃ t, (mkTo is ns (k + d)).ms = (mkTo is ns k).ms ++ t
  | 0 => ⟨[], by simp⟩
  | d + 1 => by
    obtain ⟨t, e⟩ := mk_pre is ns k d
    obtain ⟨u, e2⟩ := mk_pre1 is ns (k + d)
    exact ⟨t ++ u, by rw [← Nat.add_assoc, e2, e, List.append_assoc]⟩
/-- a net beside itself -/
def twoNs (ns : List Nd) : List Nd := jnN ns ns ns.length 0 ns.length
def twoOs (ns : List Nd) (os : List Int) : List Int := jnO os os ns.length os.length
theorem two_len (ns : List Nd) : (twoNs ns).length = ns.length + ns.length := jnN_len _ _ _ _ _ (Nat.le_refl _)
theorem two_olen (ns : List Nd) (os : List Int) : (twoOs ns os).length = os.length + os.length := jnO_len _ _ _ _ (Nat.le_refl _)
theorem two_low (ns : List Nd) {i : Nat} (h : i < ns.length) : ndAt (twoNs ns) i = ndAt ns i := jnN_low _ _ _ _ _ _ h
theorem two_high (ns : List Nd) {q : Nat} (h : q < ns.length) : ndAt (twoNs ns) (ns.length + q) = shN ns.length 0 (ndAt ns q) := jnN_high _ _ _ _ _ h
theorem two_right {given : Int} {ns : List Nd} {os : List Int} (hr : RightP given ns os) (hb : ns.length ≤ 10000 ∧ os.length ≤ 10000) : RightP given (twoNs ns) (twoOs ns os) := by
  refine ⟨hr.g0, hr.g1, by rw [two_len]; omega, by rw [two_olen]; omega, fun i hi => ?_, fun i hi => ?_⟩
  · rw [two_len] at hi ⊢
    by_cases hlow : i < ns.length
    · rw [two_low _ hlow]
      exact rightN_wide (hr.nodes i hlow) (Int.le_refl _) (by omega)
    · obtain ⟨q, rfl⟩ : ∃ q, i = ns.length + q := ⟨i - ns.length, by omega⟩
      rw [two_high _ (by omega)]
      have := rightN_sh (g1 := 0) (n := ns.length) (hr.nodes q (by omega)) (Int.le_refl _)
      rwa [Int.zero_add] at this
  · rw [two_olen] at hi
    rw [two_len]
    by_cases hlow : i < os.length
    · unfold twoOs; rw [jnO_low _ _ _ _ _ hlow]
      have := inR_iff.1 (hr.outs i hlow)
      exact inR_iff.2 (by omega)
    · obtain ⟨q, rfl⟩ : ∃ q, i = os.length + q := ⟨i - os.length, by omega⟩
      unfold twoOs; rw [jnO_high _ _ _ _ (by omega)]
      have := inR_iff.1 (hr.outs q (by omega))
      exact inR_iff.2 (by omega)
theorem sh_op (n g : Int) (x : Nd) : (shN n g x).op = x.op := by
  unfold shN; repeat' split
  all_goals rfl
theorem two_noreg {ns : List Nd} (h : NoReg ns) : NoReg (twoNs ns) := by
  intro i hi
  rw [two_len] at hi
  by_cases hlow : i < ns.length
  · rw [two_low _ hlow]; exact h i hlow
  · obtain ⟨q, rfl⟩ : ∃ q, i = ns.length + q := ⟨i - ns.length, by omega⟩
    rw [two_high _ (by omega), sh_op]
    exact h q (by omega)
theorem two_init0 (ns : List Nd) : ∀ k, k ≤ ns.length → initTo (twoNs ns) k = initTo ns k
  | 0, _ => rfl
  | k + 1, h => by rw [initTo, initTo, two_init0 ns k (by omega), two_low _ (by omega)]
theorem two_init {given : Int} {ns : List Nd} {os : List Int} (hr : RightP given ns os) (hn : NoReg ns) : ∀ k, k ≤ ns.length → initTo (twoNs ns) (ns.length + k) = initTo ns ns.length ++ initTo ns k
  | 0, _ => by rw [Nat.add_zero, two_init0 _ _ (Nat.le_refl _)]; simp [initTo]
  | k + 1, h => by
    rw [← Nat.add_assoc, initTo, initTo, two_init hr hn k (by omega), two_high _ (by omega), now_sh (hr.nodes k (by omega)) (hn k (by omega)) (initTo_len _ _), List.append_assoc]
theorem two_mk0 {is js : List Int} (ns : List Nd) (h : ∀ i, i < ns.length → outAt is i = outAt js i) : ∀ k, k ≤ ns.length → mkTo is (twoNs ns) k = mkTo js ns k
  | 0, _ => rfl
  | k + 1, hk => by rw [mkTo, mkTo, two_mk0 ns h k (by omega), two_low _ (by omega), h k (by omega)]
theorem two_mk {given : Int} {ns : List Nd} {os : List Int} (hr : RightP given ns os) (hn : NoReg ns) : ∀ k, k ≤ ns.length → mkTo (knownP ns ++ knownP ns) (twoNs ns) (ns.length + k) = ⟨(mkAll ns).st ++ (mkTo (knownP ns) ns k).st, (mkAll ns).ms⟩
  | 0, _ => by
    rw [Nat.add_zero, two_mk0 (js := knownP ns) ns (fun i hi => outAt_app_left (by rw [(known_ok hr).1]; exact hi)) _ (Nat.le_refl _)]
    show mkAll ns = ⟨(mkAll ns).st ++ [], (mkAll ns).ms⟩
    rw [List.append_nil]
  | k + 1, hk => by
    have hko := known_ok hr
    have gd := mkTo_good hr hko k (by omega)
    have gA := mkTo_good hr hko ns.length (Nat.le_refl _)
    have hx := hr.nodes k (by omega)
    have ho := hko.2.2 k (by omega)
    obtain ⟨t, ht⟩ := mk_pre (knownP ns) ns (k + 1) (ns.length - (k + 1))
    obtain ⟨u, hu⟩ := mk_pre (knownP ns) ns k (ns.length - k)
    rw [show k + 1 + (ns.length - (k + 1)) = ns.length by omega] at ht
    rw [show k + (ns.length - k) = ns.length by omega] at hu
    rw [← Nat.add_assoc, mkTo, two_mk hr hn k (by omega), two_high _ (by omega), out_right hko.1]
    rw [mkTo]
    rw [mkTo] at ht
    have eA : (mkAll ns).ms = (mkTo (knownP ns) ns ns.length).ms := rfl
    have eL : (mkAll ns).st.length = ns.length := gA.len
    rw [← eA] at ht hu
    generalize mkTo (knownP ns) ns k = m at *
    generalize mkAll ns = M at *
    obtain ⟨ST, MS⟩ := M
    simp only at ht hu eL eA ⊢
    unfold mkStep at ht ⊢
    split
    · rename_i h2
      rw [if_pos h2] at ht
      have e : anewR MS (ST ++ m.st) (shN ns.length 0 (ndAt ns k)) = anewR m.ms m.st (ndAt ns k) := by
        rw [hu]
        exact anew_sh gd.ahead hx (ho h2).1 (ho h2).2 (hn k (by omega)) eL gd.all
      simp only [e]
      rw [done_again ht]
      simp
    · rename_i h2
      simp
theorem two_all {given : Int} {ns : List Nd} {os : List Int} (hr : RightP given ns os) (hn : NoReg ns) (hb : ns.length ≤ 10000 ∧ os.length ≤ 10000) : mkAll (twoNs ns) = ⟨(mkAll ns).st ++ (mkAll ns).st, (mkAll ns).ms⟩ := by
  have e : knownP (twoNs ns) = knownP ns ++ knownP ns := by
    rw [known_init (two_right hr hb) (two_noreg hn), two_len, two_init hr hn _ (Nat.le_refl _), known_init hr hn]
  unfold mkAll
  rw [e, two_len]
  exact two_mk hr hn _ (Nat.le_refl _)
/-- what is needed does not look at stands but at registers -/
theorem note_st {m m2 : Mk} (hms : m2.ms = m.ms) (h4 : ∀ v, (mAt m.ms v).op = 4 → kAt m2.st (mAt m.ms v).next = kAt m.st (mAt m.ms v).next) : ∀ (f : Nat) (v : Int) (nd : List Bool), noteF m2 f v nd = noteF m f v nd
  | 0, _, _ => rfl
  | f + 1, v, nd => by
    rw [noteF, noteF, hms]
    refine ifc ?_
    by_cases c4 : (mAt m.ms v).op = 4
    · rw [if_pos c4, if_pos c4, h4 v c4, note_st hms h4 f]
    · rw [if_neg c4, if_neg c4]; simp only [note_st hms h4 f]
theorem note_idle (m : Mk) (f : Nat) (v : Int) (nd : List Bool) (h : bit nd v.toNat = true) : noteF m f v nd = nd := by
  cases f with
  | zero => rfl
  | succ f => rw [noteF, if_pos h]
theorem clean_twice {given : Int} {ns : List Nd} {os : List Int} (hr : RightP given ns os) (hn : NoReg ns) (hb : ns.length ≤ 10000 ∧ os.length ≤ 10000) :
    cleanNs (twoNs ns) (twoOs ns os) = cleanNs ns os ∧ (cleanOs (twoNs ns) (twoOs ns os)).length = 2 * os.length := by
  obtain ⟨hd, hl, _, _⟩ := mkAll_done hr
  have hin : ∀ i, i < os.length → ∃ q : Nat, q < (mkAll ns).st.length ∧ outAt os i = q := fun i hi => by
    have := inR_iff.1 (hr.outs i hi)
    exact ⟨(outAt os i).toNat, by omega, by omega⟩
  have hall := hd.all
  unfold cleanNs cleanOs
  rw [two_all hr hn hb]
  have hnoted := (noteTo_noted hd hin os.length (Nat.le_refl _)).1
  generalize mkAll ns = m at *
  have hreg : ∀ k, (ndAt m.ms k).op = 4 → ∃ q : Nat, (ndAt m.ms k).next = q ∧ q < m.st.length := fun k h4 => by
    rcases Nat.lt_or_ge k m.ms.length with h | h
    · exact hd.regs k h h4
    · exfalso
      unfold ndAt at h4
      rw [List.getElem?_eq_none h] at h4
      exact absurd h4 (by decide)
  have h4 : ∀ v, (mAt m.ms v).op = 4 → kAt (m.st ++ m.st) (mAt m.ms v).next = kAt m.st (mAt m.ms v).next := fun v hv => by
    obtain ⟨q, e, hq⟩ := hreg _ hv
    have e' : (mAt m.ms v).next = q := e
    rw [e', kAt_nat, kAt_nat, outAt_app_left hq]
  have hns := note_st (m := m) (m2 := ⟨m.st ++ m.st, m.ms⟩) rfl h4
  have low : ∀ k, k ≤ os.length → noteTo ⟨m.st ++ m.st, m.ms⟩ (twoOs ns os) k = noteTo m os k := by
    intro k
    induction k with
    | zero => intro _; rfl
    | succ k ih =>
      intro hk
      obtain ⟨q, hq, e⟩ := hin k (by omega)
      rw [noteTo, noteTo, ih (by omega), hns]
      have e1 : outAt (twoOs ns os) k = outAt os k := jnO_low _ _ _ _ _ (by omega)
      simp only [e1, e, kAt_nat]
      rw [outAt_app_left hq]
  have high : ∀ k, k ≤ os.length → noteTo ⟨m.st ++ m.st, m.ms⟩ (twoOs ns os) (os.length + k) = noteTo m os os.length := by
    intro k
    induction k with
    | zero => intro _; exact low _ (Nat.le_refl _)
    | succ k ih =>
      intro hk
      obtain ⟨q, hq, e⟩ := hin k (by omega)
      rw [← Nat.add_assoc, noteTo, ih (by omega), hns]
      have e1 : outAt (twoOs ns os) (os.length + k) = outAt os k + ns.length := jnO_high _ _ _ _ (by omega)
      simp only [e1, e]
      rw [← hl, kAt_sh (l := m.st) (n := m.st.length) rfl]
      have hi := hall q hq
      refine note_idle _ _ _ _ (hnoted k (by omega) _ ?_)
      rw [e, kAt_nat]
      exact (Int.toNat_of_nonneg hi.1).symm
  have hneed : needP ⟨m.st ++ m.st, m.ms⟩ (twoOs ns os) = needP m os := by
    unfold needP
    rw [two_olen]
    exact high _ (Nat.le_refl _)
  have hre : ∀ (nd : List Bool) k, reN nd (m.st ++ m.st) (ndAt m.ms k) = reN nd m.st (ndAt m.ms k) := fun nd k => by
    unfold reN
    by_cases c4 : (ndAt m.ms k).op = 4
    · obtain ⟨q, e, hq⟩ := hreg k c4
      rw [if_pos c4, if_pos c4, e, kAt_nat, kAt_nat, outAt_app_left hq]
    · rw [if_neg c4, if_neg c4]
  have hnew : ∀ (nd : List Bool) k, newTo ⟨m.st ++ m.st, m.ms⟩ nd k = newTo m nd k := by
    intro nd k
    induction k with
    | zero => rfl
    | succ k ih => rw [newTo, newTo, ih]; simp only [hre]
  refine ⟨?_, ?_⟩
  · unfold newNs
    rw [hneed, hnew]
  · unfold newOs
    rw [List.length_map, two_olen]; omega
end Go.Proofs.Ytlnmemeejgnbeaa
