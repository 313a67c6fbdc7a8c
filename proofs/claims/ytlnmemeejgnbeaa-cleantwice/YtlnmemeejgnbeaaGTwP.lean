/-
  A NET WHOSE OUTS ARE TURNED TWICE, plain: it may be, it has as many gates more, and it lets out the same.
-/
import Derived.Test.YtlnmemeejgnbeaaGPlain
set_option linter.unusedSimpArgs false
set_option linter.unusedVariables false
namespace Go.Proofs.Ytlnmemeejgnbeaa

def twN (ns : List Nd) (os : List Int) : Nat → List Nd
  | 0 => ns
  | i + 1 => twN ns os i ++ [⟨8, outAt os i, 0, 0⟩, ⟨8, ((twN ns os i).length : Int), 0, 0⟩]
def twO (ns : List Nd) (os : List Int) : Nat → List Int
  | 0 => []
  | i + 1 => twO ns os i ++ [((twN ns os i).length : Int) + 1]
theorem twN_len (ns : List Nd) (os : List Int) (i : Nat) : (twN ns os i).length = ns.length + 2 * i := by
  induction i with
  | zero => simp [twN]
  | succ i ih => simp only [twN, List.length_append, ih, List.length_cons, List.length_nil]; omega
theorem twO_len (ns : List Nd) (os : List Int) (i : Nat) : (twO ns os i).length = i := by
  induction i with
  | zero => rfl
  | succ i ih => simp [twO, ih]
theorem ndAt_app_left {a b : List Nd} {i : Nat} (h : i < a.length) : ndAt (a ++ b) i = ndAt a i := by
  unfold ndAt; rw [List.getElem?_append_left h]
theorem ndAt_app_right {a b : List Nd} {i : Nat} (h : a.length ≤ i) : ndAt (a ++ b) i = ndAt b (i - a.length) := by
  unfold ndAt; rw [List.getElem?_append_right h]
theorem twN_low (ns : List Nd) (os : List Int) (i j : Nat) (h : j < ns.length) : ndAt (twN ns os i) j = ndAt ns j := by
  induction i with
  | zero => rfl
  | succ i ih => simp only [twN]; rw [ndAt_app_left (by rw [twN_len]; omega), ih]
theorem twN_at (ns : List Nd) (os : List Int) (i q : Nat) (h : q < i) : ndAt (twN ns os i) (ns.length + 2 * q) = ⟨8, outAt os q, 0, 0⟩ ∧ ndAt (twN ns os i) (ns.length + 2 * q + 1) = ⟨8, (ns.length + 2 * q : Nat), 0, 0⟩ := by
  induction i with
  | zero => omega
  | succ i ih =>
    simp only [twN]
    by_cases e : q = i
    · subst e
      rw [ndAt_app_right (by rw [twN_len]; exact Nat.le_refl _), ndAt_app_right (by rw [twN_len]; omega), twN_len, Nat.sub_self, show ns.length + 2 * q + 1 - (ns.length + 2 * q) = 1 by omega]
      exact ⟨rfl, rfl⟩
    · rw [ndAt_app_left (by rw [twN_len]; omega), ndAt_app_left (by rw [twN_len]; omega)]
      exact ih (by omega)
theorem twO_at (ns : List Nd) (os : List Int) (i q : Nat) (h : q < i) : outAt (twO ns os i) q = (ns.length + 2 * q + 1 : Nat) := by
  induction i with
  | zero => omega
  | succ i ih =>
    simp only [twO]
    by_cases e : q = i
    · subst e
      unfold outAt
      rw [List.getElem?_append_right (by rw [twO_len]; exact Nat.le_refl _), twO_len, Nat.sub_self, twN_len]
      simp
    · have : outAt (twO ns os i ++ [((twN ns os i).length : Int) + 1]) q = outAt (twO ns os i) q := by
        unfold outAt; rw [List.getElem?_append_left (by rw [twO_len]; omega)]
      rw [this]
      exact ih (by omega)
theorem rightN_more {given : Int} {n m i : Nat} {x : Nd} (h : rightN given n i x = true) (hm : n ≤ m) : rightN given m i x = true := by
  unfold rightN at *
  by_cases h4 : x.op = 4
  · simp [h4, inR] at h ⊢
    omega
  · simp only [h4, if_false] at h ⊢
    exact h
theorem tw_right {given : Int} {ns : List Nd} {os : List Int} (h : RightP given ns os) (hn : ns.length ≤ 60) (ho : os.length ≤ 30) : RightP given (twN ns os os.length) (twO ns os os.length) := by
  refine ⟨h.g0, h.g1, by rw [twN_len]; omega, by rw [twO_len]; omega, fun i hi => ?_, fun i hi => ?_⟩
  · rw [twN_len] at hi ⊢
    by_cases hl : i < ns.length
    · rw [twN_low _ _ _ _ hl]
      exact rightN_more (h.nodes i hl) (by omega)
    · obtain ⟨q, hq | hq⟩ : ∃ q, i = ns.length + 2 * q ∨ i = ns.length + 2 * q + 1 := ⟨(i - ns.length) / 2, by omega⟩
      · subst hq
        rw [(twN_at ns os os.length q (by omega)).1]
        have := inR_iff.1 (h.outs q (by omega))
        simp [rightN, inR]
        omega
      · subst hq
        rw [(twN_at ns os os.length q (by omega)).2]
        simp [rightN, inR]
        omega
  · rw [twO_len] at hi
    rw [twO_at ns os os.length i hi, twN_len]
    simp [inR]
    omega
theorem gatesTo_congr {a b : List Nd} : ∀ {k : Nat}, (∀ i, i < k → ndAt a i = ndAt b i) → gatesTo a k = gatesTo b k
  | 0, _ => rfl
  | k + 1, h => by simp only [gatesTo]; rw [gatesTo_congr fun i hi => h i (by omega), h k (by omega)]
theorem tw_gates (ns : List Nd) (os : List Int) : ∀ i, gatesTo (twN ns os i) (twN ns os i).length = gatesTo ns ns.length + 2 * i := by
  intro i
  have key : ∀ q, q ≤ i → gatesTo (twN ns os i) (ns.length + 2 * q) = gatesTo ns ns.length + 2 * q := by
    intro q
    induction q with
    | zero => intro _; exact gatesTo_congr fun j hj => twN_low ns os i j (by omega)
    | succ q ih =>
      intro hq
      rw [show ns.length + 2 * (q + 1) = ns.length + 2 * q + 1 + 1 by omega]
      have h := twN_at ns os i q (by omega)
      simp only [gatesTo, h.1, h.2, ih (by omega)]
      simp [isGate]
      omega
  rw [twN_len]
  exact key i (Nat.le_refl _)
theorem valN_congr {g v v' : List Bool} {hd : Bool} {given : Int} {many i : Nat} {x : Nd} (hr : rightN given many i x = true) (hv : ∀ j, j < i → bit v j = bit v' j) : valN g v hd x = valN g v' hd x := by
  unfold rightN at hr
  unfold valN
  by_cases h5 : x.op = 5
  · simp [h5, inR] at hr ⊢
    rw [hv _ (by omega), hv _ (by omega)]
  by_cases h6 : x.op = 6
  · simp [h6, inR] at hr ⊢
    rw [hv _ (by omega), hv _ (by omega)]
  by_cases h7 : x.op = 7
  · simp [h7, inR] at hr ⊢
    rw [hv _ (by omega), hv _ (by omega)]
  by_cases h8 : x.op = 8
  · simp [h8, inR] at hr ⊢
    rw [hv _ (by omega)]
  simp [h5, h6, h7, h8]
theorem valsTo_bit {g held : List Bool} {ns : List Nd} : ∀ {k i : Nat}, i < k → bit (valsTo g held ns k) i = valN g (valsTo g held ns i) (bit held i) (ndAt ns i)
  | 0, _, h => absurd h (Nat.not_lt_zero _)
  | k + 1, i, h => by
    simp only [valsTo]
    by_cases e : i = k
    · subst e
      unfold bit
      rw [List.getElem?_append_right (by rw [valsTo_len]; exact Nat.le_refl _), valsTo_len, Nat.sub_self]
      rfl
    · rw [bit_append_left (by rw [valsTo_len]; omega)]
      exact valsTo_bit (by omega)
theorem valsTo_pre {g held : List Bool} {ns : List Nd} {k i j : Nat} (hi : i < k) (hj : i < j) : bit (valsTo g held ns k) i = bit (valsTo g held ns j) i := by rw [valsTo_bit hi, valsTo_bit hj]
/-- the same nodes ahead, the same held ahead: the same is what they are -/
theorem valsTo_congr {g held held' : List Bool} {a b : List Nd} : ∀ {k : Nat}, (∀ i, i < k → ndAt a i = ndAt b i) → (∀ i, i < k → bit held i = bit held' i) → valsTo g held a k = valsTo g held' b k
  | 0, _, _ => rfl
  | k + 1, h, hh => by simp only [valsTo]; rw [valsTo_congr (fun i hi => h i (by omega)) (fun i hi => hh i (by omega)), h k (by omega), hh k (by omega)]
theorem tw_bit {g held held' : List Bool} {given : Int} {ns : List Nd} {os : List Int} (h : RightP given ns os) (hh : ∀ i, i < ns.length → bit held' i = bit held i) {k j : Nat} (hk : ns.length ≤ k) (hj : j < ns.length) : bit (valsTo g held' (twN ns os os.length) k) j = bit (vals g held ns) j := by
  rw [valsTo_pre (j := ns.length) (by omega) hj, valsTo_congr (b := ns) (fun i hi => twN_low ns os _ i hi) hh]
  rfl
theorem tw_outs {g held held' : List Bool} {given : Int} {ns : List Nd} {os : List Int} (h : RightP given ns os) (hh : ∀ i, i < ns.length → bit held' i = bit held i) : outs (vals g held' (twN ns os os.length)) (twO ns os os.length) = outs (vals g held ns) os := by
  apply List.ext_getElem?
  intro q
  unfold outs
  rw [List.getElem?_map, List.getElem?_map]
  by_cases hq : q < os.length
  · have e1 : (twO ns os os.length)[q]? = some ((ns.length + 2 * q + 1 : Nat) : Int) := by
      have := twO_at ns os os.length q hq
      unfold outAt at this
      rw [List.getElem?_eq_getElem (by rw [twO_len]; exact hq)] at this ⊢
      simpa using this
    have e2 : os[q]? = some (outAt os q) := by unfold outAt; rw [List.getElem?_eq_getElem hq]; rfl
    rw [e1, e2]
    simp only [Option.map_some, Option.some.injEq, Int.toNat_natCast]
    have ho := inR_iff.1 (h.outs q hq)
    obtain ⟨on, hon⟩ := Int.eq_ofNat_of_zero_le ho.1
    rw [hon] at ho ⊢
    have hlen : (twN ns os os.length).length = ns.length + 2 * os.length := twN_len _ _ _
    have ha := twN_at ns os os.length q hq
    show bit (valsTo g held' (twN ns os os.length) (twN ns os os.length).length) (ns.length + 2 * q + 1) = _
    rw [hlen, valsTo_bit (by omega), ha.2]
    have e3 : bit (valsTo g held' (twN ns os os.length) (ns.length + 2 * q + 1)) (ns.length + 2 * q) = !bit (vals g held ns) on := by
      rw [valsTo_bit (by omega), ha.1, hon]
      have := tw_bit (g := g) h hh (k := ns.length + 2 * q) (j := on) (by omega) (by omega)
      simp [valN, this]
    have e4 : ((ns.length : Int) + 2 * (q : Int)).toNat = ns.length + 2 * q := by omega
    simp [valN, e3, e4]
  · rw [List.getElem?_eq_none (by rw [twO_len]; omega), List.getElem?_eq_none (by omega)]; rfl
theorem bit_map {α : Type} (f : Nat → Bool) (n i : Nat) (hi : i < n) : bit ((List.range n).map f) i = f i := by
  unfold bit; rw [getElem?_mapRange _ _ _ hi]; rfl
theorem next_bit {v held : List Bool} {ns : List Nd} {i : Nat} (hl : i < held.length) (hi : i < ns.length) : bit (heldNext v held ns) i = nextOf v (ndAt ns i) (bit held i) := by
  unfold heldNext heldTo
  rw [bit_map (α := Bool) _ _ _ hl, if_pos hi]
theorem first_bit {ns : List Nd} {i : Nat} (hi : i < ns.length) : bit (first ns) i = firstOf (ndAt ns i) := by
  unfold first firstTo
  rw [bit_map (α := Bool) _ _ _ hi, if_pos hi]
theorem tw_held {g held held' : List Bool} {given : Int} {ns : List Nd} {os : List Int} (h : RightP given ns os) (hl : held.length = ns.length) (hl' : held'.length = (twN ns os os.length).length) (hh : ∀ i, i < ns.length → bit held' i = bit held i) :
    ∀ i, i < ns.length → bit (heldNext (vals g held' (twN ns os os.length)) held' (twN ns os os.length)) i = bit (heldNext (vals g held ns) held ns) i := by
  intro i hi
  have hlen : (twN ns os os.length).length = ns.length + 2 * os.length := twN_len _ _ _
  rw [next_bit (by omega) (by omega), next_bit (by omega) hi, twN_low _ _ _ _ hi, hh i hi]
  unfold nextOf
  by_cases hr : isReg (ndAt ns i)
  · have hx := h.nodes i hi
    have h4 : (ndAt ns i).op = 4 := by simpa [isReg] using hr
    simp [rightN, h4, inR] at hx
    simp only [hr, if_true]
    unfold vals
    rw [tw_bit h hh (k := (twN ns os os.length).length) (j := (ndAt ns i).next.toNat) (by omega) (by omega)]
    rfl
  · simp [hr]
theorem tw_first (ns : List Nd) (os : List Int) : ∀ i, i < ns.length → bit (first (twN ns os os.length)) i = bit (first ns) i := by
  intro i hi
  rw [first_bit (by rw [twN_len]; omega), first_bit hi, twN_low _ _ _ _ hi]
/-- what is given beyond is not seen -/
theorem vals_given {g g' held : List Bool} {given : Int} {ns : List Nd} {os : List Int} (h : RightP given ns os) (hg : ∀ i : Nat, (i : Int) < given → bit g' i = bit g i) : vals g' held ns = vals g held ns := by
  have key : ∀ k, k ≤ ns.length → valsTo g' held ns k = valsTo g held ns k := by
    intro k
    induction k with
    | zero => intro _; rfl
    | succ k ih =>
      intro hk
      simp only [valsTo]
      rw [ih (by omega)]
      congr 2
      have hx := h.nodes k (by omega)
      unfold valN
      by_cases h3 : (ndAt ns k).op = 3
      · simp [rightN, h3, inR] at hx
        simp only [h3]
        simp
        exact hg _ (by omega)
      · simp [h3]
  exact key _ (Nat.le_refl _)
theorem bit_zeros (g : List Bool) (k i : Nat) : bit (g ++ List.replicate k false) i = bit g i := by
  unfold bit
  by_cases h : i < g.length
  · rw [List.getElem?_append_left h]
  · rw [List.getElem?_append_right (by omega), List.getElem?_eq_none (l := g) (by omega), List.getElem?_replicate]
    split <;> rfl
end Go.Proofs.Ytlnmemeejgnbeaa
