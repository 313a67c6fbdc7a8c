/-
  NETS OF TABLES, plain: which may be, how deep they are, what comes out, cycle by cycle.
-/
import Derived.Test.YtacgepdmhdcdkaaGPlain
namespace Go.Proofs.Ytacgepdmhdcdkaa

structure Lt where
  ins : List Int
  table : Int
structure Rg where
  init : Bool
  next : Int
def ltAt (ls : List Lt) (i : Nat) : Lt := ls[i]?.getD ⟨[], 0⟩
def rgAt (rs : List Rg) (i : Nat) : Rg := rs[i]?.getD ⟨false, 0⟩
def pow4 (n : Nat) : Nat := 2 ^ 2 ^ n
/-- a table may be where so many signals are ahead -/
def rightL (ahead : Nat) (l : Lt) : Bool := (decide (l.ins.length ≤ 4) && inR l.table (pow4 l.ins.length : Nat)) && outsTo ahead l.ins l.ins.length
def lutsTo (f : Nat) (ls : List Lt) : Nat → Bool
  | 0 => true
  | k + 1 => lutsTo f ls k && rightL (f + k) (ltAt ls k)
def regsTo (many : Nat) (rs : List Rg) : Nat → Bool
  | 0 => true
  | k + 1 => regsTo many rs k && inR (rgAt rs k).next many
def sizesT (given : Int) (rs : List Rg) (ls : List Lt) (os : List Int) : Bool := decide (0 ≤ given) && (decide (given ≤ 20000) && (decide (rs.length ≤ 20000) && (decide (ls.length ≤ 20000) && decide (os.length ≤ 20000))))
def bodyT (f : Nat) (rs : List Rg) (ls : List Lt) (os : List Int) : Bool := lutsTo f ls ls.length && (regsTo (f + ls.length) rs rs.length && outsTo (f + ls.length) os os.length)
def rightT (given : Int) (rs : List Rg) (ls : List Lt) (os : List Int) : Bool :=
  sizesT given rs ls os && bodyT (given.toNat + rs.length) rs ls os

theorem lutsTo_at {f : Nat} {ls : List Lt} : ∀ {k : Nat}, lutsTo f ls k = true → ∀ i, i < k → rightL (f + i) (ltAt ls i) = true
  | 0, _, i, hi => absurd hi (Nat.not_lt_zero _)
  | k + 1, h, i, hi => by
    simp only [lutsTo, Bool.and_eq_true] at h
    by_cases e : i = k
    · subst e; exact h.2
    · exact lutsTo_at h.1 i (by omega)
theorem regsTo_at {many : Nat} {rs : List Rg} : ∀ {k : Nat}, regsTo many rs k = true → ∀ i, i < k → inR (rgAt rs i).next many = true
  | 0, _, i, hi => absurd hi (Nat.not_lt_zero _)
  | k + 1, h, i, hi => by
    simp only [regsTo, Bool.and_eq_true] at h
    by_cases e : i = k
    · subst e; exact h.2
    · exact regsTo_at h.1 i (by omega)
theorem lutsTo_iff {f : Nat} {ls : List Lt} : ∀ {k : Nat}, (∀ i, i < k → rightL (f + i) (ltAt ls i) = true) → lutsTo f ls k = true
  | 0, _ => rfl
  | k + 1, h => by simp only [lutsTo, Bool.and_eq_true]; exact ⟨lutsTo_iff fun i hi => h i (by omega), h k (by omega)⟩
theorem regsTo_iff {many : Nat} {rs : List Rg} : ∀ {k : Nat}, (∀ i, i < k → inR (rgAt rs i).next many = true) → regsTo many rs k = true
  | 0, _ => rfl
  | k + 1, h => by simp only [regsTo, Bool.and_eq_true]; exact ⟨regsTo_iff fun i hi => h i (by omega), h k (by omega)⟩

/-- of a net of tables that may be -/
structure RightT (given : Nat) (rs : List Rg) (ls : List Lt) (os : List Int) : Prop where
  g1 : given ≤ 20000
  r1 : rs.length ≤ 20000
  l1 : ls.length ≤ 20000
  o1 : os.length ≤ 20000
  luts : ∀ i, i < ls.length → rightL (given + rs.length + i) (ltAt ls i) = true
  regs : ∀ i, i < rs.length → inR (rgAt rs i).next (given + rs.length + ls.length : Nat) = true
  outs : ∀ i, i < os.length → inR (outAt os i) (given + rs.length + ls.length : Nat) = true
theorem rightT_iff {given : Nat} {rs : List Rg} {ls : List Lt} {os : List Int} : rightT given rs ls os = true ↔ RightT given rs ls os := by
  simp only [rightT, sizesT, bodyT, Bool.and_eq_true, decide_eq_true_eq, Int.toNat_natCast]
  constructor
  · rintro ⟨⟨_, h1, h2, h3, h4⟩, h5, h6, h7⟩
    exact ⟨by omega, h2, h3, h4, lutsTo_at h5, regsTo_at h6, outsTo_at h7⟩
  · intro h
    exact ⟨⟨by omega, by have := h.g1; omega, h.r1, h.l1, h.o1⟩, lutsTo_iff h.luts, regsTo_iff h.regs, outsTo_iff h.outs⟩
theorem rightT_nat {given : Int} {rs : List Rg} {ls : List Lt} {os : List Int} (h : rightT given rs ls os = true) : ∃ n : Nat, given = n := by
  simp only [rightT, sizesT, Bool.and_eq_true, decide_eq_true_eq] at h
  exact Int.eq_ofNat_of_zero_le h.1.1
structure RightL (ahead : Nat) (l : Lt) : Prop where
  n4 : l.ins.length ≤ 4
  t0 : 0 ≤ l.table
  t1 : l.table < (pow4 l.ins.length : Nat)
  ins : ∀ i, i < l.ins.length → inR (outAt l.ins i) ahead = true
theorem rightL_iff {ahead : Nat} {l : Lt} : rightL ahead l = true ↔ RightL ahead l := by
  simp only [rightL, Bool.and_eq_true, decide_eq_true_eq, inR_iff]
  constructor
  · rintro ⟨⟨h1, h2, h3⟩, h4⟩; exact ⟨h1, h2, h3, outsTo_at h4⟩
  · intro h; exact ⟨⟨h.n4, h.t0, h.t1⟩, outsTo_iff h.ins⟩
theorem RightL.tlt {ahead : Nat} {l : Lt} (h : RightL ahead l) : l.table < 65536 := by
  have h1 := h.t1
  have h4 := h.n4
  have : pow4 l.ins.length ≤ 65536 := by
    have : ∀ k : Nat, k ≤ 4 → pow4 k ≤ 65536 := by decide
    exact this _ h4
  omega

/-! how deep -/
def depS (f : Nat) (d : List Nat) (s : Nat) : Nat := if s < f then 0 else d[s - f]?.getD 0
def behTo (f : Nat) (d : List Nat) (ins : List Int) : Nat → Nat
  | 0 => 0
  | k + 1 => max (behTo f d ins k) (depS f d (outAt ins k).toNat)
def behd (f : Nat) (d : List Nat) (ins : List Int) : Nat := behTo f d ins ins.length
def dpsTo (f : Nat) (ls : List Lt) : Nat → List Nat
  | 0 => []
  | k + 1 => dpsTo f ls k ++ [1 + behd f (dpsTo f ls k) (ltAt ls k).ins]
def deepTo (f : Nat) (ls : List Lt) : Nat → Nat
  | 0 => 0
  | k + 1 => max (deepTo f ls k) (1 + behd f (dpsTo f ls k) (ltAt ls k).ins)
def depthP (f : Nat) (ls : List Lt) : Nat := deepTo f ls ls.length
theorem dpsTo_len (f : Nat) (ls : List Lt) (k : Nat) : (dpsTo f ls k).length = k := by
  induction k with
  | zero => rfl
  | succ k ih => simp [dpsTo, ih]
theorem behTo_le {f : Nat} {d : List Nat} {m : Nat} (h : ∀ s, depS f d s ≤ m) (ins : List Int) : ∀ k, behTo f d ins k ≤ m
  | 0 => Nat.zero_le _
  | k + 1 => by
    have h1 := behTo_le h ins k
    have h2 := h (outAt ins k).toNat
    simp only [behTo]; omega
theorem dps_le (f : Nat) (ls : List Lt) : ∀ k s, depS f (dpsTo f ls k) s ≤ k
  | 0, s => by unfold depS; split <;> simp [dpsTo]
  | k + 1, s => by
    have ih := dps_le f ls k
    unfold depS
    split
    · omega
    · rename_i hs
      simp only [dpsTo]
      rcases Nat.lt_trichotomy (s - f) k with h | h | h
      · rw [List.getElem?_append_left (by rw [dpsTo_len]; exact h)]
        have := ih s
        unfold depS at this
        rw [if_neg hs] at this
        omega
      · rw [List.getElem?_append_right (by rw [dpsTo_len]; omega), dpsTo_len, h, Nat.sub_self]
        have := behTo_le ih (ltAt ls k).ins (ltAt ls k).ins.length
        simp [behd]; omega
      · rw [List.getElem?_eq_none (by rw [List.length_append, dpsTo_len]; simp; omega)]
        simp
theorem behd_le (f : Nat) (ls : List Lt) (k : Nat) (ins : List Int) : behd f (dpsTo f ls k) ins ≤ k := behTo_le (dps_le f ls k) ins _
theorem behTo_le2 (f : Nat) (ls : List Lt) (k : Nat) (ins : List Int) (q : Nat) : behTo f (dpsTo f ls k) ins q ≤ k := behTo_le (dps_le f ls k) ins _
theorem deepTo_le (f : Nat) (ls : List Lt) : ∀ k, deepTo f ls k ≤ k
  | 0 => Nat.le_refl _
  | k + 1 => by
    have h1 := deepTo_le f ls k
    have h2 := behd_le f ls k (ltAt ls k).ins
    simp only [deepTo]; omega
/-- the row of all signals' depths, the first k tables being told -/
def deepR (f : Nat) (ls : List Lt) (k : Nat) : List Int := (List.range (f + ls.length)).map fun i => ((depS f (dpsTo f ls k) i : Nat) : Int)
theorem deepR_len (f : Nat) (ls : List Lt) (k : Nat) : (deepR f ls k).length = f + ls.length := by simp [deepR]
theorem deepR_at (f : Nat) (ls : List Lt) (k s : Nat) (h : s < f + ls.length) : outAt (deepR f ls k) s = ((depS f (dpsTo f ls k) s : Nat) : Int) := by
  unfold outAt deepR; rw [getElem?_mapRange _ _ _ h]; rfl
theorem deepR_zero (f : Nat) (ls : List Lt) : deepR f ls 0 = List.replicate (f + ls.length) 0 := by
  unfold deepR
  have : (fun i => ((depS f (dpsTo f ls 0) i : Nat) : Int)) = fun _ => 0 := by
    funext i; unfold depS; split <;> simp [dpsTo]
  rw [this]; simp [List.map_const']
theorem deepR_set (f : Nat) (ls : List Lt) (k : Nat) : (deepR f ls k).set (f + k) ((1 + behd f (dpsTo f ls k) (ltAt ls k).ins : Nat) : Int) = deepR f ls (k + 1) := by
  unfold deepR
  have e : ((1 + behd f (dpsTo f ls k) (ltAt ls k).ins : Nat) : Int) = (fun i => ((depS f (dpsTo f ls (k + 1)) i : Nat) : Int)) (f + k) := by
    simp only [depS]
    rw [if_neg (by omega), show f + k - f = k by omega]
    simp only [dpsTo]
    rw [List.getElem?_append_right (by rw [dpsTo_len]; omega), dpsTo_len, Nat.sub_self]; rfl
  rw [e]
  refine mapRange_set _ (fun i => ((depS f (dpsTo f ls (k + 1)) i : Nat) : Int)) _ (f + k) fun i _ hk => ?_
  show ((depS f (dpsTo f ls k) i : Nat) : Int) = ((depS f (dpsTo f ls (k + 1)) i : Nat) : Int)
  congr 1
  unfold depS
  split
  · rfl
  · simp only [dpsTo]
    by_cases h : i - f < k
    · rw [List.getElem?_append_left (by rw [dpsTo_len]; exact h)]
    · rw [List.getElem?_eq_none (by rw [dpsTo_len]; omega), List.getElem?_eq_none (by rw [List.length_append, dpsTo_len]; simp; omega)]

/-! a cycle -/
def sigL (gn : Nat) (g h t : List Bool) (s : Nat) : Bool := if s < gn then bit g s else if s - gn < h.length then bit h (s - gn) else bit t (s - gn - h.length)
def idxTo (look : Nat → Bool) (ins : List Int) : Nat → Nat
  | 0 => 0
  | k + 1 => idxTo look ins k + (if look (outAt ins k).toNat then 2 ^ k else 0)
def bitL (look : Nat → Bool) (l : Lt) : Bool := l.table / ((2 ^ idxTo look l.ins l.ins.length : Nat) : Int) % 2 == 1
def tabsTo (gn : Nat) (g h : List Bool) (ls : List Lt) : Nat → List Bool
  | 0 => []
  | k + 1 => tabsTo gn g h ls k ++ [bitL (sigL gn g h (tabsTo gn g h ls k)) (ltAt ls k)]
def lookL (gn : Nat) (g h : List Bool) (ls : List Lt) (s : Nat) : Bool := sigL gn g h (tabsTo gn g h ls ls.length) s
theorem tabsTo_len (gn : Nat) (g h : List Bool) (ls : List Lt) (k : Nat) : (tabsTo gn g h ls k).length = k := by
  induction k with
  | zero => rfl
  | succ k ih => simp [tabsTo, ih]
theorem idxTo_lt (look : Nat → Bool) (ins : List Int) (k : Nat) : idxTo look ins k < 2 ^ k := by
  induction k with
  | zero => simp [idxTo]
  | succ k ih => unfold idxTo; rw [Nat.pow_succ]; split <;> omega
/-- a row that is told from its beginning on -/
def rowTo (f : Nat → Bool) (n k : Nat) : List Bool := (List.range n).map fun i => if i < k then f i else false
theorem rowTo_len (f : Nat → Bool) (n k : Nat) : (rowTo f n k).length = n := by simp [rowTo]
theorem rowTo_zero (f : Nat → Bool) (n : Nat) : rowTo f n 0 = List.replicate n false := by simp [rowTo, List.map_const']
theorem rowTo_all (f : Nat → Bool) (n : Nat) : rowTo f n n = (List.range n).map f := List.map_congr_left fun i hi => by rw [if_pos (List.mem_range.1 hi)]
theorem rowTo_set (f : Nat → Bool) (n k : Nat) : (rowTo f n k).set k (f k) = rowTo f n (k + 1) := by
  unfold rowTo
  have e : f k = (fun i => if i < k + 1 then f i else false) k := by simp
  rw [e]
  refine mapRange_set _ (fun i => if i < k + 1 then f i else false) _ k fun i _ hk => ?_
  by_cases h : i < k
  · simp [h, show i < k + 1 by omega]
  · simp [h, show ¬ i < k + 1 by omega]
def outsL (look : Nat → Bool) (os : List Int) : List Bool := (List.range os.length).map fun i => look (outAt os i).toNat
def nextL (look : Nat → Bool) (rs : List Rg) : List Bool := (List.range rs.length).map fun i => look (rgAt rs i).next.toNat
def initL (rs : List Rg) : List Bool := (List.range rs.length).map fun i => (rgAt rs i).init
theorem outsL_len (look : Nat → Bool) (os : List Int) : (outsL look os).length = os.length := by simp [outsL]
theorem nextL_len (look : Nat → Bool) (rs : List Rg) : (nextL look rs).length = rs.length := by simp [nextL]
theorem initL_len (rs : List Rg) : (initL rs).length = rs.length := by simp [initL]
/-- the reference's row of all signals -/
def allTo (gn : Nat) (g h t : List Bool) : List Bool := (List.range gn).map (bit g) ++ (h ++ t)
theorem allTo_len (gn : Nat) (g h t : List Bool) : (allTo gn g h t).length = gn + h.length + t.length := by simp [allTo]; omega
theorem bit_allTo (gn : Nat) (g h t : List Bool) (s : Nat) : bit (allTo gn g h t) s = sigL gn g h t s := by
  unfold allTo sigL
  by_cases h1 : s < gn
  · rw [if_pos h1]
    unfold bit
    rw [List.getElem?_append_left (by simpa using h1), getElem?_mapRange _ _ _ h1]; rfl
  · rw [if_neg h1]
    by_cases h2 : s - gn < h.length
    · rw [if_pos h2]
      unfold bit
      rw [List.getElem?_append_right (by simp; omega), List.getElem?_append_left (by simpa using h2)]; simp
    · rw [if_neg h2]
      unfold bit
      rw [List.getElem?_append_right (by simp; omega), List.getElem?_append_right (by simp; omega)]; simp
end Go.Proofs.Ytacgepdmhdcdkaa
