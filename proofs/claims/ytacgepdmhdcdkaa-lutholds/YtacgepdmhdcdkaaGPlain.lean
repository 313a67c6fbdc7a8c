/-
  NETS OF GATES, plain: what may be, how many gates there are, what comes out, cycle by cycle.
-/

namespace Go.Proofs.Ytacgepdmhdcdkaa

structure Nd where
  op : Int
  a : Int
  b : Int
  next : Int

def inR (k m : Int) : Bool := decide (0 ≤ k) && decide (k < m)

/-- a node may be where it stands -/
def rightN (given : Int) (many i : Nat) (x : Nd) : Bool :=
  if x.op = 1 then true else if x.op = 2 then true else
  if x.op = 3 then inR x.a given else
  if x.op = 4 then inR x.a 2 && inR x.next many else
  if x.op = 5 then inR x.a i && inR x.b i else
  if x.op = 6 then inR x.a i && inR x.b i else
  if x.op = 7 then inR x.a i && inR x.b i else
  if x.op = 8 then inR x.a i else false

def nd0 : Nd := ⟨0, 0, 0, 0⟩
def ndAt (ns : List Nd) (i : Nat) : Nd := ns[i]?.getD nd0

/-- the first k nodes may be -/
def nodesTo (given : Int) (ns : List Nd) : Nat → Bool
  | 0 => true
  | k + 1 => nodesTo given ns k && rightN given ns.length k (ndAt ns k)
def outAt (os : List Int) (i : Nat) : Int := os[i]?.getD 0
def outsTo (many : Nat) (os : List Int) : Nat → Bool
  | 0 => true
  | k + 1 => outsTo many os k && inR (outAt os k) many

def sizesR (given : Int) (ns : List Nd) (os : List Int) : Bool := decide (0 ≤ given) && decide (given ≤ 20000) && decide (ns.length ≤ 20000) && decide (os.length ≤ 20000)
def rightP (given : Int) (ns : List Nd) (os : List Int) : Bool :=
  sizesR given ns os && (nodesTo given ns ns.length && outsTo ns.length os os.length)

def isGate (x : Nd) : Bool := x.op == 5 || (x.op == 6 || (x.op == 7 || x.op == 8))
def gatesTo (ns : List Nd) : Nat → Nat
  | 0 => 0
  | k + 1 => gatesTo ns k + (if isGate (ndAt ns k) then 1 else 0)

def bit (l : List Bool) (i : Nat) : Bool := l[i]?.getD false
/-- what a node is -/
def valN (g v : List Bool) (h : Bool) (x : Nd) : Bool :=
  if x.op = 2 then true else
  if x.op = 3 then bit g x.a.toNat else
  if x.op = 4 then h else
  if x.op = 5 then bit v x.a.toNat && bit v x.b.toNat else
  if x.op = 6 then bit v x.a.toNat || bit v x.b.toNat else
  if x.op = 7 then bit v x.a.toNat != bit v x.b.toNat else
  if x.op = 8 then !bit v x.a.toNat else false
/-- what the first k nodes are -/
def valsTo (g held : List Bool) (ns : List Nd) : Nat → List Bool
  | 0 => []
  | k + 1 => valsTo g held ns k ++ [valN g (valsTo g held ns k) (bit held k) (ndAt ns k)]
def vals (g held : List Bool) (ns : List Nd) : List Bool := valsTo g held ns ns.length
def isReg (x : Nd) : Bool := x.op == 4
def nextOf (v : List Bool) (x : Nd) (h : Bool) : Bool := if isReg x then bit v x.next.toNat else h
def heldTo (v held : List Bool) (ns : List Nd) (k : Nat) : List Bool := (List.range held.length).map fun i => if i < k then nextOf v (ndAt ns i) (bit held i) else bit held i
def heldNext (v held : List Bool) (ns : List Nd) : List Bool := heldTo v held ns ns.length
def firstOf (x : Nd) : Bool := x.op == 4 && x.a == 1
def firstTo (ns : List Nd) (k : Nat) : List Bool := (List.range ns.length).map fun i => if i < k then firstOf (ndAt ns i) else false
def first (ns : List Nd) : List Bool := firstTo ns ns.length
def outs (v : List Bool) (os : List Int) : List Bool := os.map fun o => bit v o.toNat
def outsRow (v : List Bool) (os : List Int) (k : Nat) : List Bool := (List.range os.length).map fun i => if i < k then bit v (outAt os i).toNat else false

theorem valsTo_len (g held : List Bool) (ns : List Nd) (k : Nat) : (valsTo g held ns k).length = k := by
  induction k with
  | zero => rfl
  | succ k ih => simp [valsTo, ih]
theorem bit_append_left {l m : List Bool} {i : Nat} (h : i < l.length) : bit (l ++ m) i = bit l i := by
  unfold bit; rw [List.getElem?_append_left h]
theorem row_set (l : List Bool) (n k : Nat) (b : Bool) (hl : l.length = k) (hk : k < n) : (l ++ List.replicate (n - k) false).set k b = (l ++ [b]) ++ List.replicate (n - (k + 1)) false := by
  subst hl
  rw [List.set_append_right _ _ (Nat.le_refl _), Nat.sub_self]
  obtain ⟨m, hm⟩ : ∃ m, n - l.length = m + 1 := ⟨n - l.length - 1, by omega⟩
  rw [hm, show n - (l.length + 1) = m by omega, List.replicate_succ]
  simp
theorem row_get (l : List Bool) (n k i : Nat) (hl : l.length = k) (hi : i < k) : (l ++ List.replicate (n - k) false)[i]? = some (bit l i) := by
  rw [List.getElem?_append_left (by omega)]
  unfold bit
  rw [List.getElem?_eq_getElem (by omega)]; rfl
theorem getElem?_mapRange {α : Type} (f : Nat → α) (n i : Nat) (h : i < n) : ((List.range n).map f)[i]? = some (f i) := by
  simp [h]
theorem mapRange_set {α : Type} (f g : Nat → α) (n k : Nat) (h : ∀ i, i < n → i ≠ k → f i = g i) : ((List.range n).map f).set k (g k) = (List.range n).map g := by
  apply List.ext_getElem?
  intro i
  rw [List.getElem?_set]
  by_cases hi : i < n
  · by_cases hk : k = i
    · subst hk; simp [hi]
    · simp [hk, hi, h i hi (Ne.symm hk)]
  · by_cases hk : k = i
    · subst hk; simp [hi]
    · simp [hk, hi]
theorem heldTo_zero (v held : List Bool) (ns : List Nd) : heldTo v held ns 0 = held := by
  apply List.ext_getElem?
  intro i
  unfold heldTo
  by_cases hi : i < held.length
  · rw [getElem?_mapRange _ _ _ hi]; simp [bit, hi]
  · simp [hi]
theorem heldTo_len (v held : List Bool) (ns : List Nd) (k : Nat) : (heldTo v held ns k).length = held.length := by simp [heldTo]
theorem heldTo_set (v held : List Bool) (ns : List Nd) (k : Nat) : (heldTo v held ns k).set k (nextOf v (ndAt ns k) (bit held k)) = heldTo v held ns (k + 1) := by
  unfold heldTo
  have e : nextOf v (ndAt ns k) (bit held k) = (fun i => if i < k + 1 then nextOf v (ndAt ns i) (bit held i) else bit held i) k := by simp
  rw [e]
  refine mapRange_set _ (fun i => if i < k + 1 then nextOf v (ndAt ns i) (bit held i) else bit held i) _ k fun i _ hk => ?_
  by_cases h : i < k
  · simp [h, show i < k + 1 by omega]
  · simp [h, show ¬ i < k + 1 by omega]
theorem heldTo_skip (v held : List Bool) (ns : List Nd) (k : Nat) (h : isReg (ndAt ns k) = false) : heldTo v held ns (k + 1) = heldTo v held ns k := by
  unfold heldTo
  refine List.map_congr_left fun i _ => ?_
  by_cases hk : i < k
  · simp [hk, show i < k + 1 by omega]
  · by_cases he : i = k
    · subst he; simp [nextOf, h]
    · simp [hk, show ¬ i < k + 1 by omega]
theorem heldTo_at (v held : List Bool) (ns : List Nd) (k : Nat) (hk : k < held.length) : (heldTo v held ns k)[k]? = some (bit held k) := by
  unfold heldTo; rw [getElem?_mapRange _ _ _ hk]; simp
theorem firstTo_set (ns : List Nd) (k : Nat) : (firstTo ns k).set k (firstOf (ndAt ns k)) = firstTo ns (k + 1) := by
  unfold firstTo
  have e : firstOf (ndAt ns k) = (fun i => if i < k + 1 then firstOf (ndAt ns i) else false) k := by simp
  rw [e]
  refine mapRange_set _ (fun i => if i < k + 1 then firstOf (ndAt ns i) else false) _ k fun i _ hk => ?_
  by_cases h : i < k
  · simp [h, show i < k + 1 by omega]
  · simp [h, show ¬ i < k + 1 by omega]
theorem firstTo_zero (ns : List Nd) : firstTo ns 0 = List.replicate ns.length false := by
  unfold firstTo
  simp [List.map_const']
theorem firstTo_len (ns : List Nd) (k : Nat) : (firstTo ns k).length = ns.length := by simp [firstTo]
theorem outsRow_set (v : List Bool) (os : List Int) (k : Nat) : (outsRow v os k).set k (bit v (outAt os k).toNat) = outsRow v os (k + 1) := by
  unfold outsRow
  have e : bit v (outAt os k).toNat = (fun i => if i < k + 1 then bit v (outAt os i).toNat else false) k := by simp
  rw [e]
  refine mapRange_set _ (fun i => if i < k + 1 then bit v (outAt os i).toNat else false) _ k fun i _ hk => ?_
  by_cases h : i < k
  · simp [h, show i < k + 1 by omega]
  · simp [h, show ¬ i < k + 1 by omega]
theorem outsRow_zero (v : List Bool) (os : List Int) : outsRow v os 0 = List.replicate os.length false := by
  unfold outsRow
  simp [List.map_const']
theorem outsRow_len (v : List Bool) (os : List Int) (k : Nat) : (outsRow v os k).length = os.length := by simp [outsRow]
theorem outsRow_all (v : List Bool) (os : List Int) : outsRow v os os.length = outs v os := by
  apply List.ext_getElem?
  intro i
  unfold outsRow outs
  by_cases hi : i < os.length
  · rw [getElem?_mapRange _ _ _ hi]; simp [hi, outAt]
  · simp [hi]
theorem inR_iff {k m : Int} : inR k m = true ↔ 0 ≤ k ∧ k < m := by simp [inR]
theorem nodesTo_at {given : Int} {ns : List Nd} : ∀ {k : Nat}, nodesTo given ns k = true → ∀ i, i < k → rightN given ns.length i (ndAt ns i) = true
  | 0, _, i, hi => absurd hi (Nat.not_lt_zero _)
  | k + 1, h, i, hi => by
    simp only [nodesTo, Bool.and_eq_true] at h
    by_cases e : i = k
    · subst e; exact h.2
    · exact nodesTo_at h.1 i (by omega)
theorem outsTo_at {many : Nat} {os : List Int} : ∀ {k : Nat}, outsTo many os k = true → ∀ i, i < k → inR (outAt os i) many = true
  | 0, _, i, hi => absurd hi (Nat.not_lt_zero _)
  | k + 1, h, i, hi => by
    simp only [outsTo, Bool.and_eq_true] at h
    by_cases e : i = k
    · subst e; exact h.2
    · exact outsTo_at h.1 i (by omega)
theorem nodesTo_mono {given : Int} {ns : List Nd} : ∀ {n k : Nat}, k ≤ n → nodesTo given ns n = true → nodesTo given ns k = true
  | 0, k, h, hn => by obtain rfl : k = 0 := by omega
                      exact hn
  | n + 1, k, h, hn => by
    by_cases e : k = n + 1
    · subst e; exact hn
    · simp only [nodesTo, Bool.and_eq_true] at hn
      exact nodesTo_mono (by omega) hn.1
theorem outsTo_mono {many : Nat} {os : List Int} : ∀ {n k : Nat}, k ≤ n → outsTo many os n = true → outsTo many os k = true
  | 0, k, h, hn => by obtain rfl : k = 0 := by omega
                      exact hn
  | n + 1, k, h, hn => by
    by_cases e : k = n + 1
    · subst e; exact hn
    · simp only [outsTo, Bool.and_eq_true] at hn
      exact outsTo_mono (by omega) hn.1
theorem nodesTo_iff {given : Int} {ns : List Nd} : ∀ {k : Nat}, (∀ i, i < k → rightN given ns.length i (ndAt ns i) = true) → nodesTo given ns k = true
  | 0, _ => rfl
  | k + 1, h => by simp only [nodesTo, Bool.and_eq_true]; exact ⟨nodesTo_iff fun i hi => h i (by omega), h k (by omega)⟩
theorem outsTo_iff {many : Nat} {os : List Int} : ∀ {k : Nat}, (∀ i, i < k → inR (outAt os i) many = true) → outsTo many os k = true
  | 0, _ => rfl
  | k + 1, h => by simp only [outsTo, Bool.and_eq_true]; exact ⟨outsTo_iff fun i hi => h i (by omega), h k (by omega)⟩
theorem gatesTo_le (ns : List Nd) (k : Nat) : gatesTo ns k ≤ k := by
  induction k with
  | zero => exact Nat.le_refl _
  | succ k ih => simp only [gatesTo]; split <;> omega
/-- of a net that may be -/
structure RightP (given : Int) (ns : List Nd) (os : List Int) : Prop where
  g0 : 0 ≤ given
  g1 : given ≤ 20000
  n1 : ns.length ≤ 20000
  o1 : os.length ≤ 20000
  nodes : ∀ i, i < ns.length → rightN given ns.length i (ndAt ns i) = true
  outs : ∀ i, i < os.length → inR (outAt os i) ns.length = true
theorem rightP_iff {given : Int} {ns : List Nd} {os : List Int} : rightP given ns os = true ↔ RightP given ns os := by
  simp only [rightP, sizesR, Bool.and_eq_true, decide_eq_true_eq]
  constructor
  · rintro ⟨⟨⟨⟨h0, h1⟩, h2⟩, h3⟩, h4, h5⟩
    exact ⟨h0, h1, h2, h3, nodesTo_at h4, outsTo_at h5⟩
  · intro h
    exact ⟨⟨⟨⟨h.g0, h.g1⟩, h.n1⟩, h.o1⟩, nodesTo_iff h.nodes, outsTo_iff h.outs⟩
end Go.Proofs.Ytacgepdmhdcdkaa
