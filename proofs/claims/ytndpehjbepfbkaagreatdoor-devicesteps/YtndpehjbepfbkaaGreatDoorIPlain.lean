/-
  NETS OF TABLES AS BYTES, plain: what is written, and what reading comes to.
-/
import Derived.Test.YtndpehjbepfbkaaGreatDoorLPlain
set_option linter.unusedSimpArgs false
set_option linter.unusedVariables false
namespace Go.Proofs.YtndpehjbepfbkaaGreatDoor

/-- a number's bytes, at most f more than one -/
def codeF : Nat → Nat → List UInt8
  | 0, k => [UInt8.ofNat k]
  | f + 1, k => if k < 128 then [UInt8.ofNat k] else UInt8.ofNat (k % 128 + 128) :: codeF f (k / 128)
def codeP (k : Int) : List UInt8 := codeF 3 k.toNat
def codes (l : List Int) : List UInt8 := l.flatMap codeP
theorem codes_nil : codes [] = [] := rfl
theorem codes_cons (k : Int) (l : List Int) : codes (k :: l) = codeP k ++ codes l := rfl
theorem codes_app (a b : List Int) : codes (a ++ b) = codes a ++ codes b := List.flatMap_append

theorem codeF_len1 : ∀ f k, 1 ≤ (codeF f k).length
  | 0, _ => Nat.le_refl _
  | f + 1, k => by unfold codeF; split <;> simp
theorem codeF_len2 : ∀ f k, (codeF f k).length ≤ f + 1
  | 0, _ => Nat.le_refl _
  | f + 1, k => by
    have := codeF_len2 f (k / 128)
    unfold codeF; split <;> simp; omega
theorem codeF_small (f k : Nat) (h : k < 128) : codeF f k = [UInt8.ofNat k] := by
  cases f with
  | zero => rfl
  | succ f => simp [codeF, h]
theorem codeP_len1 (k : Int) : 1 ≤ (codeP k).length := codeF_len1 _ _
theorem codeP_len2 (k : Int) : (codeP k).length ≤ 4 := codeF_len2 _ _
theorem codes_len1 : ∀ l : List Int, l.length ≤ (codes l).length
  | [] => Nat.le_refl _
  | k :: l => by have := codes_len1 l; have := codeP_len1 k; simp [codes_cons]; omega
theorem codes_len2 : ∀ l : List Int, (codes l).length ≤ 4 * l.length
  | [] => Nat.le_refl _
  | k :: l => by have := codes_len2 l; have := codeP_len2 k; simp [codes_cons]; omega
theorem codes_len3 : ∀ l : List Int, (∀ k ∈ l, 0 ≤ k ∧ k < 128) → (codes l).length = l.length
  | [], _ => rfl
  | k :: l, h => by
    have := codes_len3 l fun x hx => h x (List.mem_cons_of_mem _ hx)
    have hk := h k List.mem_cons_self
    have e : (codeP k).length = 1 := by unfold codeP; rw [codeF_small _ _ (by omega)]; rfl
    simp [codes_cons, e]; omega

/-- a number that is read, of at most j bytes; and what is left -/
def numG : Nat → List UInt8 → Nat × List UInt8
  | 0, l => (0, l)
  | _ + 1, [] => (0, [])
  | j + 1, b :: l => if b.toNat < 128 then (b.toNat, l) else ((b.toNat % 128) + 128 * (numG j l).1, (numG j l).2)
def numP (l : List UInt8) : Nat × List UInt8 := numG 4 l
theorem numG_code : ∀ (f k j : Nat) (rest : List UInt8), k < 2 ^ (7 * (f + 1)) → numG (f + 1 + j) (codeF f k ++ rest) = (k, rest)
  | 0, k, j, rest, h => by
    have h2 : k < 128 := by simpa using h
    have e : 0 + 1 + j = j + 1 := by omega
    rw [e]
    have : (UInt8.ofNat k).toNat = k := by simp; omega
    simp [codeF, numG, this, h2]
  | f + 1, k, j, rest, h => by
    have e : f + 1 + 1 + j = (f + 1 + j) + 1 := by omega
    rw [e]
    by_cases hk : k < 128
    · have : (UInt8.ofNat k).toNat = k := by simp; omega
      simp [codeF, numG, this, hk]
    · have h3 : k / 128 < 2 ^ (7 * (f + 1)) := by
        have : 2 ^ (7 * (f + 1 + 1)) = 2 ^ (7 * (f + 1)) * 128 := by rw [show 7 * (f + 1 + 1) = 7 * (f + 1) + 7 by omega, Nat.pow_add]
        rw [this] at h
        exact Nat.div_lt_of_lt_mul (by omega)
      have ih := numG_code f (k / 128) j rest h3
      have hb : (UInt8.ofNat (k % 128 + 128)).toNat = k % 128 + 128 := by simp; omega
      rw [codeF, if_neg hk, List.cons_append]
      simp only [numG, hb]
      rw [if_neg (by omega), ih]
      simp only [Prod.mk.injEq, and_true]
      omega
theorem numP_code (k : Int) (rest : List UInt8) (h0 : 0 ≤ k) (h1 : k < 268435456) : numP (codeP k ++ rest) = (k.toNat, rest) := by
  have := numG_code 3 k.toNat 0 rest (by omega)
  exact this
theorem numG_len : ∀ (j : Nat) (l : List UInt8), (numG j l).2.length ≤ l.length
  | 0, l => Nat.le_refl _
  | _ + 1, [] => Nat.le_refl _
  | j + 1, b :: l => by
    have := numG_len j l
    unfold numG
    split <;> simp; omega
theorem numP_len (l : List UInt8) : (numP l).2.length ≤ l.length := numG_len _ _
theorem numG_lt : ∀ (j : Nat) (l : List UInt8), (numG j l).1 < 2 ^ (7 * j)
  | 0, l => by simp [numG]
  | j + 1, [] => by simp [numG]; exact Nat.pow_pos (by decide)
  | j + 1, b :: l => by
    have h := numG_lt j l
    have e : 2 ^ (7 * (j + 1)) = 2 ^ (7 * j) * 128 := by rw [show 7 * (j + 1) = 7 * j + 7 by omega, Nat.pow_add]
    rw [e]
    unfold numG
    have hp : 0 < 2 ^ (7 * j) := Nat.pow_pos (by decide)
    split <;> simp only <;> omega
theorem numP_lt (l : List UInt8) : (numP l).1 < 268435456 := numG_lt 4 l

/-! what is written -/
def regN (r : Rg) : List Int := [if r.init then 1 else 0, r.next]
def lutN (l : Lt) : List Int := (l.ins.length : Int) :: (l.ins ++ [l.table])
def regsN (rs : List Rg) : List Int := rs.flatMap regN
def lutsN (ls : List Lt) : List Int := ls.flatMap lutN
def netN (given : Int) (rs : List Rg) (ls : List Lt) (os : List Int) : List Int := given :: (rs.length : Int) :: (regsN rs ++ ((ls.length : Int) :: (lutsN ls ++ ((os.length : Int) :: os))))
def netB (given : Int) (rs : List Rg) (ls : List Lt) (os : List Int) : List UInt8 := codes (netN given rs ls os)
theorem regsN_len : ∀ rs : List Rg, (regsN rs).length = 2 * rs.length
  | [] => rfl
  | r :: rs => by have := regsN_len rs; unfold regsN at *; simp [regN, this]; omega
def insSum : List Lt → Nat
  | [] => 0
  | l :: ls => l.ins.length + insSum ls
theorem lutsN_len : ∀ ls : List Lt, (lutsN ls).length = 2 * ls.length + insSum ls
  | [] => rfl
  | l :: ls => by have := lutsN_len ls; unfold lutsN at *; simp [lutN, insSum, this]; omega
theorem netN_len (given : Int) (rs : List Rg) (ls : List Lt) (os : List Int) : (netN given rs ls os).length = 4 + 2 * rs.length + 2 * ls.length + os.length + insSum ls := by
  simp [netN, regsN_len, lutsN_len]; omega

/-! what a net's numbers are below -/
theorem ltAt_mem (ls : List Lt) (i : Nat) (h : i < ls.length) : ls[i] = ltAt ls i := by simp [ltAt, h]
theorem rgAt_mem (rs : List Rg) (i : Nat) (h : i < rs.length) : rs[i] = rgAt rs i := by simp [rgAt, h]
theorem outAt_mem (os : List Int) (i : Nat) (h : i < os.length) : os[i] = outAt os i := by simp [outAt, h]
theorem insSum_le : ∀ ls : List Lt, (∀ l ∈ ls, l.ins.length ≤ 4) → insSum ls ≤ 4 * ls.length
  | [], _ => Nat.le_refl _
  | l :: ls, h => by
    have := insSum_le ls fun x hx => h x (List.mem_cons_of_mem _ hx)
    have := h l List.mem_cons_self
    simp [insSum]; omega
theorem RightT.lut {gn : Nat} {rs : List Rg} {ls : List Lt} {os : List Int} (h : RightT gn rs ls os) {l : Lt} (hl : l ∈ ls) : l.ins.length ≤ 4 ∧ 0 ≤ l.table ∧ l.table < 65536 ∧ ∀ k ∈ l.ins, 0 ≤ k ∧ k < (gn + rs.length + ls.length : Nat) := by
  obtain ⟨i, hi, rfl⟩ := List.getElem_of_mem hl
  rw [ltAt_mem]
  have hr := rightL_iff.1 (h.luts i hi)
  refine ⟨hr.n4, hr.t0, hr.tlt, fun k hk => ?_⟩
  obtain ⟨j, hj, rfl⟩ := List.getElem_of_mem hk
  rw [outAt_mem]
  have := inR_iff.1 (hr.ins j hj)
  omega
theorem RightT.reg {gn : Nat} {rs : List Rg} {ls : List Lt} {os : List Int} (h : RightT gn rs ls os) {r : Rg} (hl : r ∈ rs) : 0 ≤ r.next ∧ r.next < (gn + rs.length + ls.length : Nat) := by
  obtain ⟨i, hi, rfl⟩ := List.getElem_of_mem hl
  rw [rgAt_mem]
  exact inR_iff.1 (h.regs i hi)
theorem RightT.out {gn : Nat} {rs : List Rg} {ls : List Lt} {os : List Int} (h : RightT gn rs ls os) {k : Int} (hl : k ∈ os) : 0 ≤ k ∧ k < (gn + rs.length + ls.length : Nat) := by
  obtain ⟨i, hi, rfl⟩ := List.getElem_of_mem hl
  rw [outAt_mem]
  exact inR_iff.1 (h.outs i hi)
/-- all numbers of a right net are below a bound that its parts keep -/
theorem netN_lt {gn : Nat} {rs : List Rg} {ls : List Lt} {os : List Int} (h : RightT gn rs ls os) (B : Int) (h4 : 4 < B) (h1 : (gn + rs.length + ls.length : Nat) < B) (h2 : os.length < B) (h3 : ∀ l ∈ ls, l.table < B) : ∀ k ∈ netN gn rs ls os, 0 ≤ k ∧ k < B := by
  intro k hk
  simp only [netN, List.mem_cons, List.mem_append] at hk
  rcases hk with rfl | rfl | hk | rfl | hk | rfl | hk
  · omega
  · omega
  · obtain ⟨r, hr, hk⟩ := List.mem_flatMap.1 hk
    have := h.reg hr
    simp only [regN, List.mem_cons, List.not_mem_nil, or_false] at hk
    rcases hk with rfl | rfl
    · split <;> omega
    · omega
  · omega
  · obtain ⟨l, hl, hk⟩ := List.mem_flatMap.1 hk
    have hh := h.lut hl
    have h5 := h3 l hl
    simp only [lutN, List.mem_cons, List.mem_append, List.not_mem_nil, or_false] at hk
    rcases hk with rfl | hk | rfl
    · omega
    · have := hh.2.2.2 k hk; omega
    · omega
  · omega
  · have := h.out hk; omega
theorem netN_big {gn : Nat} {rs : List Rg} {ls : List Lt} {os : List Int} (h : RightT gn rs ls os) : ∀ k ∈ netN gn rs ls os, 0 ≤ k ∧ k < 268435456 := by
  have h1 := h.g1
  have h2 := h.r1
  have h3 := h.l1
  have h4 := h.o1
  exact netN_lt h _ (by decide) (by omega) (by omega) fun l hl => by have := (h.lut hl).2.2.1; omega

/-! what reading comes to -/
/-- how many there are to be: k was read, so many bytes lay there ahead of that number, and behind it -/
def CntOK (k most before behind c : Nat) : Prop := c ≤ most ∧ c ≤ before ∧ (k ≤ most → k ≤ behind → c = k)
def numsTo (l : List UInt8) : Nat → List Int × List UInt8
  | 0 => ([], l)
  | q + 1 => ((numsTo l q).1 ++ [((numP (numsTo l q).2).1 : Int)], (numP (numsTo l q).2).2)
def ListRd (most : Nat) (l : List UInt8) (os : List Int) (l' : List UInt8) : Prop := ∃ c, CntOK (numP l).1 most l.length (numP l).2.length c ∧ (os, l') = numsTo (numP l).2 c
def regsRd (l : List UInt8) : Nat → List Rg × List UInt8
  | 0 => ([], l)
  | q + 1 => ((regsRd l q).1 ++ [⟨(numP (regsRd l q).2).1 == 1, ((numP (numP (regsRd l q).2).2).1 : Int)⟩], (numP (numP (regsRd l q).2).2).2)
inductive LutsRd (l : List UInt8) : Nat → List Lt → List UInt8 → Prop
  | none : LutsRd l 0 [] l
  | more {q : Nat} {ls : List Lt} {l1 l2 : List UInt8} {ins : List Int} : LutsRd l q ls l1 → ListRd 4 l1 ins l2 → LutsRd l (q + 1) (ls ++ [⟨ins, ((numP l2).1 : Int)⟩]) (numP l2).2
def NetRd (l : List UInt8) (given : Nat) (rs : List Rg) (ls : List Lt) (os : List Int) (l' : List UInt8) : Prop :=
  given = (numP l).1 ∧ ∃ (c1 : Nat) (l1 : List UInt8) (c2 : Nat) (l2 : List UInt8),
    CntOK (numP (numP l).2).1 20000 (numP l).2.length (numP (numP l).2).2.length c1 ∧ (rs, l1) = regsRd (numP (numP l).2).2 c1 ∧
    CntOK (numP l1).1 20000 l1.length (numP l1).2.length c2 ∧ LutsRd (numP l1).2 c2 ls l2 ∧ ListRd 20000 l2 os l'

theorem numsTo_len (l : List UInt8) (q : Nat) : (numsTo l q).1.length = q := by
  induction q with
  | zero => rfl
  | succ q ih => simp [numsTo, ih]
theorem regsRd_len (l : List UInt8) (q : Nat) : (regsRd l q).1.length = q := by
  induction q with
  | zero => rfl
  | succ q ih => simp [regsRd, ih]
theorem LutsRd.len {l : List UInt8} {q : Nat} {ls : List Lt} {l' : List UInt8} (h : LutsRd l q ls l') : ls.length = q := by
  induction h with
  | none => rfl
  | more _ _ ih => simp [ih]

theorem take_one {α : Type} {l : List α} {q : Nat} (h : q < l.length) : l.take q ++ [l[q]] = l.take (q + 1) := by
  rw [List.take_add_one, List.getElem?_eq_getElem h]; rfl
theorem numsTo_code (os : List Int) (rest : List UInt8) (h : ∀ k ∈ os, 0 ≤ k ∧ k < 268435456) : ∀ q, q ≤ os.length → numsTo (codes os ++ rest) q = (os.take q, codes (os.drop q) ++ rest)
  | 0, _ => by simp [numsTo]
  | q + 1, hq => by
    have ih := numsTo_code os rest h q (by omega)
    have hd : os.drop q = os[q] :: os.drop (q + 1) := List.drop_eq_getElem_cons (by omega)
    have hk := h os[q] (List.getElem_mem _)
    simp only [numsTo, ih]
    rw [hd, codes_cons, List.append_assoc, numP_code _ _ hk.1 hk.2]
    have e : (((os[q]).toNat : Nat) : Int) = os[q] := by omega
    rw [e, take_one]
theorem listRd_code {most : Nat} {os : List Int} {rest l' : List UInt8} {os' : List Int} (h : ∀ k ∈ os, 0 ≤ k ∧ k < 268435456) (hm : os.length ≤ most) (hs : most < 268435456) (hr : ListRd most (codeP (os.length : Int) ++ (codes os ++ rest)) os' l') : os' = os ∧ l' = rest := by
  obtain ⟨c, ⟨_, _, hc⟩, he⟩ := hr
  rw [numP_code _ _ (by omega) (by omega)] at hc he
  simp only [Int.toNat_natCast] at hc he
  have hc := hc hm (by have := codes_len1 os; rw [List.length_append]; omega)
  subst hc
  rw [numsTo_code os rest h _ (Nat.le_refl _)] at he
  simp [codes_nil] at he
  exact he
theorem regsRd_code (rs : List Rg) (rest : List UInt8) (h : ∀ r ∈ rs, 0 ≤ r.next ∧ r.next < 268435456) : ∀ q, q ≤ rs.length → regsRd (codes (regsN rs) ++ rest) q = (rs.take q, codes (regsN (rs.drop q)) ++ rest)
  | 0, _ => by simp [regsRd]
  | q + 1, hq => by
    have ih := regsRd_code rs rest h q (by omega)
    have hd : rs.drop q = rs[q] :: rs.drop (q + 1) := List.drop_eq_getElem_cons (by omega)
    have hk := h rs[q] (List.getElem_mem _)
    have hn : regsN (rs.drop q) = (if rs[q].init then 1 else 0) :: rs[q].next :: regsN (rs.drop (q + 1)) := by rw [hd]; rfl
    simp only [regsRd, ih]
    rw [hn, codes_cons, codes_cons, List.append_assoc, List.append_assoc]
    have hb : 0 ≤ (if rs[q].init then (1 : Int) else 0) ∧ (if rs[q].init then (1 : Int) else 0) < 268435456 := by split <;> omega
    rw [numP_code _ _ hb.1 hb.2]
    simp only
    rw [numP_code _ _ hk.1 hk.2]
    simp only
    have e : ((rs[q].next.toNat : Nat) : Int) = rs[q].next := by omega
    have e2 : ((if rs[q].init then (1 : Int) else 0).toNat == 1) = rs[q].init := by cases rs[q].init <;> rfl
    rw [e, e2, ← take_one (show q < rs.length by omega)]
theorem lutsRd_code {ls : List Lt} {rest : List UInt8} (h : ∀ l ∈ ls, l.ins.length ≤ 4 ∧ 0 ≤ l.table ∧ l.table < 65536 ∧ ∀ k ∈ l.ins, 0 ≤ k ∧ k < 268435456) {q : Nat} {ls' : List Lt} {l' : List UInt8} (hr : LutsRd (codes (lutsN ls) ++ rest) q ls' l') : q ≤ ls.length → ls' = ls.take q ∧ l' = codes (lutsN (ls.drop q)) ++ rest := by
  induction hr with
  | none => intro _; simp
  | @more q ls1 l1 l2 ins hq hi ih =>
    intro hql
    obtain ⟨rfl, rfl⟩ := ih (by omega)
    have hd : ls.drop q = ls[q] :: ls.drop (q + 1) := List.drop_eq_getElem_cons (by omega)
    have hk := h ls[q] (List.getElem_mem _)
    have hn : lutsN (ls.drop q) = (ls[q].ins.length : Int) :: (ls[q].ins ++ (ls[q].table :: lutsN (ls.drop (q + 1)))) := by
      rw [hd]
      show ((ls[q].ins.length : Int) :: (ls[q].ins ++ [ls[q].table])) ++ lutsN (ls.drop (q + 1)) = _
      rw [List.cons_append, List.append_assoc]; rfl
    rw [hn, codes_cons, codes_app, codes_cons, List.append_assoc, List.append_assoc, List.append_assoc] at hi
    obtain ⟨rfl, rfl⟩ := listRd_code hk.2.2.2 hk.1 (by decide) hi
    rw [numP_code _ _ hk.2.1 (by omega)]
    have e : ((ls[q].table.toNat : Nat) : Int) = ls[q].table := by omega
    rw [e, ← take_one (show q < ls.length by omega)]
    exact ⟨rfl, rfl⟩
/-- what is read of a right net's bytes is that net -/
theorem netRd_code {gn : Nat} {rs : List Rg} {ls : List Lt} {os : List Int} (h : RightT gn rs ls os) {rest l' : List UInt8} {given : Nat} {rs' : List Rg} {ls' : List Lt} {os' : List Int} (hr : NetRd (netB gn rs ls os ++ rest) given rs' ls' os' l') : given = gn ∧ rs' = rs ∧ ls' = ls ∧ os' = os ∧ l' = rest := by
  have h1 := h.g1
  have h2 := h.r1
  have h3 := h.l1
  have h4 := h.o1
  have hreg : ∀ r ∈ rs, 0 ≤ r.next ∧ r.next < 268435456 := fun r hr => by have := h.reg hr; omega
  have hlut : ∀ l ∈ ls, l.ins.length ≤ 4 ∧ 0 ≤ l.table ∧ l.table < 65536 ∧ ∀ k ∈ l.ins, 0 ≤ k ∧ k < 268435456 := fun l hl => by
    have := h.lut hl
    exact ⟨this.1, this.2.1, this.2.2.1, fun k hk => by have := this.2.2.2 k hk; omega⟩
  have hout : ∀ k ∈ os, 0 ≤ k ∧ k < 268435456 := fun k hk => by have := h.out hk; omega
  obtain ⟨e1, c1, l1, c2, l2, hc1, hr1, hc2, hr2, hr3⟩ := hr
  have en : netB gn rs ls os ++ rest = codeP (gn : Int) ++ (codeP (rs.length : Int) ++ (codes (regsN rs) ++ (codeP (ls.length : Int) ++ (codes (lutsN ls) ++ (codeP (os.length : Int) ++ (codes os ++ rest)))))) := by
    simp [netB, netN, codes_cons, codes_app, List.append_assoc]
  rw [en, numP_code _ _ (by omega) (by omega)] at e1 hc1 hr1
  simp only [Int.toNat_natCast] at e1 hc1 hr1
  rw [numP_code _ _ (by omega) (by omega)] at hc1 hr1
  simp only [Int.toNat_natCast] at hc1 hr1
  have ec1 := hc1.2.2 h2 (by have a := codes_len1 (regsN rs); have b := regsN_len rs; rw [List.length_append]; omega)
  subst ec1
  rw [regsRd_code rs _ hreg _ (Nat.le_refl _)] at hr1
  simp only [List.take_length, List.drop_length, Prod.mk.injEq] at hr1
  obtain ⟨rfl, rfl⟩ := hr1
  have e0 : codes (regsN []) = [] := rfl
  rw [e0, List.nil_append, numP_code _ _ (by omega) (by omega)] at hc2 hr2
  simp only [Int.toNat_natCast] at hc2 hr2
  have ec2 := hc2.2.2 h3 (by have a := codes_len1 (lutsN ls); have b := lutsN_len ls; rw [List.length_append]; omega)
  subst ec2
  obtain ⟨rfl, rfl⟩ := lutsRd_code hlut hr2 (Nat.le_refl _)
  have e00 : codes (lutsN (ls.drop ls.length)) = [] := by rw [List.drop_length]; rfl
  rw [e00, List.nil_append] at hr3
  obtain ⟨rfl, rfl⟩ := listRd_code hout h4 (by decide) hr3
  exact ⟨e1, rfl, List.take_length, rfl, rfl⟩
end Go.Proofs.YtndpehjbepfbkaaGreatDoor
