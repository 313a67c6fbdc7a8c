/-
  THE REFERENCE'S READING, plain.
-/
import Derived.Test.YtndpehjbepfbkaaGreatDoorRTk
set_option linter.unusedSimpArgs false
set_option linter.unusedVariables false
namespace Go.Proofs.YtndpehjbepfbkaaGreatDoor

abbrev ALL : Nat := 1048576
def numsQ (s : Tk) : Nat → List Int × Tk
  | 0 => ([], s)
  | q + 1 => ((numsQ s q).1 ++ [((numR ALL (numsQ s q).2).1 : Int)], (numR ALL (numsQ s q).2).2)
def regsQ (s : Tk) : Nat → List Rg × Tk
  | 0 => ([], s)
  | q + 1 => ((regsQ s q).1 ++ [⟨(numR 1 (regsQ s q).2).1 == 1, ((numR ALL (numR 1 (regsQ s q).2).2).1 : Int)⟩], (numR ALL (numR 1 (regsQ s q).2).2).2)
/-- where a loop ends -/
def ExitQ (q k : Nat) (s : Tk) : Prop := q ≤ k ∧ (q = k ∨ s.2 = true)
inductive LutsQ (s : Tk) : Nat → List Lt → Tk → Prop
  | none : LutsQ s 0 [] s
  | more {q : Nat} {ls : List Lt} {t : Tk} {c : Nat} : LutsQ s q ls t → ExitQ c (numR 4 t).1 (numsQ (numR 4 t).2 c).2 → LutsQ s (q + 1) (ls ++ [⟨(numsQ (numR 4 t).2 c).1, ((numR ALL (numsQ (numR 4 t).2 c).2).1 : Int)⟩]) (numR ALL (numsQ (numR 4 t).2 c).2).2
def NetQd (l : List UInt8) (given : Nat) (rs : List Rg) (ls : List Lt) (os : List Int) (t : Tk) : Prop :=
  given = (numR ALL (l, false)).1 ∧ ∃ (c1 : Nat) (s3 : Tk) (c2 : Nat) (s5 : Tk) (c3 : Nat),
    (rs, s3) = regsQ (numR ALL (numR ALL (l, false)).2).2 c1 ∧ ExitQ c1 (numR ALL (numR ALL (l, false)).2).1 s3 ∧
    LutsQ (numR ALL s3).2 c2 ls s5 ∧ ExitQ c2 (numR ALL s3).1 s5 ∧
    (os, t) = numsQ (numR ALL s5).2 c3 ∧ ExitQ c3 (numR ALL s5).1 t

theorem numsQ_len (s : Tk) (q : Nat) : (numsQ s q).1.length = q := by
  induction q with
  | zero => rfl
  | succ q ih => simp [numsQ, ih]
theorem regsQ_len (s : Tk) (q : Nat) : (regsQ s q).1.length = q := by
  induction q with
  | zero => rfl
  | succ q ih => simp [regsQ, ih]
theorem LutsQ.len {s : Tk} {q : Nat} {ls : List Lt} {t : Tk} (h : LutsQ s q ls t) : ls.length = q := by
  induction h with
  | none => rfl
  | more _ _ ih => simp [ih]
/-- as long as nothing is bad each takes some -/
theorem numsQ_left (s : Tk) (q : Nat) : (numsQ s q).2.1.length ≤ s.1.length ∧ ((numsQ s q).2.2 = false → q + (numsQ s q).2.1.length ≤ s.1.length ∧ s.2 = false) := by
  induction q with
  | zero => exact ⟨Nat.le_refl _, fun h => ⟨by simp [numsQ], h⟩⟩
  | succ q ih =>
    have h1 := numR_len ALL (numsQ s q).2
    simp only [numsQ]
    refine ⟨by omega, fun h => ?_⟩
    have h2 := h1.2 h
    have h3 := ih.2 h2.2.1
    exact ⟨by omega, h3.2⟩
theorem regsQ_left (s : Tk) (q : Nat) : (regsQ s q).2.1.length ≤ s.1.length ∧ ((regsQ s q).2.2 = false → q + (regsQ s q).2.1.length ≤ s.1.length ∧ s.2 = false) := by
  induction q with
  | zero => exact ⟨Nat.le_refl _, fun h => ⟨by simp [regsQ], h⟩⟩
  | succ q ih =>
    have h0 := numR_len 1 (regsQ s q).2
    have h1 := numR_len ALL (numR 1 (regsQ s q).2).2
    simp only [regsQ]
    refine ⟨by omega, fun h => ?_⟩
    have h2 := h1.2 h
    have h4 := h0.2 h2.2.1
    have h3 := ih.2 h4.2.1
    exact ⟨by omega, h3.2⟩
theorem LutsQ.left {s : Tk} {q : Nat} {ls : List Lt} {t : Tk} (h : LutsQ s q ls t) : t.1.length ≤ s.1.length ∧ (t.2 = false → q + t.1.length ≤ s.1.length ∧ s.2 = false) := by
  induction h with
  | none => exact ⟨Nat.le_refl _, fun h => ⟨by simp, h⟩⟩
  | @more q ls t c _ _ ih =>
    have h0 := numR_len 4 t
    have h1 := numsQ_left (numR 4 t).2 c
    have h2 := numR_len ALL (numsQ (numR 4 t).2 c).2
    refine ⟨by omega, fun h => ?_⟩
    have h3 := h2.2 h
    have h4 := h1.2 h3.2.1
    have h5 := h0.2 h4.2
    have h6 := ih.2 h5.2.1
    exact ⟨by omega, h6.2⟩
theorem LutsQ.four {s : Tk} {q : Nat} {ls : List Lt} {t : Tk} (h : LutsQ s q ls t) (hq : ∀ l ∈ ls, l.ins.length ≤ 4) : True := trivial

theorem numsQ_code (os : List Int) (rest : List UInt8) (h : ∀ k ∈ os, 0 ≤ k ∧ k < 1048576) : ∀ q, q ≤ os.length → numsQ (codes os ++ rest, false) q = (os.take q, codes (os.drop q) ++ rest, false)
  | 0, _ => by simp [numsQ]
  | q + 1, hq => by
    have ih := numsQ_code os rest h q (by omega)
    have hd : os.drop q = os[q] :: os.drop (q + 1) := List.drop_eq_getElem_cons (by omega)
    have hk := h os[q] (List.getElem_mem _)
    simp only [numsQ, ih]
    rw [hd, codes_cons, List.append_assoc, numR_code ALL _ _ _ hk.1 (by omega) (by show _ ≤ ((1048576 : Nat) : Int); omega)]
    have e : (((os[q]).toNat : Nat) : Int) = os[q] := by omega
    rw [e, take_one]
theorem regsQ_code (rs : List Rg) (rest : List UInt8) (h : ∀ r ∈ rs, 0 ≤ r.next ∧ r.next < 1048576) : ∀ q, q ≤ rs.length → regsQ (codes (regsN rs) ++ rest, false) q = (rs.take q, codes (regsN (rs.drop q)) ++ rest, false)
  | 0, _ => by simp [regsQ]
  | q + 1, hq => by
    have ih := regsQ_code rs rest h q (by omega)
    have hd : rs.drop q = rs[q] :: rs.drop (q + 1) := List.drop_eq_getElem_cons (by omega)
    have hk := h rs[q] (List.getElem_mem _)
    have hn : regsN (rs.drop q) = (if rs[q].init then 1 else 0) :: rs[q].next :: regsN (rs.drop (q + 1)) := by rw [hd]; rfl
    simp only [regsQ, ih]
    rw [hn, codes_cons, codes_cons, List.append_assoc, List.append_assoc]
    have hb : 0 ≤ (if rs[q].init then (1 : Int) else 0) ∧ (if rs[q].init then (1 : Int) else 0) < 268435456 ∧ (if rs[q].init then (1 : Int) else 0) ≤ ((1 : Nat) : Int) := by split <;> omega
    rw [numR_code 1 _ _ _ hb.1 hb.2.1 hb.2.2]
    simp only
    rw [numR_code ALL _ _ _ hk.1 (by omega) (by show _ ≤ ((1048576 : Nat) : Int); omega)]
    simp only
    have e : ((rs[q].next.toNat : Nat) : Int) = rs[q].next := by omega
    have e2 : ((if rs[q].init then (1 : Int) else 0).toNat == 1) = rs[q].init := by cases rs[q].init <;> rfl
    rw [e, e2, ← take_one (show q < rs.length by omega)]
theorem exit_code {q k : Nat} {s : Tk} (h : ExitQ q k s) (hs : s.2 = false) : q = k := by
  rcases h.2 with h | h
  · exact h
  · rw [hs] at h; cases h
theorem lutsQ_code {ls : List Lt} {rest : List UInt8} (h : ∀ l ∈ ls, l.ins.length ≤ 4 ∧ 0 ≤ l.table ∧ l.table < 65536 ∧ ∀ k ∈ l.ins, 0 ≤ k ∧ k < 1048576) {q : Nat} {ls' : List Lt} {t : Tk} (hr : LutsQ (codes (lutsN ls) ++ rest, false) q ls' t) : q ≤ ls.length → ls' = ls.take q ∧ t = (codes (lutsN (ls.drop q)) ++ rest, false) := by
  induction hr with
  | none => intro _; simp
  | @more q ls1 t c hq hi ih =>
    intro hql
    obtain ⟨rfl, rfl⟩ := ih (by omega)
    have hd : ls.drop q = ls[q] :: ls.drop (q + 1) := List.drop_eq_getElem_cons (by omega)
    have hk := h ls[q] (List.getElem_mem _)
    have hn : lutsN (ls.drop q) = (ls[q].ins.length : Int) :: (ls[q].ins ++ (ls[q].table :: lutsN (ls.drop (q + 1)))) := by
      rw [hd]
      show ((ls[q].ins.length : Int) :: (ls[q].ins ++ [ls[q].table])) ++ lutsN (ls.drop (q + 1)) = _
      rw [List.cons_append, List.append_assoc]; rfl
    rw [hn, codes_cons, codes_app, codes_cons, List.append_assoc, List.append_assoc, List.append_assoc] at hi ⊢
    rw [numR_code 4 _ _ _ (by omega) (by omega) (by omega)] at hi ⊢
    simp only [Int.toNat_natCast] at hi ⊢
    have hc := hi.1
    rw [numsQ_code _ _ hk.2.2.2 c hc] at hi ⊢
    obtain rfl := exit_code hi rfl
    simp only [List.take_length, List.drop_length, codes_nil, List.nil_append]
    rw [numR_code ALL _ _ _ hk.2.1 (by omega) (by show _ ≤ ((1048576 : Nat) : Int); omega)]
    have e : ((ls[q].table.toNat : Nat) : Int) = ls[q].table := by omega
    rw [e, ← take_one (show q < ls.length by omega)]
    exact ⟨rfl, rfl⟩
/-- what the reference reads of a right net's bytes is that net -/
theorem netQd_code {gn : Nat} {rs : List Rg} {ls : List Lt} {os : List Int} (h : RightT gn rs ls os) {given : Nat} {rs' : List Rg} {ls' : List Lt} {os' : List Int} {t : Tk} (hr : NetQd (netB gn rs ls os) given rs' ls' os' t) : given = gn ∧ rs' = rs ∧ ls' = ls ∧ os' = os ∧ t = ([], false) := by
  have h1 := h.g1
  have h2 := h.r1
  have h3 := h.l1
  have h4 := h.o1
  have hreg : ∀ r ∈ rs, 0 ≤ r.next ∧ r.next < 1048576 := fun r hr => by have := h.reg hr; omega
  have hlut : ∀ l ∈ ls, l.ins.length ≤ 4 ∧ 0 ≤ l.table ∧ l.table < 65536 ∧ ∀ k ∈ l.ins, 0 ≤ k ∧ k < 1048576 := fun l hl => by
    have := h.lut hl
    exact ⟨this.1, this.2.1, this.2.2.1, fun k hk => by have := this.2.2.2 k hk; omega⟩
  have hout : ∀ k ∈ os, 0 ≤ k ∧ k < 1048576 := fun k hk => by have := h.out hk; omega
  obtain ⟨e1, c1, s3, c2, s5, c3, hr1, hx1, hr2, hx2, hr3, hx3⟩ := hr
  have en : netB gn rs ls os = codeP (gn : Int) ++ (codeP (rs.length : Int) ++ (codes (regsN rs) ++ (codeP (ls.length : Int) ++ (codes (lutsN ls) ++ (codeP (os.length : Int) ++ (codes os ++ [])))))) := by
    simp [netB, netN, codes_cons, codes_app, List.append_assoc]
  have hA : ∀ k : Int, k < 1048576 → k ≤ (ALL : Nat) := fun k hk => by show k ≤ ((1048576 : Nat) : Int); omega
  rw [en, numR_code ALL _ _ _ (by omega) (by omega) (hA _ (by omega))] at e1 hr1 hx1
  simp only [Int.toNat_natCast] at e1 hr1 hx1
  rw [numR_code ALL _ _ _ (by omega) (by omega) (hA _ (by omega))] at hr1 hx1
  simp only [Int.toNat_natCast] at hr1 hx1
  rw [regsQ_code rs _ hreg c1 hx1.1] at hr1
  simp only [Prod.mk.injEq] at hr1
  obtain ⟨e2, rfl⟩ := hr1
  obtain rfl := exit_code hx1 rfl
  have e0 : codes (regsN []) = [] := rfl
  rw [List.drop_length, e0, List.nil_append] at hr2 hx2
  rw [numR_code ALL _ _ _ (by omega) (by omega) (hA _ (by omega))] at hr2 hx2
  simp only [Int.toNat_natCast] at hr2 hx2
  obtain ⟨e3, rfl⟩ := lutsQ_code hlut hr2 hx2.1
  obtain rfl := exit_code hx2 rfl
  have e00 : codes (lutsN (ls.drop ls.length)) = [] := by rw [List.drop_length]; rfl
  rw [e00, List.nil_append] at hr3 hx3
  rw [numR_code ALL _ _ _ (by omega) (by omega) (hA _ (by omega))] at hr3 hx3
  simp only [Int.toNat_natCast] at hr3 hx3
  rw [numsQ_code os _ hout c3 hx3.1] at hr3
  simp only [Prod.mk.injEq] at hr3
  obtain ⟨e4, rfl⟩ := hr3
  obtain rfl := exit_code hx3 rfl
  refine ⟨e1, ?_, ?_, ?_, ?_⟩
  · rw [e2, List.take_length]
  · rw [e3, List.take_length]
  · rw [e4, List.take_length]
  · simp [codes_nil]
theorem tkG_lt : ∀ (j : Nat) (l : List UInt8) (v : Nat) (l' : List UInt8), tkG j l = some (v, l') → v < P7 j
  | 0, _, _, _, h => by cases h
  | _ + 1, [], _, _, h => by cases h
  | j + 1, b :: l, v, l', h => by
    rw [P7_succ]
    have hp : 0 < P7 j := Nat.pow_pos (by decide)
    unfold tkG at h
    split at h
    · cases h
      omega
    · cases hq : tkG j l with
      | none => rw [hq] at h; cases h
      | some x =>
        rw [hq] at h
        cases h
        have := tkG_lt j l x.1 x.2 hq
        omega
theorem numR_lt (most : Nat) (s : Tk) : (numR most s).1 < 4398046511104 := by
  unfold numR
  cases h : tkG 6 s.1 with
  | none => simp
  | some x =>
    have := tkG_lt _ _ x.1 x.2 h
    exact this
end Go.Proofs.YtndpehjbepfbkaaGreatDoor
