/-
  PLAIN: what a reader that notes the first fault and goes on reads, in the words of the reader that throws: bodies up to their ends, what stands behind if; and which words stand in a row of words.
  MEMORY: what is told of the reference's reader, which notes what was wrong first; and what a call of it comes to.
  CONTRACTS of the reference's reader's smallest steps: ok, fails, see, take, must.
  CONTRACTS of see, take, must, name of the reference's reader.
-/
import Derived.Test.YtlbgdoajaplabaaGreatDoorSyn
import Derived.Lib.IndexMore
import Derived.Lib.AtoiAll
import Derived.Test.YtlbgdoajaplabaaGreatDoorOne
set_option linter.unusedSimpArgs false
set_option linter.unusedVariables false
namespace Go.Proofs.YtlbgdoajaplabaaGreatDoor

/-- what is left of an answer: where the reader is, or what was wrong -/
def Res.un {α : Type} : Res α → Res Unit
  | .out => .out
  | .bad e p => .bad e p
  | .ok _ k => .ok () k

theorem Res.bind_assoc {α β γ : Type} (r : Res α) (f : α → Nat → Res β) (g : β → Nat → Res γ) : (r.bind f).bind g = r.bind fun a k => (f a k).bind g := by
  cases r <;> rfl
theorem Res.un_bind {α β : Type} (r : Res α) (f : α → Nat → Res β) : (r.bind f).un = r.bind fun a k => (f a k).un := by
  cases r <;> rfl
theorem Res.bind_congr {α β : Type} (r : Res α) {f g : α → Nat → Res β} (h : ∀ a k, r = .ok a k → f a k = g a k) : r.bind f = r.bind g := by
  cases r with
  | out => rfl
  | bad => rfl
  | ok a k => exact h a k rfl

def endsB (s : List UInt8) : Bool := s == [101, 110, 100] || s == [101, 108, 115, 101] || s == [101, 108, 115, 105, 102]

def bodyP (ts : List Tok) (f deep k : Nat) (acc : List St) : Res (List St) :=
  (stmtsP ts f deep k acc).bind fun l k' => if endsB (tx ts k') then .ok l k' else .bad 3 (tk ts k').pos

def stmtP (ts : List Tok) (f deep k : Nat) : Res St := if tx ts k == [105, 102] then branchP ts f deep k else actP ts f k

theorem ends_name {t : Tok} (h : isNm t = true) : endsB t.text.toList = false := by
  cases he : endsB t.text.toList with
  | false => rfl
  | true =>
    exfalso
    simp only [isNm, Bool.and_eq_true, Bool.not_eq_true'] at h
    have h2 := h.2
    simp only [endsB, Bool.or_eq_true, beq_iff_eq] at he
    rcases he with (he | he) | he <;> rw [he] at h2 <;> revert h2 <;> decide

theorem body_step (ts : List Tok) (f deep k : Nat) (acc : List St) :
    bodyP ts (f + 1) deep k acc = if endsB (tx ts k) then .ok acc k else (stmtP ts f deep k).bind fun s k' => bodyP ts f deep k' (acc ++ [s]) := by
  unfold bodyP stmtP
  simp only [stmtsP]
  by_cases h1 : (tx ts k == [105, 102]) = true
  · rw [if_pos h1, if_pos h1, Res.bind_assoc]
    have : endsB (tx ts k) = false := by rw [beq_iff_eq] at h1; rw [h1]; rfl
    rw [this]; rfl
  · rw [if_neg h1, if_neg h1]
    by_cases h2 : isNm (tk ts k) = true
    · rw [if_pos h2, Res.bind_assoc]
      rw [show endsB (tx ts k) = false from ends_name h2]; rfl
    · rw [if_neg h2]
      show (if endsB (tx ts k) then _ else _) = _
      congr 1
      have : actP ts f k = .bad 3 (tk ts k).pos := by simp only [actP, nameP, if_neg h2, Res.bind]
      rw [this]; rfl

def restP (ts : List Tok) : Nat → Nat → Nat → Res (Ex × List St × List St)
  | 0, _, _ => .out
  | f + 1, deep, k =>
    if 8 ≤ deep then .bad 4 (tk ts k).pos
    else (twoP ts f 1 0 k).bind fun x k1 => (wantP ts [116, 104, 101, 110] k1).bind fun _ k2 => (bodyP ts f (deep + 1) k2 []).bind fun th k3 =>
      if tx ts k3 == [101, 108, 115, 105, 102] then (restP ts f (deep + 1) (k3 + 1)).bind fun q k4 => .ok (x, th, [.cond (tk ts k3).pos q.1 q.2.1 q.2.2]) k4
      else if tx ts k3 == [101, 108, 115, 101] then (bodyP ts f (deep + 1) (k3 + 1) []).bind fun el k4 => .ok (x, th, el) k4
      else .ok (x, th, []) k3

def closeP (ts : List Tok) (p : Nat) (q : Ex × List St × List St) (k : Nat) : Res St :=
  (wantP ts [101, 110, 100] k).bind fun _ k5 => (wantP ts [59] k5).bind fun _ k6 => .ok (.cond p q.1 q.2.1 q.2.2) k6

theorem want_end_bad {ts : List Tok} {k : Nat} (h : endsB (tx ts k) = false) : wantP ts [101, 110, 100] k = .bad 3 (tk ts k).pos := by
  unfold wantP
  rw [if_neg]
  intro e
  simp only [endsB, e, Bool.true_or] at h
  cases h

theorem branch_rest (ts : List Tok) : ∀ (f deep k : Nat), branchP ts f deep k = (restP ts f deep (k + 1)).bind (closeP ts (tk ts k).pos)
  | 0, _, _ => by simp only [branchP, restP, Res.bind]
  | f + 1, deep, k => by
    simp only [branchP, restP]
    by_cases h8 : 8 ≤ deep
    · rw [if_pos h8, if_pos h8]; rfl
    rw [if_neg h8, if_neg h8]
    rw [Res.bind_assoc]
    refine Res.bind_congr _ fun x k1 _ => ?_
    rw [Res.bind_assoc]
    refine Res.bind_congr _ fun _ k2 _ => ?_
    unfold bodyP
    rw [Res.bind_assoc, Res.bind_assoc]
    refine Res.bind_congr _ fun th k3 _ => ?_
    cases he : endsB (tx ts k3) with
    | false =>
      have e1 : (tx ts k3 == [101, 108, 115, 105, 102]) = false := by
        cases h : (tx ts k3 == [101, 108, 115, 105, 102]) with
        | false => rfl
        | true => simp only [endsB, h, Bool.or_true] at he; cases he
      have e2 : (tx ts k3 == [101, 108, 115, 101]) = false := by
        cases h : (tx ts k3 == [101, 108, 115, 101]) with
        | false => rfl
        | true => simp only [endsB, h, Bool.or_true, Bool.true_or] at he; cases he
      simp only [e1, e2, Bool.false_eq_true, if_false, Res.bind, want_end_bad he]
    | true =>
      simp only [if_true, Res.bind_ok]
      by_cases h1 : (tx ts k3 == [101, 108, 115, 105, 102]) = true
      · rw [if_pos h1, if_pos h1, branch_rest ts f (deep + 1) k3, Res.bind_assoc, Res.bind_assoc]
        refine Res.bind_congr _ fun q k4 _ => ?_
        simp only [closeP, Res.bind_ok, Res.bind_assoc]
      · rw [if_neg h1, if_neg h1]
        by_cases h2 : (tx ts k3 == [101, 108, 115, 101]) = true
        · rw [if_pos h2, if_pos h2, Res.bind_assoc, Res.bind_assoc]
          refine Res.bind_congr _ fun el k4 _ => ?_
          cases he4 : endsB (tx ts k4) with
          | true => simp only [if_true, Res.bind_ok, closeP]
          | false => simp only [Bool.false_eq_true, if_false, Res.bind, want_end_bad he4]
        · rw [if_neg h2, if_neg h2]
          simp only [Res.bind_ok, closeP]

def progR (ts : List Tok) (f : Nat) : Res (List De × List St) :=
  (declsP ts f 0 []).bind fun ds k1 => (wantP ts [98, 101, 103, 105, 110] k1).bind fun _ k2 => (bodyP ts f 0 k2 []).bind fun b k3 => (wantP ts [101, 110, 100] k3).bind fun _ k4 => .ok (ds, b) k4
theorem prog_same (ts : List Tok) (f : Nat) : progR ts f = progP ts f := by
  unfold progR progP bodyP
  refine Res.bind_congr _ fun ds k1 _ => ?_
  refine Res.bind_congr _ fun _ k2 _ => ?_
  rw [Res.bind_assoc]
  refine Res.bind_congr _ fun b k3 _ => ?_
  cases he : endsB (tx ts k3) with
  | true => simp only [if_true, Res.bind_ok]
  | false => simp only [Bool.false_eq_true, if_false, Res.bind, want_end_bad he]

/-- words of a row, each with a blank behind it, and a blank ahead of all -/
def hay : List (List UInt8) → List UInt8
  | [] => [32]
  | w :: l => 32 :: (w ++ hay l)
theorem contains_cons (b : UInt8) (l sub : List UInt8) : Lib.contains (b :: l) sub = (sub.isPrefixOf (b :: l) || Lib.contains l sub) := by
  have hg := Lib.index_ge l sub
  unfold Lib.contains
  rw [Lib.index]
  cases h : sub.isPrefixOf (b :: l) with
  | true => simp
  | false =>
    simp only [Bool.false_eq_true, if_false, Bool.false_or]
    by_cases h1 : Lib.index l sub = -1
    · rw [h1]; rfl
    · rw [if_neg (by simpa using h1)]
      congr 1
      exact propext ⟨fun _ => by omega, fun _ => by omega⟩
theorem contains_skip (w l : List UInt8) (x : List UInt8) (hw : ∀ c ∈ w, c ≠ 32) : Lib.contains (w ++ l) (32 :: x) = Lib.contains l (32 :: x) := by
  induction w with
  | nil => rfl
  | cons c w ih =>
    rw [List.cons_append, contains_cons, ih fun d hd => hw d (List.mem_cons_of_mem _ hd)]
    have : (32 :: x).isPrefixOf (c :: (w ++ l)) = false := by
      have h := hw c List.mem_cons_self
      simp only [List.isPrefixOf, Bool.and_eq_false_iff, beq_eq_false_iff_ne]
      exact .inl (Ne.symm h)
    rw [this]; rfl
theorem prefix_word : ∀ (t w r : List UInt8), (∀ c ∈ t, c ≠ 32) → (∀ c ∈ w, c ≠ 32) → (t ++ [32]).isPrefixOf (w ++ 32 :: r) = (t == w)
  | [], [], r, _, _ => by simp [List.isPrefixOf]
  | [], d :: w, r, _, hw => by
    have := hw d List.mem_cons_self
    simp only [List.nil_append, List.cons_append, List.isPrefixOf]
    have h2 : ((32 : UInt8) == d) = false := by rw [beq_eq_false_iff_ne]; exact Ne.symm this
    rw [h2]; rfl
  | c :: t, [], r, ht, _ => by
    have := ht c List.mem_cons_self
    simp only [List.cons_append, List.nil_append, List.isPrefixOf]
    have h2 : (c == (32 : UInt8)) = false := by rw [beq_eq_false_iff_ne]; exact this
    rw [h2]; rfl
  | c :: t, d :: w, r, ht, hw => by
    simp only [List.cons_append, List.isPrefixOf]
    rw [prefix_word t w r (fun x hx => ht x (List.mem_cons_of_mem _ hx)) (fun x hx => hw x (List.mem_cons_of_mem _ hx))]
    rfl
theorem hay_head (l : List (List UInt8)) : ∃ r, hay l = 32 :: r := by cases l <;> exact ⟨_, rfl⟩
theorem contains_hay : ∀ (W : List (List UInt8)) (t : List UInt8), (∀ w ∈ W, ∀ c ∈ w, c ≠ 32) → (∀ c ∈ t, c ≠ 32) → Lib.contains (hay W) (32 :: (t ++ [32])) = W.contains t
  | [], t, _, _ => by
    show Lib.contains [32] _ = false
    rw [contains_cons]
    have h1 : (32 :: (t ++ [32])).isPrefixOf [32] = false := by
      cases t with
      | nil => rfl
      | cons c t => simp [List.isPrefixOf]
    rw [h1]
    simp [Lib.contains, Lib.index]
  | w :: W, t, hW, ht => by
    have hw := hW w List.mem_cons_self
    show Lib.contains (32 :: (w ++ hay W)) _ = _
    rw [contains_cons, contains_skip w (hay W) _ hw, contains_hay W t (fun v hv => hW v (List.mem_cons_of_mem _ hv)) ht]
    obtain ⟨r, hr⟩ := hay_head W
    have : (32 :: (t ++ [32])).isPrefixOf (32 :: (w ++ hay W)) = (t == w) := by
      rw [hr]
      simp only [List.isPrefixOf, BEq.rfl, Bool.true_and]
      exact prefix_word t w r ht hw
    rw [this, List.contains_cons]

/-- marks of a level -/
def marksW (lv : Nat) : List (List UInt8) := [[[111, 114]], [[120, 111, 114]], [[97, 110, 100]], [[61], [60, 62], [60], [60, 61], [62], [62, 61]], [[43], [45]]].getD lv []
theorem marks_level (lv : Nat) (hl : lv ≤ 4) (t : List UInt8) : (marksW lv).contains t = (levelN t == lv + 1) := by
  unfold levelN
  have : lv = 0 ∨ lv = 1 ∨ lv = 2 ∨ lv = 3 ∨ lv = 4 := by omega
  rcases this with h | h | h | h | h <;> subst h <;> simp only [marksW, List.getD, List.getElem?_cons_succ, List.getElem?_cons_zero, Option.getD, List.contains_cons, List.contains_nil, Bool.or_false] <;>
    (repeat' split) <;> (try simp_all) <;> (rename_i h; rcases h with ((((h | h) | h) | h) | h) | h <;> subst h <;> simp)

theorem valOf_ge : ∀ (l : List UInt8) (n : Nat), n ≤ l.foldl (fun n c => n * 10 + (c.toNat - 48)) n
  | [], n => Nat.le_refl _
  | c :: l, n => by
    simp only [List.foldl_cons]
    exact Nat.le_trans (by omega) (valOf_ge l _)
theorem parse_val : ∀ (l : List UInt8) (n : Nat), (∀ c ∈ l, 48 ≤ c.toNat ∧ c.toNat ≤ 57) →
    (Lib.parseUint10 n l = .range ∧ 1000 < l.foldl (fun n c => n * 10 + (c.toNat - 48)) n) ∨ Lib.parseUint10 n l = .ok (l.foldl (fun n c => n * 10 + (c.toNat - 48)) n)
  | [], n, _ => .inr rfl
  | c :: l, n, h => by
    have hc := h c List.mem_cons_self
    simp only [Lib.parseUint10, hc, and_self, if_true, List.foldl_cons]
    have hg := valOf_ge l (n * 10 + (c.toNat - 48))
    split
    · exact .inl ⟨rfl, by omega⟩
    · split
      · exact .inl ⟨rfl, by omega⟩
      · exact parse_val l _ fun d hd => h d (List.mem_cons_of_mem _ hd)
/-- what a row of digits comes to -/
theorem atoi_val (l : List UInt8) (hne : l ≠ []) (h : ∀ c ∈ l, 48 ≤ c.toNat ∧ c.toNat ≤ 57) :
    (Lib.atoiAll l = .range ∧ 255 < valOf l) ∨ (Lib.atoiAll l = .ok (valOf l : Int)) := by
  cases l with
  | nil => exact absurd rfl hne
  | cons c r =>
    have hc := h c List.mem_cons_self
    have h43 : ¬ (c.toNat = 43 ∨ c.toNat = 45) := by omega
    have h45 : ¬ c.toNat = 45 := by omega
    have hp := parse_val (c :: r) 0 h
    simp only [Lib.atoiAll, if_neg h43, Lib.parseMag, if_neg (List.cons_ne_nil c r)]
    rcases hp with ⟨h1, h2⟩ | h1
    · rw [h1]
      exact .inl ⟨rfl, by unfold valOf; omega⟩
    · rw [h1]
      simp only [h45, not_false_eq_true, true_and, false_and, if_false]
      split
      · rename_i hb
        exact .inl ⟨rfl, by unfold valOf; omega⟩
      · exact .inr rfl
end Go.Proofs.YtlbgdoajaplabaaGreatDoor
namespace Go.Proofs.YtlbgdoajaplabaaGreatDoor
open Go.RowKit
set_option linter.unusedVariables false

/-- kinds as the reference numbers them: its end is 4 -/
def rk (t : Tok) : Nat := if t.kind = 0 then 4 else t.kind

def RRow (w : World) (T : Nat) (ts : List Tok) : Prop :=
  ∀ i, i < ts.length → w.cell? ⟨T, i * 3, none⟩ = some (.int .i64 (rk (tk ts i) : Nat)) ∧ w.cell? ⟨T, i * 3 + 1, none⟩ = some (.string (tk ts i).text) ∧ w.cell? ⟨T, i * 3 + 2, none⟩ = some (.int .i64 (tk ts i).pos)

structure RVars (w : World) : Prop where
  fine : w.heap[0]? = some (.cells #[.int .i64 0, .int .i64 (-1)] (vt w 0) (vz w 0))
  max : ∃ m : Int, w.cell? ⟨6, 0, none⟩ = some (.int .i64 m)
  range : ∃ ev, w.cell? ⟨11, 0, none⟩ = some ev ∧ (ev = .nilIface ∨ ∃ te pe, ev = .iface te pe)

theorem RVars.of {w w' : World} (h : RVars w) (hb : ∀ b o, b < 12 → w.heap[b]? = some o → w'.heap[b]? = some o) : RVars w' := by
  have hc : ∀ (a : Addr) v, a.block < 12 → w.cell? a = some v → w'.cell? a = some v := fun a v ha hv => by
    have hl := cell_lt hv
    have hs : w.heap[a.block]? = some w.heap[a.block] := by simp
    exact (World.cell?_of_block (w := w) ((hb _ _ ha hs).trans hs.symm)).trans hv
  obtain ⟨m, hm⟩ := h.max
  obtain ⟨ev, he, h2⟩ := h.range
  exact ⟨vmk (hb _ _ (by omega) h.fine), ⟨m, hc _ _ (by show (_ : Nat) < _; decide) hm⟩, ⟨ev, hc _ _ (by show (_ : Nat) < _; decide) he, h2⟩⟩
theorem RVars.kept_of {R : Nat} {w w' : World} (h : RVars w) (hb : Kept R w w') (hR : 12 ≤ R) : RVars w' :=
  h.of fun b o hlt ho => hb.blk ho (by omega)
theorem RVars.below {w w' : World} (h : RVars w) (hb : Below w.heap.size w w') : RVars w' :=
  h.of fun b o _ ho => Below.blk hb ho

/-- what is told of tokens -/
structure FitR (ts : List Tok) : Prop where
  fit : Fit ts
  blank : ∀ i, ∀ c ∈ (tk ts i).text.data.toList, c ≠ 32
  pos : ∀ i, (tk ts i).kind ≠ 0 → 0 < (tk ts i).text.size
  kinds : ∀ i, (tk ts i).kind ≤ 3

/-- a reader, the token that it reads next, and what was wrong (0, and -1: nothing) -/
structure Rr (w : World) (R T : Nat) (ts : List Tok) (k : Nat) (er pl : Int) : Prop where
  me : ∃ n c : Nat, n + k = ts.length ∧ n ≤ c ∧ w.heap[R]? = some (.cells #[.slice (some ⟨T, k * 3, none⟩) n c, .int .i64 er, .int .i64 pl] 49 (0, 0))
  row : RRow w T ts
  ne : T ≠ R
  big : 12 ≤ R
  vars : RVars w
  lt : k < ts.length
  fit : FitR ts

theorem RRow.kept {w w' : World} {R T : Nat} {ts : List Tok} (h : RRow w T ts) (hb : Kept R w w') (hn : T ≠ R) : RRow w' T ts :=
  fun i hi => ⟨hb.cell (h i hi).1 hn, hb.cell (h i hi).2.1 hn, hb.cell (h i hi).2.2 hn⟩
theorem Rr.Rlt {w : World} {R T k : Nat} {ts : List Tok} {er pl : Int} (h : Rr w R T ts k er pl) : R < w.heap.size := by
  obtain ⟨n, c, _, _, hm⟩ := h.me
  exact blk_lt hm
theorem Rr.Tlt {w : World} {R T k : Nat} {ts : List Tok} {er pl : Int} (h : Rr w R T ts k er pl) : T < w.heap.size := cell_lt (h.row k h.lt).1
theorem Rr.below {w w' : World} {R T k : Nat} {ts : List Tok} {er pl : Int} (h : Rr w R T ts k er pl) (hb : Below w.heap.size w w') : Rr w' R T ts k er pl := by
  obtain ⟨n, c, hn, hc, hm⟩ := h.me
  exact ⟨⟨n, c, hn, hc, Below.blk hb hm⟩, h.row.kept (Kept.of (R := R) hb) h.ne, h.ne, h.big, h.vars.below hb, h.lt, h.fit⟩
/-- other blocks may turn -/
theorem Rr.same {w w' : World} {R T k : Nat} {ts : List Tok} {er pl : Int} (h : Rr w R T ts k er pl) {S : Nat} (hb : ∀ b, b ≠ S → b < w.heap.size → w'.heap[b]? = w.heap[b]?) (hR : S ≠ R) (hT : S ≠ T) (hg : 12 ≤ S) : Rr w' R T ts k er pl := by
  obtain ⟨n, c, hn, hc, hm⟩ := h.me
  have hT' : ∀ (a : Addr) v, a.block = T → w.cell? a = some v → w'.cell? a = some v := fun a v ha hv =>
    (World.cell?_of_block (w := w) (hb a.block (by rw [ha]; exact Ne.symm hT) (cell_lt hv))).trans hv
  refine ⟨⟨n, c, hn, hc, (hb R (Ne.symm hR) (blk_lt hm)).trans hm⟩, fun i hi => ?_, h.ne, h.big, h.vars.of fun b o hlt ho => (hb b (by omega) (blk_lt ho)).trans ho, h.lt, h.fit⟩
  have := h.row i hi
  exact ⟨hT' _ _ rfl this.1, hT' _ _ rfl this.2.1, hT' _ _ rfl this.2.2⟩

theorem Rr.cells {w : World} {R T k : Nat} {ts : List Tok} {er pl : Int} (h : Rr w R T ts k er pl) :
    ∃ n c : Nat, 0 < n ∧ n ≤ c ∧ n + k = ts.length ∧ w.cell? ⟨R, 0, none⟩ = some (.slice (some ⟨T, k * 3, none⟩) n c) ∧ w.cell? ⟨T, k * 3, none⟩ = some (.int .i64 (rk (tk ts k) : Nat)) ∧ w.cell? ⟨T, k * 3 + 1, none⟩ = some (.string (tk ts k).text) ∧ w.cell? ⟨T, k * 3 + 2, none⟩ = some (.int .i64 (tk ts k).pos) ∧ (∀ i, w.frozen? ⟨R, i, none⟩ = false) ∧ w.heap[R]? = some (.cells #[.slice (some ⟨T, k * 3, none⟩) n c, .int .i64 er, .int .i64 pl] 49 (0, 0)) := by
  obtain ⟨n, c, hn, hc, hm⟩ := h.me
  have hr := h.row k h.lt
  exact ⟨n, c, by have := h.lt; omega, hc, hn, by rw [blk_cell hm]; rfl, hr.1, hr.2.1, hr.2.2, blk_frozen hm, hm⟩

/-- where a reader is, or what was wrong -/
def Rst (w : World) (R T : Nat) (ts : List Tok) : Res Unit → Prop
  | .out => False
  | .bad er p => ∃ k, Rr w R T ts k er p
  | .ok _ k => Rr w R T ts k 0 (-1)
theorem Rst.any {w : World} {R T : Nat} {ts : List Tok} : ∀ {r : Res Unit}, Rst w R T ts r → ∃ k er pl, Rr w R T ts k er pl
  | .bad _ _, ⟨k, h⟩ => ⟨k, _, _, h⟩
  | .ok _ k, h => ⟨k, _, _, h⟩
theorem Rst.below {w w' : World} {R T : Nat} {ts : List Tok} (hb : Below w.heap.size w w') : ∀ {r : Res Unit}, Rst w R T ts r → Rst w' R T ts r
  | .bad _ _, ⟨k, h⟩ => ⟨k, h.below hb⟩
  | .ok _ _, h => Rr.below h hb
theorem Rst.same {w w' : World} {R T : Nat} {ts : List Tok} {S : Nat} (hb : ∀ b, b ≠ S → b < w.heap.size → w'.heap[b]? = w.heap[b]?) (hR : S ≠ R) (hT : S ≠ T) (hg : 12 ≤ S) : ∀ {r : Res Unit}, Rst w R T ts r → Rst w' R T ts r
  | .bad _ _, ⟨k, h⟩ => ⟨k, h.same hb hR hT hg⟩
  | .ok _ _, h => Rr.same h hb hR hT hg
theorem Rst.Rlt {w : World} {R T : Nat} {ts : List Tok} {r : Res Unit} (h : Rst w R T ts r) : R < w.heap.size := by
  obtain ⟨_, _, _, h⟩ := h.any
  exact h.Rlt

theorem Rst.set {w : World} {R T : Nat} {ts : List Tok} {r : Res Unit} (h : Rst w R T ts r) {S : Nat} (i : Nat) (v : Value) (hR : S ≠ R) (hT : S ≠ T) (hg : 12 ≤ S) : Rst (w.setCell ⟨S, i, none⟩ v) R T ts r :=
  h.same (fun b hb _ => Below.heap_setCell w ⟨S, i, none⟩ v b hb) hR hT hg
def okB : Res Unit → Bool
  | .ok _ _ => true
  | _ => false
def seeB (ts : List Tok) (s : List UInt8) : Res Unit → Bool
  | .ok _ k => tx ts k == s
  | _ => false
def tookR (ts : List Tok) (s : List UInt8) : Res Unit → Res Unit
  | .ok _ k => if tx ts k == s then .ok () (k + 1) else .ok () k
  | r => r
def mustR (ts : List Tok) (s : List UInt8) (r : Res Unit) : Res Unit := r.bind fun _ k => wantP ts s k

/-- what a call of the reader comes to -/
def Rfs {α : Type} (w : World) (R T : Nat) (ts : List Tok) (rep : World → Value → α → Prop) (sh : Value → Prop) (r : Res α) (e : Ending) (w' : World) : Prop :=
  Kept R w w' ∧ Rst w' R T ts r.un ∧ ∃ v, e = .returned v ∧ sh v ∧ ∀ a k', r = .ok a k' → rep w' v a

theorem rfld0 (a b c : Value) (w : World) : (Instr.field 54 (.agg #[a, b, c]) 0).run Tryz.prog w = .ok a w := by kernel_rfl
theorem rfld1 (a b c : Value) (w : World) : (Instr.field 54 (.agg #[a, b, c]) 1).run Tryz.prog w = .ok b w := by kernel_rfl
theorem rfld2 (a b c : Value) (w : World) : (Instr.field 54 (.agg #[a, b, c]) 2).run Tryz.prog w = .ok c w := by kernel_rfl
end Go.Proofs.YtlbgdoajaplabaaGreatDoor
namespace Go.Proofs.YtlbgdoajaplabaaGreatDoor
open Go.RowKit

theorem flt_eq (a b c d : Int) (w : World) : (binOp .eql 28 (.agg #[.int .i64 a, .int .i64 b]) (.agg #[.int .i64 c, .int .i64 d])).run Tryz.prog w = .ok (.bool (a == c && b == d)) w := by
  have : (binOp .eql 28 (.agg #[.int .i64 a, .int .i64 b]) (.agg #[.int .i64 c, .int .i64 d])).run Tryz.prog w = if a = c then (if b = d then .ok (.bool true) w else .ok (.bool false) w) else .ok (.bool false) w := by
    go_simp
  rw [this]
  by_cases h1 : a = c
  · by_cases h2 : b = d
    · simp [h1, h2]
    · simp [h1, h2]
  · simp [h1]

set_option maxRecDepth 100000 in
set_option maxHeartbeats 1600000 in
theorem rok_cells (R : Nat) (a b c d : Int) (w : World) (h1 : w.cell? ⟨R, 1, none⟩ = some (.int .i64 a)) (h2 : w.cell? ⟨R, 2, none⟩ = some (.int .i64 b))
    (g1 : w.cell? ⟨0, 0, none⟩ = some (.int .i64 c)) (g2 : w.cell? ⟨0, 1, none⟩ = some (.int .i64 d)) :
    Calls Tryz.prog 20 #[.pointer (some ⟨R, 0, none⟩)] w fun e w' => e = .returned (.bool (a == c && b == d)) ∧ Below w.heap.size w w' := by
  have he := flt_eq a b c d
  go_enter Tryz.func20, Tryz.ntmps20
  go_wp2
  go_region
  go_wp2
  go_ret
  exact ⟨rfl, (Below.refl _ _).drew⟩

theorem rok_at {w : World} {R T : Nat} {ts : List Tok} : ∀ {r : Res Unit}, Rst w R T ts r →
    Calls Tryz.prog 20 #[.pointer (some ⟨R, 0, none⟩)] w fun e w' => e = .returned (.bool (okB r)) ∧ Below w.heap.size w w'
  | .bad er p, ⟨k, h⟩ => by
    obtain ⟨n, c, _, _, hm⟩ := h.me
    have := rok_cells R er p 0 (-1) w (by rw [blk_cell hm]; rfl) (by rw [blk_cell hm]; rfl) (by rw [blk_cell h.vars.fine]; rfl) (by rw [blk_cell h.vars.fine]; rfl)
    have e : (er == 0 && ((p : Int) == -1)) = false := by
      have : ((p : Int) == -1) = false := by rw [beq_eq_false_iff_ne]; omega
      rw [this, Bool.and_false]
    rw [e] at this
    exact this
  | .ok _ k, h => by
    have h : Rr w R T ts k 0 (-1) := h
    obtain ⟨n, c, _, _, hm⟩ := h.me
    exact rok_cells R 0 (-1) 0 (-1) w (by rw [blk_cell hm]; rfl) (by rw [blk_cell hm]; rfl) (by rw [blk_cell h.vars.fine]; rfl) (by rw [blk_cell h.vars.fine]; rfl)

theorem rok_good {w : World} {R T : Nat} {ts : List Tok} {k : Nat} (h : Rr w R T ts k 0 (-1)) :
    Calls Tryz.prog 20 #[.pointer (some ⟨R, 0, none⟩)] w fun e w' => e = .returned (.bool true) ∧ Below w.heap.size w w' :=
  rok_at (r := .ok () k) h

set_option maxRecDepth 100000 in
set_option maxHeartbeats 1600000 in
theorem rfails_bad (e0 : Int) {w : World} {R T : Nat} {ts : List Tok} {r : Res Unit} (h : Rst w R T ts r) (hb : okB r = false) :
    Calls Tryz.prog 19 #[.pointer (some ⟨R, 0, none⟩), .int .i64 e0] w fun e w' => e = .returned (.tuple #[]) ∧ Below w.heap.size w w' := by
  have HO := hide (rok_at h)
  have HB := hide hb
  clear h hb
  go_enter Tryz.func19, Tryz.ntmps19
  go_wp2_with fail
  refine HO.out.mono ?_
  rintro e w1 ⟨rfl, hb⟩
  have HC := hide hb
  clear hb
  rw [HB.out]
  go_wp2_with fail
  go_end0
  exact ⟨rfl, HC.out⟩

theorem Rr.noted {w : World} {R T k : Nat} {ts : List Tok} (h : Rr w R T ts k 0 (-1)) (er : Int) (p : Nat) {w' : World} (hk : Kept R w w')
    (hm : ∀ n c : Nat, w.heap[R]? = some (.cells #[.slice (some ⟨T, k * 3, none⟩) n c, .int .i64 0, .int .i64 (-1)] 49 (0, 0)) → w'.heap[R]? = some (.cells #[.slice (some ⟨T, k * 3, none⟩) n c, .int .i64 er, .int .i64 p] 49 (0, 0))) :
    Rr w' R T ts k er p := by
  obtain ⟨n, c, hn, hc, h0⟩ := h.me
  exact ⟨⟨n, c, hn, hc, hm n c h0⟩, h.row.kept hk h.ne, h.ne, h.big, h.vars.kept_of hk h.big, h.lt, h.fit⟩

set_option maxRecDepth 100000 in
set_option maxHeartbeats 1600000 in
theorem rfails_good (e0 : Int) {w : World} {R T : Nat} {ts : List Tok} {k : Nat} (h : Rr w R T ts k 0 (-1)) :
    Calls Tryz.prog 19 #[.pointer (some ⟨R, 0, none⟩), .int .i64 e0] w fun e w' => e = .returned (.tuple #[]) ∧ Rr w' R T ts k e0 (tk ts k).pos ∧ Kept R w w' := by
  have HO := hide (rok_good h)
  have HR := hide h
  clear h
  generalize hp : (tk ts k).pos = p at *
  have HP := hide hp
  clear hp
  go_enter Tryz.func19, Tryz.ntmps19
  go_wp2_with fail
  refine HO.out.mono ?_
  rintro e w1 ⟨rfl, hb⟩
  have HC := hide hb
  obtain ⟨n, c, h0, _, _, r0, _, _, c2, rf, hm⟩ := (HR.out.below hb).cells
  have e1 : w1.cell? ⟨R, 1, none⟩ = some (.int .i64 0) := by rw [blk_cell hm]; rfl
  have e2 : w1.cell? ⟨R, 2, none⟩ = some (.int .i64 (-1)) := by rw [blk_cell hm]; rfl
  have r1 := rf 1
  have r2 := rf 2
  rw [HP.out] at c2
  clear hb hm rf
  go_wp2_with fail
  go_end0
  have hk : Kept R w1 ((w1.setCell ⟨R, 1, none⟩ (.int .i64 e0)).setCell ⟨R, 2, none⟩ (.int .i64 p)) := (Kept.set w1 1 _).step 2 _
  refine ⟨rfl, (HR.out.below HC.out).noted e0 p hk fun n c hm => ?_, (Kept.of HC.out).trans hk⟩
  rw [blk_set (blk_set hm 1 _) 2 _]
  rfl
end Go.Proofs.YtlbgdoajaplabaaGreatDoor
namespace Go.Proofs.YtlbgdoajaplabaaGreatDoor
open Go.RowKit

theorem rk_end {ts : List Tok} (hf : FitR ts) (k : Nat) : (((rk (tk ts k) : Nat) : Int) == 4) = ((tk ts k).kind == 0) := by
  have := hf.kinds k
  unfold rk
  by_cases h : (tk ts k).kind = 0
  · rw [if_pos h]; simp [h]
  · rw [if_neg h]
    have h1 : ((tk ts k).kind == 0) = false := by rw [beq_eq_false_iff_ne]; exact h
    rw [h1, beq_eq_false_iff_ne]
    omega
theorem rk_is {ts : List Tok} (hf : FitR ts) (k n : Nat) (hn : n ≠ 0) (h3 : n ≤ 3) : (((rk (tk ts k) : Nat) : Int) == (n : Int)) = ((tk ts k).kind == n) := by
  have := hf.kinds k
  unfold rk
  by_cases h : (tk ts k).kind = 0
  · rw [if_pos h]
    have h1 : ((tk ts k).kind == n) = false := by rw [beq_eq_false_iff_ne]; omega
    rw [h1, beq_eq_false_iff_ne]
    omega
  · rw [if_neg h]
    cases h1 : ((tk ts k).kind == n) with
    | true => rw [beq_iff_eq] at *; omega
    | false => rw [beq_eq_false_iff_ne] at *; omega

set_option maxRecDepth 100000 in
set_option maxHeartbeats 1600000 in
theorem rsee_bad (s : ByteArray) {w : World} {R T : Nat} {ts : List Tok} {r : Res Unit} (h : Rst w R T ts r) (hb : okB r = false) :
    Calls Tryz.prog 43 #[.pointer (some ⟨R, 0, none⟩), .string s] w fun e w' => e = .returned (.bool false) ∧ Below w.heap.size w w' := by
  have HO := hide (rok_at h)
  have HB := hide hb
  clear h hb
  go_enter Tryz.func43, Tryz.ntmps43
  go_wp2_with fail
  refine HO.out.mono ?_
  rintro e w1 ⟨rfl, hb⟩
  rw [HB.out]
  have HC := hide hb
  clear hb
  go_wp2_with fail
  go_ret
  exact ⟨rfl, HC.out⟩

set_option maxRecDepth 100000 in
set_option maxHeartbeats 1600000 in
theorem rsee_good (s : ByteArray) (hs : s.toList ≠ []) {w : World} {R T : Nat} {ts : List Tok} {k : Nat} (h : Rr w R T ts k 0 (-1)) :
    Calls Tryz.prog 43 #[.pointer (some ⟨R, 0, none⟩), .string s] w fun e w' => e = .returned (.bool (tx ts k == s.toList)) ∧ Below w.heap.size w w' := by
  have HO := hide (rok_good h)
  have HR := hide h
  have hend := rk_end h.fit k
  have HN : Hid ((tk ts k).kind = 0 → (tk ts k).text.toList = []) := hide (h.fit.fit.none k h.lt)
  have HS := hide hs
  unfold tx
  generalize hp : tk ts k = t at *
  have HP := hide hp
  clear h hs hp
  cases hk : (t.kind == 0) with
  | true =>
    rw [hk, beq_iff_eq] at hend
    have HE := hide hend
    have HF : Hid ((t.text.toList == s.toList) = false) := hide (by rw [beq_eq_false_iff_ne, HN.out (by simpa using hk)]; exact fun e => HS.out e.symm)
    clear hk hend
    go_enter Tryz.func43, Tryz.ntmps43
    go_wp2_with fail
    refine HO.out.mono ?_
    rintro e w1 ⟨rfl, hb⟩
    obtain ⟨n, c, h0, _, _, r0, c0, c1, _, _, _⟩ := (HR.out.below hb).cells
    rw [HP.out] at c0 c1
    rw [HE.out] at c0
    have HC := hide hb
    clear hb HR HO
    go_wp2_with fail
    go_ret
    exact ⟨ret_bool HF.out.symm, HC.out⟩
  | false =>
    rw [hk, beq_eq_false_iff_ne] at hend
    have hbn : (((rk t : Nat) : Int) != 4) = true := by rw [bne_iff_ne]; exact hend
    clear hk
    go_enter Tryz.func43, Tryz.ntmps43
    go_wp2_with fail
    refine HO.out.mono ?_
    rintro e w1 ⟨rfl, hb⟩
    obtain ⟨n, c, h0, _, _, r0, c0, c1, _, _, _⟩ := (HR.out.below hb).cells
    rw [HP.out] at c0 c1
    have HC := hide hb
    clear hb HR HO
    go_wp2_with fail
    go_ret
    exact ⟨rfl, HC.out⟩

theorem rsee_at (s : ByteArray) (hs : s.toList ≠ []) {w : World} {R T : Nat} {ts : List Tok} : ∀ {r : Res Unit}, Rst w R T ts r →
    Calls Tryz.prog 43 #[.pointer (some ⟨R, 0, none⟩), .string s] w fun e w' => e = .returned (.bool (seeB ts s.toList r)) ∧ Below w.heap.size w w'
  | .bad _ _, h => rsee_bad s h rfl
  | .ok _ _, h => rsee_good s hs h

theorem FitR.more {ts : List Tok} {k : Nat} (h : FitR ts) (hk : k < ts.length) {s : List UInt8} (he : (tx ts k == s) = true) (hs : s ≠ []) : k + 1 < ts.length := h.fit.more hk he hs

/-- one token on -/
theorem Rr.next {w : World} {R T k : Nat} {ts : List Tok} (h : Rr w R T ts k 0 (-1)) (hl : k + 1 < ts.length) {n c : Nat} (hn : n + k = ts.length) (hc : n ≤ c)
    (hm : w.heap[R]? = some (.cells #[.slice (some ⟨T, k * 3, none⟩) n c, .int .i64 0, .int .i64 (-1)] 49 (0, 0))) :
    Rr (w.setCell ⟨R, 0, none⟩ (.slice (some ⟨T, k * 3 + 3, none⟩) (n - 1) (c - 1))) R T ts (k + 1) 0 (-1) := by
  refine ⟨⟨n - 1, c - 1, by omega, by omega, ?_⟩, h.row.kept (Kept.set w 0 _) h.ne, h.ne, h.big, h.vars.kept_of (Kept.set w 0 _) h.big, hl, h.fit⟩
  rw [blk_set hm 0 _, show (k + 1) * 3 = k * 3 + 3 by omega]
  rfl

set_option maxRecDepth 100000 in
set_option maxHeartbeats 1600000 in
theorem rtake_no (s : ByteArray) (hs : s.toList ≠ []) {w : World} {R T : Nat} {ts : List Tok} {r : Res Unit} (h : Rst w R T ts r) (hb : seeB ts s.toList r = false) :
    Calls Tryz.prog 42 #[.pointer (some ⟨R, 0, none⟩), .string s] w fun e w' => e = .returned (.bool false) ∧ Below w.heap.size w w' := by
  have HO := hide (rsee_at s hs h)
  have HB := hide hb
  clear h hb hs
  go_enter Tryz.func42, Tryz.ntmps42
  go_wp2_with fail
  refine HO.out.mono ?_
  rintro e w1 ⟨rfl, hb⟩
  rw [HB.out]
  have HC := hide hb
  clear hb
  go_wp2_with fail
  go_ret
  exact ⟨rfl, HC.out⟩

set_option maxRecDepth 100000 in
set_option maxHeartbeats 1600000 in
theorem rtake_yes (s : ByteArray) (hs : s.toList ≠ []) {w : World} {R T : Nat} {ts : List Tok} {k : Nat} (h : Rr w R T ts k 0 (-1)) (he : (tx ts k == s.toList) = true) :
    Calls Tryz.prog 42 #[.pointer (some ⟨R, 0, none⟩), .string s] w fun e w' => e = .returned (.bool true) ∧ Rr w' R T ts (k + 1) 0 (-1) ∧ Kept R w w' := by
  have HO := hide (rsee_good s hs h)
  have HE := hide he
  have HR := hide h
  have HM := hide (h.fit.more h.lt he hs)
  clear h he hs
  go_enter Tryz.func42, Tryz.ntmps42
  go_wp2_with fail
  refine HO.out.mono ?_
  rintro e w1 ⟨rfl, hb⟩
  rw [HE.out]
  obtain ⟨n, c, h0, hc, hn, r0, _, _, _, rf, hm⟩ := (HR.out.below hb).cells
  have HC := hide hb
  have HH := hide hm
  have r00 := rf 0
  have hm1 := HM.out
  clear hb rf hm
  go_wp2_with fail
  go_ret
  exact ⟨rfl, (HR.out.below HC.out).next HM.out hn hc HH.out, (Kept.of HC.out).step 0 _⟩

theorem see_ok {ts : List Tok} {s : List UInt8} : ∀ {r : Res Unit}, seeB ts s r = true → ∃ k, r = .ok () k ∧ (tx ts k == s) = true
  | .ok _ k, h => ⟨k, rfl, h⟩
theorem Rst.good {w : World} {R T : Nat} {ts : List Tok} {k : Nat} (h : Rst w R T ts (.ok () k)) : Rr w R T ts k 0 (-1) := h

set_option maxRecDepth 100000 in
set_option maxHeartbeats 1600000 in
theorem rmust_at (s : ByteArray) (hs : s.toList ≠ []) {w : World} {R T : Nat} {ts : List Tok} {r : Res Unit} (h : Rst w R T ts r) :
    Calls Tryz.prog 17 #[.pointer (some ⟨R, 0, none⟩), .string s] w fun e w' => e = .returned (.tuple #[]) ∧ Rst w' R T ts (mustR ts s.toList r) ∧ Kept R w w' := by
  cases hb : seeB ts s.toList r with
  | true =>
    obtain ⟨k, rfl, he⟩ := see_ok hb
    have HO := hide (rtake_yes s hs h.good he)
    have HW : Hid (mustR ts s.toList (.ok () k) = .ok () (k + 1)) := hide (by simp only [mustR, Res.bind, wantP, he, if_true])
    clear h hb hs he
    go_enter Tryz.func17, Tryz.ntmps17
    go_wp2_with fail
    refine HO.out.mono ?_
    rintro e w1 ⟨rfl, hd, hk⟩
    have HD := hide hd
    have HK := hide hk
    clear hd hk
    go_wp2_with fail
    go_end0
    rw [HW.out]
    exact ⟨rfl, HD.out, HK.out⟩
  | false =>
    cases r with
    | out => exact h.elim
    | bad er p =>
      have HO := hide (rtake_no s hs h hb)
      have HR := hide h
      clear h hb hs
      go_enter Tryz.func17, Tryz.ntmps17
      go_wp2_with fail
      refine HO.out.mono ?_
      rintro e w1 ⟨rfl, hb⟩
      have HB := hide hb
      clear hb
      go_wp2_with fail
      refine (rfails_bad 3 (HR.out.below HB.out) rfl).mono ?_
      rintro e w2 ⟨rfl, hb⟩
      have HC := hide (Below.step HB.out hb)
      clear hb
      go_wp2_with fail
      go_end0
      exact ⟨rfl, Rst.below HC.out HR.out, Kept.of HC.out⟩
    | ok u k =>
      have he : (tx ts k == s.toList) = false := hb
      have HW : Hid (mustR ts s.toList (.ok () k) = .bad 3 (tk ts k).pos) := hide (by simp only [mustR, Res.bind, wantP, he, Bool.false_eq_true, if_false])
      have HO := hide (rtake_no s hs h hb)
      have HR := hide h.good
      clear h hb hs he
      go_enter Tryz.func17, Tryz.ntmps17
      go_wp2_with fail
      refine HO.out.mono ?_
      rintro e w1 ⟨rfl, hb⟩
      have HB := hide hb
      clear hb
      go_wp2_with fail
      refine (rfails_good 3 (HR.out.below HB.out)).mono ?_
      rintro e w2 ⟨rfl, hd, hk⟩
      have HD := hide hd
      have HK := hide ((Kept.of (R := R) HB.out).trans hk)
      clear hd hk
      go_wp2_with fail
      go_end0
      rw [HW.out]
      exact ⟨rfl, ⟨k, HD.out⟩, HK.out⟩

theorem rlit_ne {l : List UInt8} (h : l ≠ []) : (⟨l.toArray⟩ : ByteArray).toList ≠ [] := by rw [ByteArray.toList_eq]; exact h
theorem ryes_at {w : World} {R T : Nat} {ts : List Tok} {k : Nat} (l : List UInt8) (hne : l ≠ []) (h : Rr w R T ts k 0 (-1)) (he : (tx ts k == l) = true) :
    Calls Tryz.prog 42 #[.pointer (some ⟨R, 0, none⟩), .string ⟨l.toArray⟩] w fun e w' => e = .returned (.bool true) ∧ Rr w' R T ts (k + 1) 0 (-1) ∧ Kept R w w' :=
  rtake_yes ⟨l.toArray⟩ (rlit_ne hne) h (by rw [ByteArray.toList_eq]; exact he)
theorem rno_at {w : World} {R T : Nat} {ts : List Tok} {r : Res Unit} (l : List UInt8) (hne : l ≠ []) (h : Rst w R T ts r) (he : seeB ts l r = false) :
    Calls Tryz.prog 42 #[.pointer (some ⟨R, 0, none⟩), .string ⟨l.toArray⟩] w fun e w' => e = .returned (.bool false) ∧ Rst w' R T ts r ∧ Kept R w w' :=
  (rtake_no ⟨l.toArray⟩ (rlit_ne hne) h (by rw [ByteArray.toList_eq]; exact he)).mono fun _ _ q => ⟨q.1, h.below q.2, Kept.of q.2⟩
theorem rneed_at {w : World} {R T : Nat} {ts : List Tok} {r : Res Unit} (l : List UInt8) (hne : l ≠ []) (h : Rst w R T ts r) :
    Calls Tryz.prog 17 #[.pointer (some ⟨R, 0, none⟩), .string ⟨l.toArray⟩] w fun e w' => e = .returned (.tuple #[]) ∧ Rst w' R T ts (mustR ts l r) ∧ Kept R w w' := by
  have := rmust_at ⟨l.toArray⟩ (rlit_ne hne) h
  rw [ByteArray.toList_eq] at this
  exact this
theorem rsees_at {w : World} {R T : Nat} {ts : List Tok} {r : Res Unit} (l : List UInt8) (hne : l ≠ []) (h : Rst w R T ts r) :
    Calls Tryz.prog 43 #[.pointer (some ⟨R, 0, none⟩), .string ⟨l.toArray⟩] w fun e w' => e = .returned (.bool (seeB ts l r)) ∧ Below w.heap.size w w' := by
  have := rsee_at ⟨l.toArray⟩ (rlit_ne hne) h
  rw [ByteArray.toList_eq] at this
  exact this
end Go.Proofs.YtlbgdoajaplabaaGreatDoor
