/-
  PLAIN: what is written is read back: statements, declarations, programs.
-/
import Derived.Test.YtgncgbngjdcpgaaGreatDoorBack
set_option linter.unusedSimpArgs false
set_option linter.unusedVariables false
namespace Go.Proofs.YtgncgbngjdcpgaaGreatDoor

mutual
/-- statements without their places -/
def erS : St → St
  | .set _ s x => .set 0 s (er x)
  | .call _ s l n => .call 0 s (l.map er) n
  | .cond _ x th el => .cond 0 (er x) (erL th) (erL el)
def erL : List St → List St
  | [] => []
  | s :: l => erS s :: erL l
end
theorem erL_length : ∀ l : List St, (erL l).length = l.length
  | [] => by simp [erL]
  | s :: l => by simp [erL, erL_length l]
theorem erL_append : ∀ a b : List St, erL (a ++ b) = erL a ++ erL b
  | [], b => by simp [erL]
  | s :: a, b => by simp [erL, erL_append a b]

theorem argsT_er : ∀ l : List Ex, argsT (l.map er) = argsT l
  | [] => rfl
  | x :: l => by simp only [List.map_cons, argsT, textP_er, argsT_er l]
mutual
theorem stT_er : ∀ (s : St) (left : List UInt8), stT (erS s) left = stT s left
  | .set .., _ => by simp only [erS, stT, textP_er]
  | .call .., _ => by simp only [erS, stT, argsT_er]
  | .cond _ x th [], left => by simp only [erS, erL, stT, textP_er, stsT_er th]
  | .cond _ x th (s :: el), left => by
    have := stsT_er (s :: el) (left ++ [32, 32])
    simp only [erL] at this
    simp only [erS, erL, stT, textP_er, stsT_er th, this]
theorem stsT_er : ∀ (l : List St) (left : List UInt8), stsT (erL l) left = stsT l left
  | [], _ => by simp only [erL]
  | s :: l, left => by simp only [erL, stsT, stT_er s, stsT_er l]
end
theorem printT_er {ds : List De} {a b : List St} (h : erL a = erL b) : printT (ds, a) = printT (ds, b) := by
  have : ∀ l : List UInt8, stsT a l = stsT b l := fun l => by rw [← stsT_er a, ← stsT_er b, h]
  simp only [printT, this]

def argsK : List Ex → List Pc
  | [] => []
  | x :: l => exK x 1 ++ [mk [44]] ++ argsK l
mutual
def stK : St → List Pc
  | .set _ s x => [wd s.data.toList, mk [58, 61]] ++ exK x 1 ++ [mk [59]]
  | .call _ s l n => [wd s.data.toList, mk [40]] ++ argsK l ++ [(2, Lib.decDigits n), mk [41], mk [59]]
  | .cond _ x th el => [wd [105, 102]] ++ exK x 1 ++ [wd [116, 104, 101, 110]] ++ stsK th ++ (match el with | [] => [] | _ :: _ => [wd [101, 108, 115, 101]] ++ stsK el) ++ [wd [101, 110, 100], mk [59]]
def stsK : List St → List Pc
  | [] => []
  | s :: l => stK s ++ stsK l
end
def lineK (d : De) : List Pc := (if 3 ≤ d.ty then [wd (tyT d.ty), wd d.name.data.toList] else [wd (wayT d.way), wd d.name.data.toList, mk [58], wd (tyT d.ty)]) ++ (if d.init = 0 then [] else [mk [61], valQ d.ty d.init]) ++ [mk [59]]
def linesK : List De → List Pc
  | [] => []
  | d :: l => lineK d ++ linesK l
def printK (p : List De × List St) : List Pc := linesK p.1 ++ [wd [98, 101, 103, 105, 110]] ++ stsK p.2 ++ [wd [101, 110, 100]]

theorem argsK_eq : ∀ l : List Ex, sig (argsQ l) = argsK l
  | [] => rfl
  | x :: l => by
    simp only [argsQ, argsK, sig_append, exK_eq, argsK_eq l]
    rfl
theorem sig_nil : sig [] = [] := rfl
theorem sig_wd (s : List UInt8) (l : List Pc) : sig (wd s :: l) = wd s :: sig l := rfl
theorem sig_mk (s : List UInt8) (l : List Pc) : sig (mk s :: l) = mk s :: sig l := rfl
theorem sig_nu (s : List UInt8) (l : List Pc) : sig ((2, s) :: l) = (2, s) :: sig l := rfl
theorem sig_bl (s : List UInt8) (l : List Pc) : sig ((0, s) :: l) = sig l := rfl
theorem sig_val (ty n : Nat) (l : List Pc) : sig (valQ ty n :: l) = valQ ty n :: sig l := by simp [sig, valQ_kind]
mutual
theorem stK_eq : ∀ (s : St) (left : List Pc), sig left = [] → sig (stQ s left) = stK s
  | .set _ s x, left, h => by simp only [stQ, stK, sig_append, exK_eq, h, sig_wd, sig_mk, sig_bl, sig_nil, List.nil_append]
  | .call _ s l n, left, h => by simp only [stQ, stK, sig_append, argsK_eq, h, sig_wd, sig_mk, sig_nu, sig_bl, sig_nil, List.nil_append]
  | .cond _ x th [], left, h => by
    have h1 := stsK_eq th (left ++ [sp, sp]) (by rw [sig_append, h]; rfl)
    simp only [stQ, stK, sig_append, exK_eq, h, h1, sig_wd, sig_mk, sig_bl, sig_nil, List.nil_append]
  | .cond _ x th (s :: el), left, h => by
    have h1 := stsK_eq th (left ++ [sp, sp]) (by rw [sig_append, h]; rfl)
    have h2 := stsK_eq (s :: el) (left ++ [sp, sp]) (by rw [sig_append, h]; rfl)
    simp only [stQ, stK, sig_append, exK_eq, h, h1, h2, sig_wd, sig_mk, sig_bl, sig_nil, List.nil_append]
theorem stsK_eq : ∀ (l : List St) (left : List Pc), sig left = [] → sig (stsQ l left) = stsK l
  | [], _, _ => by simp only [stsQ, stsK]; rfl
  | s :: l, left, h => by simp only [stsQ, stsK, sig_append, stK_eq s left h, stsK_eq l left h]
end
theorem lineK_eq (d : De) : sig (lineQ d) = lineK d := by
  unfold lineQ lineK headQ
  by_cases h : 3 ≤ d.ty <;> by_cases h2 : d.init = 0 <;> simp only [h, h2, if_true, if_false, sig_append, sig_wd, sig_mk, sig_bl, sig_val, sig_nil]
theorem linesK_eq : ∀ l : List De, sig (linesQ l) = linesK l
  | [] => rfl
  | d :: l => by simp only [linesQ, linesK, sig_append, lineK_eq, linesK_eq l]
theorem printK_eq (p : List De × List St) : sig (printQ p) = printK p := by
  have h := stsK_eq p.2 [sp, sp] rfl
  simp only [printQ, printK, sig_append, linesK_eq, h]
  rfl

structure GoodX (x : Ex) : Prop where
  good : GoodEx x
  deep : need x 1 ≤ 8
mutual
def GoodSt : St → Prop
  | .set _ s x => GoodN s ∧ GoodX x
  | .call _ s l n => GoodN s ∧ (∀ x ∈ l, GoodX x) ∧ n ≤ 255
  | .cond _ x th el => GoodX x ∧ GoodL th ∧ GoodL el
def GoodL : List St → Prop
  | [] => True
  | s :: l => GoodSt s ∧ GoodL l
end
mutual
/-- how many ifs lie in each other -/
def depS : St → Nat
  | .set .. => 0
  | .call .. => 0
  | .cond _ _ th el => 1 + max (depL th) (depL el)
def depL : List St → Nat
  | [] => 0
  | s :: l => max (depS s) (depL l)
end
theorem GoodL_append : ∀ a b : List St, GoodL (a ++ b) ↔ GoodL a ∧ GoodL b
  | [], b => by simp [GoodL]
  | s :: a, b => by simp [GoodL, GoodL_append a b, and_assoc]
theorem depL_append : ∀ a b : List St, depL (a ++ b) = max (depL a) (depL b)
  | [], b => by simp [depL]
  | s :: a, b => by simp [depL, depL_append a b, Nat.max_assoc]
structure GoodD (d : De) : Prop where
  name : GoodN d.name
  form : (3 ≤ d.ty ∧ d.ty ≤ 5 ∧ d.way = 3 ∧ d.init = 0) ∨ (1 ≤ d.way ∧ d.way ≤ 3 ∧ 1 ≤ d.ty ∧ d.ty ≤ 2 ∧ (d.way = 1 → d.init = 0) ∧ (d.ty = 1 → d.init ≤ 1) ∧ d.init ≤ 255)

section
variable {ts : List Tok}

theorem want_back {s : List UInt8} {k : Nat} (h : tx ts k = s) : wantP ts s k = .ok () (k + 1) := by
  simp only [wantP, h, beq_self_eq_true, if_true]

theorem ex_two {x : Ex} (hx : GoodX x) {k : Nat} (hm : Mat ts k (exK x 1)) (hd : tx ts (k + (exK x 1).length) ≠ [46]) (hl : levelN (tx ts (k + (exK x 1).length)) = 0) : ∃ x', er x' = er x ∧ Ev2 ts 1 0 k x' (k + (exK x 1).length) :=
  (ex_back x hx.good 1 0 k (by omega) (by omega) hm (by have := hx.deep; omega) hd).two (by omega) (by omega)

theorem exK_pos : ∀ (x : Ex) (n : Nat), 0 < (exK x n).length
  | .num .., _ => by simp [exK]
  | .name .., _ => by simp [exK]
  | .field .., _ => by simp [exK]
  | .not .., _ => by simp [exK]
  | .bin .., _ => by simp [exK]; omega

/-- a number that stands alone is told from one ahead of ) -/
theorem num_ahead : ∀ (y : Ex), GoodEx y → ∀ (lv : Nat) (k : Nat) (r : List Pc), Mat ts k (exK y lv ++ r) → (tk ts k).kind = 2 → tx ts (k + 1) = [41] → (∀ q r', r = q :: r' → q.2 ≠ [41]) → r ≠ [] → False := by
  intro y
  induction y with
  | num p n ty =>
    intro _ lv k r hm _ hb hr hne
    cases r with
    | nil => exact hne rfl
    | cons q r => exact hr q r rfl (by have := hm.2.2.2.1; rw [← this]; exact hb)
  | name p s =>
    intro _ lv k r hm ha _ _ _
    have : (tk ts k).kind = 1 := hm.1
    omega
  | field p s g =>
    intro _ lv k r hm ha _ _ _
    have : (tk ts k).kind = 1 := hm.1
    omega
  | not p x _ =>
    intro _ lv k r hm ha _ _ _
    have : (tk ts k).kind = 1 := hm.1
    omega
  | bin p op a b iha ihb =>
    intro hg lv k r hm ha hb hr hne
    by_cases h : levelN op.toList < lv
    · simp only [exK, if_pos h, List.append_assoc, List.cons_append, List.nil_append] at hm
      have : (tk ts k).kind = 3 := hm.1
      omega
    · simp only [exK, if_neg h, List.append_assoc, List.cons_append, List.nil_append] at hm
      refine iha hg.2.1 (levelN op.toList) k _ hm ha hb ?_ (by simp)
      intro q r' e
      simp only [List.cons.injEq] at e
      obtain ⟨rfl, _⟩ := e
      intro e2
      have e3 : op.data.toList = [41] := e2
      have hz := hg.1
      rw [ByteArray.toList_eq, e3] at hz
      exact absurd hz (by decide)
theorem args_back : ∀ (l : List Ex), (∀ x ∈ l, GoodX x) → ∀ (n : Nat), n ≤ 255 → ∀ (k : Nat) (acc : List Ex), Mat ts k (argsK l ++ [(2, Lib.decDigits n), mk [41]]) →
    ∃ l', l'.map er = l.map er ∧ ∃ f0, ∀ f, f0 ≤ f → argsP ts f k acc = .ok (acc ++ l', n) (k + (argsK l).length + 1)
  | [], _, n, hn, k, acc, hm => by
    obtain ⟨h1, h2, h3⟩ := hm
    refine ⟨[], rfl, 1, fun f hf => ?_⟩
    obtain ⟨g, rfl⟩ : ∃ g, f = g + 1 := ⟨f - 1, by omega⟩
    have e : (tx ts (k + 1) == [41]) = true := by rw [h3.2.1]; decide
    have hk : (tk ts k).kind = 2 := h1
    have hv : valOf (tx ts k) = n := by rw [h2]; exact (dec_dg n).2.2
    simp only [argsP, e, hk, and_self, if_true, byteP, hv, if_pos hn, Res.bind, List.append_nil]
    rfl
  | x :: l, hg, n, hn, k, acc, hm => by
    simp only [argsK, List.append_assoc] at hm
    obtain ⟨hm1, hm2⟩ := mat_append.1 hm
    obtain ⟨hc1, hc2, hm3⟩ := hm2
    have hx := hg x (by simp)
    obtain ⟨x', e, f1, h1⟩ := ex_two hx hm1 (by rw [hc2]; decide) (by rw [hc2]; decide)
    obtain ⟨l', el, f2, h2⟩ := args_back l (fun y hy => hg y (by simp [hy])) n hn (k + (exK x 1).length + 1) (acc ++ [x']) hm3
    refine ⟨x' :: l', by simp [e, el], max f1 f2 + 1, fun f hf => ?_⟩
    obtain ⟨g, rfl⟩ : ∃ g, f = g + 1 := ⟨f - 1, by omega⟩
    have hno : ¬ ((tk ts k).kind = 2 ∧ (tx ts (k + 1) == [41]) = true) := by
      rintro ⟨ha, hb⟩
      rw [beq_iff_eq] at hb
      exact num_ahead x hx.good 1 k [mk [44]] (mat_append.2 ⟨hm1, hc1, hc2, trivial⟩) ha hb (by intro q r' e; simp only [List.cons.injEq] at e; obtain ⟨rfl, _⟩ := e; decide) (by simp)
    have hcm : (tx ts (k + (exK x 1).length) == [44]) = true := by rw [hc2]; decide
    have hlen : k + (argsK (x :: l)).length + 1 = k + (exK x 1).length + 1 + (argsK l).length + 1 := by simp [argsK]; omega
    simp only [argsP, if_neg hno, h1 g (by omega), Res.bind, hcm, if_true, h2 g (by omega), hlen]
    simp

def EvS (ts : List Tok) (deep k : Nat) (l : List St) (k' : Nat) : Prop := ∃ f0, ∀ f, f0 ≤ f → ∀ acc, stmtsP ts f deep k acc = .ok (acc ++ l) k'
def EvB (ts : List Tok) (deep k : Nat) (s : St) (k' : Nat) : Prop := ∃ f0, ∀ f, f0 ≤ f → branchP ts f deep k = .ok s k'

theorem not_if {s : ByteArray} (hs : GoodN s) {k : Nat} (h2 : tx ts k = s.data.toList) : (tx ts k == [105, 102]) = false := by
  have hk : keptL.contains (tx ts k) = false := by have := hs.2.2; rw [ByteArray.toList_eq] at this; rw [h2]; exact this
  exact kept_ne hk (by decide)

theorem set_back {p : Nat} {s : ByteArray} {x : Ex} (hs : GoodN s) (hx : GoodX x) {k : Nat} (hm : Mat ts k (stK (.set p s x))) :
    ∃ s', erS s' = erS (.set p s x) ∧ ∃ f0, ∀ f, f0 ≤ f → actP ts f k = .ok s' (k + (stK (.set p s x)).length) := by
  simp only [stK, List.append_assoc, List.cons_append, List.nil_append] at hm
  obtain ⟨a1, a2, b1, b2, hm⟩ := hm
  obtain ⟨hm1, c1, c2, _⟩ := mat_append.1 hm
  obtain ⟨x', e, f1, h1⟩ := ex_two hx hm1 (by rw [c2]; decide) (by rw [c2]; decide)
  refine ⟨.set (tk ts k).pos s x', by simp only [erS, e], f1, fun f hf => ?_⟩
  have hc : (tx ts (k + 1) == [58, 61]) = true := by rw [b2]; decide
  have hl : k + (stK (.set p s x)).length = k + 1 + 1 + (exK x 1).length + 1 := by simp [stK]; omega
  simp only [actP, (name_back hs a1 a2).2, Res.bind, hc, if_true, h1 f hf, want_back c2, hl]
theorem call_back {p : Nat} {s : ByteArray} {l : List Ex} {n : Nat} (hs : GoodN s) (hx : ∀ x ∈ l, GoodX x) (hn : n ≤ 255) {k : Nat} (hm : Mat ts k (stK (.call p s l n))) :
    ∃ s', erS s' = erS (.call p s l n) ∧ ∃ f0, ∀ f, f0 ≤ f → actP ts f k = .ok s' (k + (stK (.call p s l n)).length) := by
  simp only [stK, List.append_assoc, List.cons_append, List.nil_append] at hm
  obtain ⟨a1, a2, b1, b2, hm⟩ := hm
  have hm : Mat ts (k + 1 + 1) (argsK l ++ [(2, Lib.decDigits n), mk [41]] ++ [mk [59]]) := by simpa using hm
  obtain ⟨hm1, c1, c2, _⟩ := mat_append.1 hm
  obtain ⟨l', e, f1, h1⟩ := args_back l hx n hn (k + 1 + 1) [] hm1
  have d2 : tx ts (k + 1 + 1 + (argsK l).length + 1) = [41] := (mat_append.1 hm1).2.2.2.2.1
  have c2 : tx ts (k + 1 + 1 + (argsK l).length + 1 + 1) = [59] := by
    rw [show k + 1 + 1 + (argsK l ++ [(2, Lib.decDigits n), mk [41]]).length = k + 1 + 1 + (argsK l).length + 1 + 1 by simp; omega] at c2
    exact c2
  refine ⟨.call (tk ts k).pos s l' n, by simp only [erS, e], f1, fun f hf => ?_⟩
  have hc : (tx ts (k + 1) == [58, 61]) = false := by rw [b2]; decide
  have hl : k + (stK (.call p s l n)).length = k + 1 + 1 + (argsK l).length + 1 + 1 + 1 := by simp [stK]; omega
  simp only [actP, (name_back hs a1 a2).2, Res.bind, hc, Bool.false_eq_true, if_false, want_back b2, h1 f hf, want_back d2, want_back c2, hl, List.nil_append]

theorem stK_pos : ∀ s : St, 0 < (stK s).length
  | .set .. => by simp [stK]
  | .call .. => by simp [stK]
  | .cond .. => by simp [stK]

/-- no statement begins here -/
def NoSt (ts : List Tok) (k : Nat) : Prop := (tx ts k == [105, 102]) = false ∧ isNm (tk ts k) = false
theorem noSt_of {k : Nat} {s : List UInt8} (h : tx ts k = s) (h1 : (s == [105, 102]) = false) (h2 : keptL.contains s = true) : NoSt ts k := by
  refine ⟨by rw [h]; exact h1, ?_⟩
  have : keptL.contains (tk ts k).text.toList = true := by rw [show (tk ts k).text.toList = s from h]; exact h2
  simp only [isNm, this]; simp

theorem evS_cons {deep k k1 k2 : Nat} {s : St} {l : List St} (h1 : (tx ts k == [105, 102]) = true ∧ EvB ts deep k s k1 ∨ (tx ts k == [105, 102]) = false ∧ isNm (tk ts k) = true ∧ ∃ f0, ∀ f, f0 ≤ f → actP ts f k = .ok s k1) (h2 : EvS ts deep k1 l k2) : EvS ts deep k (s :: l) k2 := by
  obtain ⟨f2, h2⟩ := h2
  rcases h1 with ⟨a, f1, h1⟩ | ⟨a, b, f1, h1⟩
  · refine ⟨max f1 f2 + 1, fun f hf acc => ?_⟩
    obtain ⟨g, rfl⟩ : ∃ g, f = g + 1 := ⟨f - 1, by omega⟩
    simp only [stmtsP, a, if_true, h1 g (by omega), Res.bind, h2 g (by omega)]
    simp
  · refine ⟨max f1 f2 + 1, fun f hf acc => ?_⟩
    obtain ⟨g, rfl⟩ : ∃ g, f = g + 1 := ⟨f - 1, by omega⟩
    simp only [stmtsP, a, b, Bool.false_eq_true, if_false, if_true, h1 g (by omega), Res.bind, h2 g (by omega)]
    simp
theorem evS_nil {deep k : Nat} (h : NoSt ts k) : EvS ts deep k [] k := by
  refine ⟨1, fun f hf acc => ?_⟩
  obtain ⟨g, rfl⟩ : ∃ g, f = g + 1 := ⟨f - 1, by omega⟩
  simp only [stmtsP, h.1, h.2, Bool.false_eq_true, if_false, List.append_nil]

theorem evB_no {deep k k1 k2 : Nat} {x : Ex} {th : List St} (hd : deep < 8) (hx : Ev2 ts 1 0 (k + 1) x k1) (ht : tx ts k1 = [116, 104, 101, 110]) (hth : EvS ts (deep + 1) (k1 + 1) th k2) (he : tx ts k2 = [101, 110, 100]) (hs : tx ts (k2 + 1) = [59]) : EvB ts deep k (.cond (tk ts k).pos x th []) (k2 + 2) := by
  obtain ⟨f1, h1⟩ := hx
  obtain ⟨f2, h2⟩ := hth
  refine ⟨max f1 f2 + 1, fun f hf => ?_⟩
  obtain ⟨g, rfl⟩ : ∃ g, f = g + 1 := ⟨f - 1, by omega⟩
  have e1 : (tx ts k2 == [101, 108, 115, 105, 102]) = false := by rw [he]; decide
  have e2 : (tx ts k2 == [101, 108, 115, 101]) = false := by rw [he]; decide
  simp only [branchP, if_neg (show ¬ 8 ≤ deep by omega), h1 g (by omega), Res.bind, want_back ht, h2 g (by omega), List.nil_append, e1, e2, Bool.false_eq_true, if_false, want_back he, want_back hs]
theorem evB_el {deep k k1 k2 k3 : Nat} {x : Ex} {th el : List St} (hd : deep < 8) (hx : Ev2 ts 1 0 (k + 1) x k1) (ht : tx ts k1 = [116, 104, 101, 110]) (hth : EvS ts (deep + 1) (k1 + 1) th k2) (hl : tx ts k2 = [101, 108, 115, 101]) (hel : EvS ts (deep + 1) (k2 + 1) el k3) (he : tx ts k3 = [101, 110, 100]) (hs : tx ts (k3 + 1) = [59]) : EvB ts deep k (.cond (tk ts k).pos x th el) (k3 + 2) := by
  obtain ⟨f1, h1⟩ := hx
  obtain ⟨f2, h2⟩ := hth
  obtain ⟨f3, h3⟩ := hel
  refine ⟨max (max f1 f2) f3 + 1, fun f hf => ?_⟩
  obtain ⟨g, rfl⟩ : ∃ g, f = g + 1 := ⟨f - 1, by omega⟩
  have e1 : (tx ts k2 == [101, 108, 115, 105, 102]) = false := by rw [hl]; decide
  have e2 : (tx ts k2 == [101, 108, 115, 101]) = true := by rw [hl]; decide
  simp only [branchP, if_neg (show ¬ 8 ≤ deep by omega), h1 g (by omega), Res.bind, want_back ht, h2 g (by omega), List.nil_append, e1, e2, Bool.false_eq_true, if_false, if_true, h3 g (by omega), want_back he, want_back hs]

mutual
theorem cond_back : ∀ (s : St), GoodSt s → ∀ (deep k : Nat), depS s + deep ≤ 8 → Mat ts k (stK s) →
    ∃ s', erS s' = erS s ∧ ((tx ts k == [105, 102]) = true ∧ EvB ts deep k s' (k + (stK s).length) ∨ (tx ts k == [105, 102]) = false ∧ isNm (tk ts k) = true ∧ ∃ f0, ∀ f, f0 ≤ f → actP ts f k = .ok s' (k + (stK s).length))
  | .set p s x, hg, deep, k, hd, hm => by
    simp only [GoodSt] at hg
    obtain ⟨s', e, h⟩ := set_back hg.1 hg.2 hm
    exact ⟨s', e, .inr ⟨not_if hg.1 hm.2.1, (name_back hg.1 hm.1 hm.2.1).1, h⟩⟩
  | .call p s l n, hg, deep, k, hd, hm => by
    simp only [GoodSt] at hg
    obtain ⟨s', e, h⟩ := call_back hg.1 hg.2.1 hg.2.2 hm
    exact ⟨s', e, .inr ⟨not_if hg.1 hm.2.1, (name_back hg.1 hm.1 hm.2.1).1, h⟩⟩
  | .cond p x th [], hg, deep, k, hd, hm => by
    simp only [GoodSt] at hg
    simp only [depS] at hd
    simp only [stK, List.append_assoc, List.nil_append, List.cons_append] at hm
    obtain ⟨a1, a2, hm⟩ := hm
    obtain ⟨hm1, b1, b2, hm2⟩ := mat_append.1 hm
    obtain ⟨hm3, c1, c2, d1, d2, _⟩ := mat_append.1 hm2
    obtain ⟨x', e, hx⟩ := ex_two hg.1 hm1 (by rw [b2]; decide) (by rw [b2]; decide)
    obtain ⟨th', et, ht⟩ := sts_back th hg.2.1 (deep + 1) _ (by omega) hm3 (noSt_of c2 (by decide) (by decide))
    refine ⟨.cond (tk ts k).pos x' th' [], by simp only [erS, e, et], .inl ⟨by rw [a2]; decide, ?_⟩⟩
    have hl : k + (stK (.cond p x th [])).length = k + 1 + (exK x 1).length + 1 + (stsK th).length + 2 := by simp [stK]; omega
    rw [hl]
    exact evB_no (by omega) hx b2 ht c2 d2
  | .cond p x th (s :: el), hg, deep, k, hd, hm => by
    simp only [GoodSt] at hg
    simp only [depS] at hd
    simp only [stK, List.append_assoc, List.nil_append, List.cons_append] at hm
    obtain ⟨a1, a2, hm⟩ := hm
    obtain ⟨hm1, b1, b2, hm2⟩ := mat_append.1 hm
    obtain ⟨hm3, c1, c2, hm4⟩ := mat_append.1 hm2
    obtain ⟨hm5, d1, d2, e1, e2, _⟩ := mat_append.1 hm4
    obtain ⟨x', e, hx⟩ := ex_two hg.1 hm1 (by rw [b2]; decide) (by rw [b2]; decide)
    obtain ⟨th', et, ht⟩ := sts_back th hg.2.1 (deep + 1) _ (by omega) hm3 (noSt_of c2 (by decide) (by decide))
    obtain ⟨el', ee, hel⟩ := sts_back (s :: el) hg.2.2 (deep + 1) _ (by omega) hm5 (noSt_of d2 (by decide) (by decide))
    refine ⟨.cond (tk ts k).pos x' th' el', by simp only [erS, e, et, ee], .inl ⟨by rw [a2]; decide, ?_⟩⟩
    have hl : k + (stK (.cond p x th (s :: el))).length = k + 1 + (exK x 1).length + 1 + (stsK th).length + 1 + (stsK (s :: el)).length + 2 := by simp [stK]; omega
    rw [hl]
    exact evB_el (by omega) hx b2 ht c2 hel d2 e2
theorem sts_back : ∀ (l : List St), GoodL l → ∀ (deep k : Nat), depL l + deep ≤ 8 → Mat ts k (stsK l) → NoSt ts (k + (stsK l).length) → ∃ l', erL l' = erL l ∧ EvS ts deep k l' (k + (stsK l).length)
  | [], _, deep, k, _, _, hn => ⟨[], rfl, evS_nil hn⟩
  | s :: l, hg, deep, k, hd, hm, hn => by
    simp only [GoodL] at hg
    simp only [depL] at hd
    simp only [stsK] at hm hn ⊢
    obtain ⟨hm1, hm2⟩ := mat_append.1 hm
    rw [List.length_append, ← Nat.add_assoc] at hn ⊢
    obtain ⟨s', e, h1⟩ := cond_back s hg.1 deep k (by omega) hm1
    obtain ⟨l', el, h2⟩ := sts_back l hg.2 deep _ (by omega) hm2 hn
    exact ⟨s' :: l', by simp only [erL, e, el], evS_cons h1 h2⟩
end

theorem wayT_way (n : Nat) (h1 : 1 ≤ n) (h3 : n ≤ 3) : wayN (wayT n) = n ∧ blkN (wayT n) = 0 := by
  rcases (show n = 1 ∨ n = 2 ∨ n = 3 by omega) with rfl | rfl | rfl <;> decide
theorem tyT_blk (n : Nat) (h1 : 3 ≤ n) (h3 : n ≤ 5) : blkN (tyT n) = n ∧ wayN (tyT n) = 0 := by
  rcases (show n = 3 ∨ n = 4 ∨ n = 5 by omega) with rfl | rfl | rfl <;> decide
theorem kind_back {k ty : Nat} (h1 : 1 ≤ ty) (h2 : ty ≤ 2) (h : tx ts k = tyT ty) : kindP ts k = .ok ty (k + 1) := by
  rcases (show ty = 1 ∨ ty = 2 by omega) with rfl | rfl
  · have e : (tx ts k == [98, 111, 111, 108]) = true := by rw [h]; decide
    simp only [kindP, e, if_true]
  · have e : (tx ts k == [98, 111, 111, 108]) = false := by rw [h]; decide
    have e2 : tx ts k = [98, 121, 116, 101] := h
    simp only [kindP, e, Bool.false_eq_true, if_false, want_back e2, Res.bind]
theorem first_none {k ty : Nat} (h : tx ts k = [59]) : firstP ts ty k = .ok 0 k := by
  have e : (tx ts k == [61]) = false := by rw [h]; decide
  simp only [firstP, e, Bool.false_eq_true, if_false]
theorem first_some {k ty n : Nat} (ht1 : 1 ≤ ty) (ht2 : ty ≤ 2) (h0 : n ≠ 0) (hn1 : ty = 1 → n ≤ 1) (hn : n ≤ 255) (h : tx ts k = [61]) (hk : (tk ts (k + 1)).kind = (valQ ty n).1) (hv : tx ts (k + 1) = (valQ ty n).2) : firstP ts ty k = .ok n (k + 2) := by
  have e : (tx ts k == [61]) = true := by rw [h]; decide
  rcases (show ty = 1 ∨ ty = 2 by omega) with rfl | rfl
  · have : n = 1 := by have := hn1 rfl; omega
    subst this
    have e2 : (tx ts (k + 1) == [116, 114, 117, 101]) = true := by rw [hv]; rfl
    simp only [firstP, e, if_true, e2, show ¬ (1 : Nat) = 2 by decide, if_false]
  · have hk : (tk ts (k + 1)).kind = 2 := hk
    have hv : valOf (tx ts (k + 1)) = n := by rw [hv]; exact (dec_dg n).2.2
    simp only [firstP, e, if_true, byteP, hk, hv, if_pos hn]

theorem decl_back {d : De} (hg : GoodD d) {k : Nat} (hm : Mat ts k (lineK d)) : (wayN (tx ts k) ≠ 0 ∨ blkN (tx ts k) ≠ 0) ∧ declP ts k = .ok d (k + (lineK d).length) := by
  obtain ⟨name, way, ty, init⟩ := d
  obtain ⟨hn, hf⟩ := hg
  simp only at hn hf
  rcases hf with ⟨h1, h2, rfl, rfl⟩ | ⟨h1, h2, h3, h4, h5, h6, h7⟩
  · simp only [lineK, if_pos h1, if_true, List.append_nil, List.cons_append, List.nil_append] at hm ⊢
    obtain ⟨a1, a2, b1, b2, c1, c2, _⟩ := hm
    have hb := tyT_blk ty h1 h2
    have e : blkN (tx ts k) = ty := by rw [a2]; exact hb.1
    refine ⟨.inr (by rw [e]; omega), ?_⟩
    simp only [declP, (name_back hn b1 b2).2, Res.bind, e, ne_eq, show ¬ ty = 0 by omega, not_false_eq_true, if_true, want_back c2]
    rfl
  · have hty : ¬ 3 ≤ ty := by omega
    by_cases h0 : init = 0
    · subst h0
      simp only [lineK, if_neg hty, if_true, List.append_nil, List.cons_append, List.nil_append] at hm ⊢
      obtain ⟨a1, a2, b1, b2, c1, c2, d1, d2, e1, e2, _⟩ := hm
      have hw := wayT_way way h1 h2
      have e : wayN (tx ts k) = way := by rw [a2]; exact hw.1
      have e' : blkN (tx ts k) = 0 := by rw [a2]; exact hw.2
      refine ⟨.inl (by rw [e]; omega), ?_⟩
      by_cases hw1 : way = 1
      · simp only [declP, (name_back hn b1 b2).2, Res.bind, e, e', ne_eq, not_true_eq_false, if_false, want_back c2, kind_back h3 h4 d2, hw1, want_back e2]
        rfl
      · simp only [declP, (name_back hn b1 b2).2, Res.bind, e, e', ne_eq, not_true_eq_false, if_false, want_back c2, kind_back h3 h4 d2, hw1, not_false_eq_true, if_true, first_none e2, want_back e2]
        rfl
    · have hw1 : ¬ way = 1 := fun e => h0 (h5 e)
      simp only [lineK, if_neg hty, if_neg h0, List.cons_append, List.nil_append] at hm ⊢
      obtain ⟨a1, a2, b1, b2, c1, c2, d1, d2, e1, e2, g1, g2, i1, i2, _⟩ := hm
      have hw := wayT_way way h1 h2
      have e : wayN (tx ts k) = way := by rw [a2]; exact hw.1
      have e' : blkN (tx ts k) = 0 := by rw [a2]; exact hw.2
      refine ⟨.inl (by rw [e]; omega), ?_⟩
      simp only [declP, (name_back hn b1 b2).2, Res.bind, e, e', ne_eq, not_true_eq_false, if_false, want_back c2, kind_back h3 h4 d2, hw1, not_false_eq_true, if_true, first_some h3 h4 h0 h6 h7 e2 g1 g2, want_back i2]
      rfl

theorem decls_back : ∀ (l : List De), (∀ d ∈ l, GoodD d) → ∀ (k : Nat) (acc : List De), acc.length + l.length ≤ 20 → Mat ts k (linesK l) → wayN (tx ts (k + (linesK l).length)) = 0 → blkN (tx ts (k + (linesK l).length)) = 0 →
    ∃ f0, ∀ f, f0 ≤ f → declsP ts f k acc = .ok (acc ++ l) (k + (linesK l).length)
  | [], _, k, acc, _, _, h1, h2 => by
    refine ⟨1, fun f hf => ?_⟩
    obtain ⟨g, rfl⟩ : ∃ g, f = g + 1 := ⟨f - 1, by omega⟩
    have h1 : wayN (tx ts k) = 0 := h1
    have h2 : blkN (tx ts k) = 0 := h2
    simp only [declsP, h1, h2, ne_eq, not_true_eq_false, or_self, if_false, List.append_nil]
    rfl
  | d :: l, hg, k, acc, hl, hm, h1, h2 => by
    simp only [linesK] at hm h1 h2 ⊢
    obtain ⟨hm1, hm2⟩ := mat_append.1 hm
    rw [List.length_append, ← Nat.add_assoc] at h1 h2 ⊢
    obtain ⟨hc, hd⟩ := decl_back (hg d (by simp)) hm1
    obtain ⟨f1, h⟩ := decls_back l (fun d hd => hg d (by simp [hd])) _ (acc ++ [d]) (by simp at hl ⊢; omega) hm2 h1 h2
    refine ⟨f1 + 1, fun f hf => ?_⟩
    obtain ⟨g, rfl⟩ : ∃ g, f = g + 1 := ⟨f - 1, by omega⟩
    have hac : ¬ acc.length = 20 := by simp at hl; omega
    simp only [declsP, if_pos hc, hd, Res.bind, if_neg hac, h g (by omega)]
    simp

/-- a program that may be written -/
structure GoodPr (p : List De × List St) : Prop where
  decls : ∀ d ∈ p.1, GoodD d
  many : p.1.length ≤ 20
  body : GoodL p.2
  deep : depL p.2 ≤ 8

theorem prog_back {p : List De × List St} (hg : GoodPr p) (hm : Mat ts 0 (printK p)) : ∃ b', erL b' = erL p.2 ∧ ∃ f0, ∀ f, f0 ≤ f → progP ts f = .ok (p.1, b') (printK p).length := by
  simp only [printK, List.append_assoc, List.cons_append, List.nil_append] at hm
  obtain ⟨hm1, hm2⟩ := mat_append.1 hm
  obtain ⟨a1, a2, hm3⟩ := hm2
  obtain ⟨hm4, b1, b2, _⟩ := mat_append.1 hm3
  obtain ⟨f1, h1⟩ := decls_back p.1 hg.decls 0 [] (by simpa using hg.many) hm1 (by rw [a2]; decide) (by rw [a2]; decide)
  obtain ⟨b', e, f2, h2⟩ := sts_back p.2 hg.body 0 _ (by have := hg.deep; omega) hm4 (noSt_of b2 (by decide) (by decide))
  refine ⟨b', e, max f1 f2, fun f hf => ?_⟩
  have hl : (printK p).length = 0 + (linesK p.1).length + 1 + (stsK p.2).length + 1 := by simp [printK]; omega
  simp only [progP, h1 f (by omega), Res.bind, want_back a2, h2 f (by omega), want_back b2, hl, List.nil_append]
end
end Go.Proofs.YtgncgbngjdcpgaaGreatDoor
