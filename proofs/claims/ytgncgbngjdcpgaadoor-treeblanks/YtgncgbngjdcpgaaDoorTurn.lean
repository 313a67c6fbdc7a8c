/-
  PLAIN: a program written with other blanks.
-/
import Derived.Test.YtgncgbngjdcpgaaDoorRound
set_option linter.unusedSimpArgs false
set_option linter.unusedVariables false
namespace Go.Proofs.YtgncgbngjdcpgaaDoor

def okBl (q : Pc) : Bool := q.1 != 0 || q.2 == [32] || q.2 == [10]
theorem ok_val (ty n : Nat) : okBl (valQ ty n) = true := by have := valQ_kind ty n; simp [okBl, this]
theorem ok_op (op : ByteArray) : okBl (opQ op) = true := by have := opQ_kind op; simp [okBl, this]
theorem ok_wd (s : List UInt8) : okBl (wd s) = true := rfl
theorem ok_mk (s : List UInt8) : okBl (mk s) = true := rfl
theorem ok_nu (s : List UInt8) : okBl (2, s) = true := rfl
theorem ok_sp : okBl sp = true := rfl
theorem ok_nl : okBl nl = true := rfl
theorem ok_ex : ∀ (x : Ex) (n : Nat), (exQ x n).all okBl = true
  | .num _ n ty, _ => by simp [exQ, ok_val]
  | .name .., _ => by simp [exQ, ok_wd]
  | .field .., _ => by simp [exQ, ok_wd, ok_mk]
  | .not _ x, _ => by simp only [exQ, List.all_append, ok_ex x, List.all_cons, List.all_nil, ok_wd, ok_sp, Bool.and_true]
  | .bin _ op x y, n => by
    simp only [exQ, List.all_append, ok_ex x, ok_ex y, List.all_cons, List.all_nil, ok_op, ok_sp, Bool.and_true]
    split <;> simp [ok_mk]
theorem ok_line (d : De) : (lineQ d).all okBl = true := by
  unfold lineQ headQ
  by_cases h : 3 ≤ d.ty <;> by_cases h2 : d.init = 0 <;> simp only [h, h2, if_true, if_false, List.all_append, List.all_cons, List.all_nil, ok_wd, ok_mk, ok_sp, ok_nl, ok_val, Bool.and_true]
theorem ok_args : ∀ l : List Ex, (argsQ l).all okBl = true
  | [] => rfl
  | x :: l => by simp only [argsQ, List.all_append, ok_ex, ok_args l, List.all_cons, List.all_nil, ok_mk, ok_sp, Bool.and_true]
theorem ok_more {l : List Pc} (h : l.all okBl = true) : (l ++ [sp, sp]).all okBl = true := by
  simp only [List.all_append, h, List.all_cons, List.all_nil, ok_sp, Bool.and_true]
mutual
theorem ok_st : ∀ (s : St) (left : List Pc), left.all okBl = true → (stQ s left).all okBl = true
  | .set .., left, h => by simp only [stQ, List.all_append, h, ok_ex, List.all_cons, List.all_nil, ok_wd, ok_mk, ok_sp, ok_nl, Bool.and_true]
  | .call .., left, h => by simp only [stQ, List.all_append, h, ok_args, List.all_cons, List.all_nil, ok_wd, ok_mk, ok_nu, ok_sp, ok_nl, Bool.and_true]
  | .cond _ x th [], left, h => by simp only [stQ, List.all_append, h, ok_ex, ok_sts th _ (ok_more h), List.all_cons, List.all_nil, ok_wd, ok_mk, ok_sp, ok_nl, Bool.and_true]
  | .cond _ x th (s :: el), left, h => by simp only [stQ, List.all_append, h, ok_ex, ok_sts th _ (ok_more h), ok_sts (s :: el) _ (ok_more h), List.all_cons, List.all_nil, ok_wd, ok_mk, ok_sp, ok_nl, Bool.and_true]
theorem ok_sts : ∀ (l : List St) (left : List Pc), left.all okBl = true → (stsQ l left).all okBl = true
  | [], _, _ => by simp only [stsQ, List.all_nil]
  | s :: l, left, h => by simp only [stsQ, List.all_append, ok_st s left h, ok_sts l left h, Bool.and_true]
end
theorem ok_lines : ∀ l : List De, (linesQ l).all okBl = true
  | [] => rfl
  | d :: l => by simp only [linesQ, List.all_append, ok_line, ok_lines l, Bool.and_true]
theorem ok_print (p : List De × List St) : (printQ p).all okBl = true := by
  simp only [printQ, List.all_append, ok_lines, ok_sts p.2 [sp, sp] rfl, List.all_cons, List.all_nil, ok_wd, ok_nl, Bool.and_true]

/-- one letter of what is written, and the blanks so far -/
def stepB (rep : Nat → List UInt8) (o : List UInt8 × Nat) (c : UInt8) : List UInt8 × Nat := if c = 32 ∨ c = 10 then (o.1 ++ rep o.2, o.2 + 1) else (o.1 ++ [c], o.2)
def turnB (rep : Nat → List UInt8) (l : List UInt8) : List UInt8 × Nat := l.foldl (stepB rep) ([], 0)
def turnQ (rep : Nat → List UInt8) : List Pc → Nat → List Pc
  | [], _ => []
  | q :: l, n => if q.1 = 0 then (0, rep n) :: turnQ rep l (n + 1) else q :: turnQ rep l n
theorem step_token (rep : Nat → List UInt8) : ∀ (t : List UInt8), (∀ c ∈ t, c ≠ 32 ∧ c ≠ 10) → ∀ (o : List UInt8) (n : Nat), t.foldl (stepB rep) (o, n) = (o ++ t, n)
  | [], _, o, n => by simp
  | c :: t, h, o, n => by
    have hc := h c (by simp)
    rw [List.foldl_cons]
    have e : stepB rep (o, n) c = (o ++ [c], n) := by simp [stepB, hc.1, hc.2]
    rw [e, step_token rep t (fun d hd => h d (by simp [hd]))]
    simp
theorem good_no_blank {q : Pc} (h : GoodP q) (h0 : q.1 ≠ 0) : ∀ c ∈ q.2, c ≠ 32 ∧ c ≠ 10 := by
  have key : ∀ c : UInt8, isBl c = false → c ≠ 32 ∧ c ≠ 10 := fun c hc => ⟨fun e => by subst e; exact absurd hc (by decide), fun e => by subst e; exact absurd hc (by decide)⟩
  intro c hc
  rcases h with h | h | h | h
  · exact absurd h.1 h0
  · exact key c (ld_bl c (h.2.all c hc))
  · exact key c (dg_ld c (h.2.2 c hc)).2
  · obtain ⟨_, hm⟩ := h
    have hall : ∀ m ∈ marksL, ∀ c ∈ m, isBl c = false := by decide
    exact key c (hall _ hm c hc)
theorem turn_pieces (rep : Nat → List UInt8) : ∀ (l : List Pc) (b : Bool), adj l b → l.all okBl = true → ∀ (o : List UInt8) (n : Nat), ∃ n', (flat l).foldl (stepB rep) (o, n) = (o ++ flat (turnQ rep l n), n')
  | [], _, _, _, o, n => ⟨n, by simp [flat, turnQ]⟩
  | q :: l, b, ha, hk, o, n => by
    obtain ⟨hg, _, ha'⟩ := ha
    simp only [List.all_cons, Bool.and_eq_true] at hk
    rw [flat_cons, List.foldl_append]
    by_cases h0 : q.1 = 0
    · have hb : q.2 = [32] ∨ q.2 = [10] := by
        have := hk.1
        simp [okBl, h0] at this
        exact this
      have e : q.2.foldl (stepB rep) (o, n) = (o ++ rep n, n + 1) := by
        rcases hb with h | h <;> simp [h, stepB]
      obtain ⟨n', h⟩ := turn_pieces rep l b ha' hk.2 (o ++ rep n) (n + 1)
      refine ⟨n', ?_⟩
      rw [e, h]
      simp [turnQ, h0, flat_cons]
    · obtain ⟨n', h⟩ := turn_pieces rep l b ha' hk.2 (o ++ q.2) n
      refine ⟨n', ?_⟩
      rw [step_token rep q.2 (good_no_blank hg h0), h]
      simp [turnQ, h0, flat_cons]
theorem turn_sig (rep : Nat → List UInt8) : ∀ (l : List Pc) (n : Nat), sig (turnQ rep l n) = sig l
  | [], _ => rfl
  | q :: l, n => by
    by_cases h0 : q.1 = 0
    · have := turn_sig rep l (n + 1)
      simp only [sig] at this
      simp [turnQ, h0, sig, this]
    · have := turn_sig rep l n
      simp only [sig] at this
      simp [turnQ, h0, sig, this]
/-- blanks in the place of blanks -/
structure Reps (rep : Nat → List UInt8) : Prop where
  ne : ∀ n, rep n ≠ []
  bl : ∀ n, ∀ c ∈ rep n, isBl c = true
  len : ∀ n, (rep n).length ≤ 3
theorem bl_calm (c : UInt8) (h : isBl c = true) : calmC c = true := by
  unfold isBl at h
  simp only [List.contains_cons, List.contains_nil, Bool.or_false, Bool.or_eq_true, beq_iff_eq] at h
  rcases h with h | h | h <;> subst h <;> decide
theorem rep_calm {rep : Nat → List UInt8} (hr : Reps rep) (n : Nat) : calmQ (0, rep n) = true := by
  unfold calmQ
  have h1 := hr.ne n
  have h2 := hr.bl n
  cases h : rep n with
  | nil => exact absurd h h1
  | cons c t => rw [h] at h2; exact bl_calm c (h2 c (by simp))
theorem turn_starts {rep : Nat → List UInt8} (hr : Reps rep) (l : List Pc) (n : Nat) (b : Bool) (h : starts l b = true) : starts (turnQ rep l n) b = true := by
  cases l with
  | nil => exact h
  | cons q l =>
    by_cases h0 : q.1 = 0
    · simp only [turnQ, if_pos h0]; exact rep_calm hr n
    · simp only [turnQ, if_neg h0]; exact h
theorem turn_adj {rep : Nat → List UInt8} (hr : Reps rep) : ∀ (l : List Pc) (n : Nat) (b : Bool), adj l b → adj (turnQ rep l n) b
  | [], _, _, _ => trivial
  | q :: l, n, b, h => by
    obtain ⟨hg, hn, ha⟩ := h
    by_cases h0 : q.1 = 0
    · simp only [turnQ, if_pos h0]
      exact ⟨.inl ⟨rfl, hr.ne n, hr.bl n⟩, .inl rfl, turn_adj hr l (n + 1) b ha⟩
    · simp only [turnQ, if_neg h0]
      exact ⟨hg, hn.imp id (turn_starts hr l n b), turn_adj hr l n b ha⟩
theorem turn_len {rep : Nat → List UInt8} (hr : Reps rep) (l : List UInt8) : ∀ (o : List UInt8) (n : Nat), (l.foldl (stepB rep) (o, n)).1.length ≤ o.length + 3 * l.length := by
  induction l with
  | nil => intro o n; simp
  | cons c l ih =>
    intro o n
    rw [List.foldl_cons]
    have hl := hr.len n
    by_cases h : c = 32 ∨ c = 10
    · have e : stepB rep (o, n) c = (o ++ rep n, n + 1) := by simp [stepB, h]
      rw [e]
      have := ih (o ++ rep n) (n + 1)
      simp only [List.length_append, List.length_cons] at this ⊢
      omega
    · have e : stepB rep (o, n) c = (o ++ [c], n) := by simp [stepB, h]
      rw [e]
      have := ih (o ++ [c]) n
      simp only [List.length_append, List.length_cons, List.length_nil] at this ⊢
      omega
theorem turn_take (rep : Nat → List UInt8) (l : List UInt8) (i : Nat) (h : i < l.length) : turnB rep (l.take (i + 1)) = stepB rep (turnB rep (l.take i)) l[i] := by
  unfold turnB
  rw [List.take_succ_eq_append_getElem h, List.foldl_append]
  rfl
theorem turn_count (rep : Nat → List UInt8) (l : List UInt8) : (turnB rep l).2 ≤ l.length := by
  have : ∀ (l : List UInt8) (o : List UInt8 × Nat), (l.foldl (stepB rep) o).2 ≤ o.2 + l.length := by
    intro l
    induction l with
    | nil => intro o; simp
    | cons c l ih =>
      intro o
      rw [List.foldl_cons]
      have h1 := ih (stepB rep o c)
      have h2 : (stepB rep o c).2 ≤ o.2 + 1 := by
        unfold stepB
        split <;> simp
      simp only [List.length_cons]
      omega
  have := this l ([], 0)
  simpa [turnB] using this

theorem round_turned {s : ByteArray} (hs : s.size ≤ 500) {p : List De × List St} {k : Nat} (h : parse2 s = .ok p k) {rep : Nat → List UInt8} (hr : Reps rep) : ∃ b' k', erL b' = erL p.2 ∧ parse2 ⟨(turnB rep (printT p)).1.toArray⟩ = .ok (p.1, b') k' := by
  obtain ⟨hg, hl⟩ := parse_inv (by omega) h
  obtain ⟨n', hn⟩ := turn_pieces rep (printQ p) true (adj_print hg) (ok_print p) [] 0
  have e : (turnB rep (printT p)).1 = flat (turnQ rep (printQ p) 0) := by
    unfold turnB
    rw [← flat_print, hn]
    simp
  rw [e]
  exact round hg (by omega) _ (by rw [turn_sig]; exact printK_eq p) (turn_adj hr _ 0 true (adj_print hg))
end Go.Proofs.YtgncgbngjdcpgaaDoor
