/-
  PLAIN: a program that was read, written with whatever blanks between, is read back.
  CONTRACT of sameStmts of the laws, at what Parse told.
-/
import Derived.Test.YtiimnnancblbkaaDoorJPrt
import Derived.Test.YtiimnnancblbkaaDoorWhole
set_option linter.unusedSimpArgs false
set_option linter.unusedVariables false
namespace Go.Proofs.YtiimnnancblbkaaDoor

/-! ### tokens of a text -/
structure TokOK (t : Tok) : Prop where
  kind : t.kind ≠ 0
  pos : 0 < t.text.size
  word : t.kind = 1 → IsWord t.text.data.toList
theorem extract_take (s : ByteArray) (i j : Nat) : (s.extract i j).data.toList = (s.data.toList.drop i).take (j - i) := Lib.extract_data s i j
theorem past_take (p : UInt8 → Bool) (l : List UInt8) (i : Nat) : (l.drop i).take (past p l i - i) = (l.drop i).takeWhile p := by
  unfold past
  rw [Nat.add_sub_cancel_left]
  exact (List.prefix_iff_eq_take.1 (List.takeWhile_prefix p)).symm
theorem takeWhile_mem (p : UInt8 → Bool) (l : List UInt8) : ∀ c ∈ l.takeWhile p, p c = true := by
  have := List.all_takeWhile (p := p) (l := l)
  rw [List.all_eq_true] at this
  exact this
theorem tokenAt_word (s : ByteArray) (i : Nat) (h : (tokenAt s i).kind = 1) : IsWord (tokenAt s i).text.data.toList := by
  unfold tokenAt at h ⊢
  by_cases h1 : i < past isDg s.data.toList i
  · rw [if_pos h1] at h; simp at h
  · rw [if_neg h1] at h ⊢
    by_cases h2 : i < past isLd s.data.toList i
    · rw [if_pos h2] at h ⊢
      simp only [extract_take, past_take]
      have hne : (s.data.toList.drop i).takeWhile isLd ≠ [] := by
        intro e; unfold past at h2; rw [e] at h2; simp at h2
      have hno : (s.data.toList.drop i).takeWhile isDg = [] := by
        unfold past at h1
        exact List.length_eq_zero_iff.1 (by omega)
      refine ⟨takeWhile_mem _ _, ?_⟩
      cases hd : s.data.toList.drop i with
      | nil => rw [hd] at hne; simp at hne
      | cons c t =>
        rw [hd] at hne hno
        have hc : isLd c = true := by
          cases hc : isLd c with
          | true => rfl
          | false => simp [hc] at hne
        have hg : isDg c = false := by
          cases hg : isDg c with
          | false => rfl
          | true => simp [hg] at hno
        exact ⟨c, t.takeWhile isLd, by simp [hc], hg⟩
    · rw [if_neg h2] at h
      split at h <;> simp at h

theorem toks_ok (s : ByteArray) (hs : s.size ≤ 1000000) : ∀ (f i : Nat) (acc ts : List Tok) (k : Nat), i ≤ s.size → toks s f i acc = .ok ts k →
    ∃ l, ts = acc ++ l ++ [⟨0, ⟨#[]⟩, s.size⟩] ∧ (∀ t ∈ l, TokOK t) ∧ i + (l.map fun t => t.text.size).sum ≤ s.size
  | 0, _, _, _, _, _, h => by simp only [toks] at h; cases h
  | f + 1, i, acc, ts, k, hi, h => by
    unfold toks at h
    split at h
    · split at h
      · cases h
      · split at h
        · cases h
        · rename_i h1 h2 h3
          have hg := tokenAt_good s i hi hs h2
          have hp := past_le isBl s.data.toList (i + (tokenAt s i).text.size) (by rw [Array.length_toList]; exact hg.2.2)
          rw [Array.length_toList] at hp
          have hz : s.data.size = s.size := rfl
          obtain ⟨l, e, h4, h5⟩ := toks_ok s hs f _ _ _ _ (by omega) h
          refine ⟨tokenAt s i :: l, by rw [e]; simp, fun t ht => ?_, by simp; omega⟩
          rcases List.mem_cons.1 ht with h | h
          · rw [h]; exact ⟨h2, hg.2.1, tokenAt_word s i⟩
          · exact h4 t h
    · cases h
      exact ⟨[], by simp, by simp, by simpa using hi⟩

theorem tokens_ok {s : ByteArray} (hs : s.size ≤ 1000000) {ts : List Tok} {k : Nat} (h : tokens s = .ok ts k) : Wds ts ∧ ∀ j, ws ts j ≤ s.size := by
  have hp := past_le isBl s.data.toList 0 (Nat.zero_le _)
  rw [Array.length_toList] at hp
  have hz : s.data.size = s.size := rfl
  obtain ⟨l, e, h1, h2⟩ := toks_ok s hs _ _ _ _ _ (by omega) h
  simp only [List.nil_append] at e
  have hin : ∀ j, (tk ts j) ∈ l ∨ (tk ts j).kind = 0 := by
    intro j
    subst e
    unfold tk
    by_cases hj : j < l.length
    · left; rw [List.getElem?_append_left hj, List.getElem?_eq_getElem hj, Option.getD_some]; exact List.getElem_mem hj
    · right
      rw [List.getElem?_append_right (by omega)]
      cases hq : j - l.length with
      | zero => rfl
      | succ n => rfl
  refine ⟨⟨fun j hj => ?_, fun j hj => ?_⟩, fun j => ?_⟩
  · rcases hin j with h | h
    · exact (h1 _ h).word hj
    · omega
  · rcases hin j with h | h
    · exact (h1 _ h).pos
    · exact absurd h hj
  · have hsub : ws ts j ≤ (ts.map fun t => t.text.size).sum := by
      unfold ws
      have := List.take_append_drop j ts
      have e2 : (ts.map fun t => t.text.size).sum = ((ts.take j).map fun t => t.text.size).sum + ((ts.drop j).map fun t => t.text.size).sum := by
        rw [← List.sum_append, ← List.map_append, this]
      omega
    have e3 : (ts.map fun t => t.text.size).sum = (l.map fun t => t.text.size).sum := by
      subst e; simp
      rfl
    omega

/-! ### fuel -/
theorem bind_fuel {α β : Type} {r r' : Res α} {g g' : α → Nat → Res β} (h1 : r ≠ .out → r' = r) (h2 : ∀ a k, r = .ok a k → g a k ≠ .out → g' a k = g a k) (h : r.bind g ≠ .out) : r'.bind g' = r.bind g := by
  cases r with
  | out => exact absurd rfl h
  | bad e p => rw [h1 (by simp)]; rfl
  | ok a k => rw [h1 (by simp)]; exact h2 a k rfl h
section
variable {ts : List Tok}
theorem two_s (f lv deep k : Nat) : twoP ts (f + 1) lv deep k = if lv = 6 then oneP ts f deep k else (twoP ts f (lv + 1) deep k).bind fun x k' => loopP ts f lv deep (tk ts k).pos x k' := by rw [twoP]
theorem loop_s (f lv deep pos : Nat) (x : Ex) (k : Nat) : loopP ts (f + 1) lv deep pos x k = if levelN (tx ts k) = lv then (twoP ts f (lv + 1) deep (k + 1)).bind fun y k' => loopP ts f lv deep pos (.bin pos (tk ts k).text x y) k' else .ok x k := by rw [loopP]
theorem one_s (f deep k : Nat) : oneP ts (f + 1) deep k =
    if 8 < deep then .bad 4 (tk ts k).pos
    else if tx ts k == [110, 111, 116] then (oneP ts f (deep + 1) (k + 1)).bind fun x k' => .ok (.not (tk ts k).pos x) k'
    else if tx ts k == [40] then (twoP ts f 1 (deep + 1) (k + 1)).bind fun x k' => (wantP ts [41] k').bind fun _ k'' => .ok x k''
    else if tx ts k == [116, 114, 117, 101] then .ok (.num (tk ts k).pos 1 1) (k + 1)
    else if tx ts k == [102, 97, 108, 115, 101] then .ok (.num (tk ts k).pos 0 1) (k + 1)
    else if (tk ts k).kind = 2 then (byteP ts k).bind fun n k' => .ok (.num (tk ts k).pos n 2) k'
    else (nameP ts k).bind fun s k' =>
      if tx ts k' == [46] then (nameP ts (k' + 1)).bind fun g k'' => .ok (.field (tk ts k).pos s g) k''
      else .ok (.name (tk ts k).pos s) k' := by rw [oneP]
theorem args_s (f k : Nat) (acc : List Ex) : argsP ts (f + 1) k acc =
    if (tk ts k).kind = 2 ∧ (tx ts (k + 1) == [41]) = true then (byteP ts k).bind fun n k' => .ok (acc, n) k'
    else (twoP ts f 1 0 k).bind fun x k' => if tx ts k' == [44] then argsP ts f (k' + 1) (acc ++ [x]) else .ok (acc ++ [x], 0) k' := by rw [argsP]
theorem stmts_s (f deep k : Nat) (acc : List St) : stmtsP ts (f + 1) deep k acc =
    if tx ts k == [105, 102] then (branchP ts f deep k).bind fun s k' => stmtsP ts f deep k' (acc ++ [s])
    else if isNm (tk ts k) then (actP ts f k).bind fun s k' => stmtsP ts f deep k' (acc ++ [s])
    else .ok acc k := by rw [stmtsP]
theorem branch_s (f deep k : Nat) : branchP ts (f + 1) deep k =
    if 8 ≤ deep then .bad 4 (tk ts (k + 1)).pos
    else (twoP ts f 1 0 (k + 1)).bind fun x k1 => (wantP ts [116, 104, 101, 110] k1).bind fun _ k2 => (stmtsP ts f (deep + 1) k2 []).bind fun th k3 =>
      if tx ts k3 == [101, 108, 115, 105, 102] then (branchP ts f (deep + 1) k3).bind fun s k4 => .ok (.cond (tk ts k).pos x th [s]) k4
      else (if tx ts k3 == [101, 108, 115, 101] then stmtsP ts f (deep + 1) (k3 + 1) [] else .ok [] k3).bind fun el k4 =>
        (wantP ts [101, 110, 100] k4).bind fun _ k5 => (wantP ts [59] k5).bind fun _ k6 => .ok (.cond (tk ts k).pos x th el) k6 := by rw [branchP]
theorem decls_s (f k : Nat) (acc : List De) : declsP ts (f + 1) k acc =
    if wayN (tx ts k) ≠ 0 ∨ blkN (tx ts k) ≠ 0 then
      (declP ts k).bind fun d k' => if acc.length = 20 then .bad 4 (tk ts k).pos else declsP ts f k' (acc ++ [d])
    else .ok acc k := by rw [declsP]
theorem ex_fuel (f : Nat) : (∀ lv deep k, twoP ts f lv deep k ≠ .out → twoP ts (f + 1) lv deep k = twoP ts f lv deep k) ∧ (∀ lv deep p x k, loopP ts f lv deep p x k ≠ .out → loopP ts (f + 1) lv deep p x k = loopP ts f lv deep p x k) ∧ (∀ deep k, oneP ts f deep k ≠ .out → oneP ts (f + 1) deep k = oneP ts f deep k) := by
  induction f with
  | zero => exact ⟨fun _ _ _ h => absurd (by simp only [twoP]) h, fun _ _ _ _ _ h => absurd (by simp only [loopP]) h, fun _ _ h => absurd (by simp only [oneP]) h⟩
  | succ f ih =>
    obtain ⟨i2, iL, i1⟩ := ih
    refine ⟨fun lv deep k h => ?_, fun lv deep p x k h => ?_, fun deep k h => ?_⟩
    · rw [two_s f] at h ⊢
      rw [two_s (f + 1)]
      split at h
      · rename_i e
        rw [if_pos e, if_pos e]
        exact i1 _ _ h
      · rename_i e
        rw [if_neg e, if_neg e]
        exact bind_fuel (i2 _ _ _) (fun a k _ => iL _ _ _ _ _) h
    · rw [loop_s f] at h ⊢
      rw [loop_s (f + 1)]
      split at h
      · rename_i e
        rw [if_pos e, if_pos e]
        exact bind_fuel (i2 _ _ _) (fun a k _ => iL _ _ _ _ _) h
      · rename_i e
        rw [if_neg e, if_neg e]
    · rw [one_s f] at h ⊢
      rw [one_s (f + 1)]
      split at h
      · rename_i e; rw [if_pos e, if_pos e]
      · rename_i e
        rw [if_neg e, if_neg e]
        split at h
        · rename_i e; rw [if_pos e, if_pos e]
          exact bind_fuel (i1 _ _) (fun a k _ _ => rfl) h
        · rename_i e
          rw [if_neg e, if_neg e]
          split at h
          · rename_i e; rw [if_pos e, if_pos e]
            exact bind_fuel (i2 _ _ _) (fun a k _ _ => rfl) h
          · rename_i e; rw [if_neg e, if_neg e]
theorem args_fuel : ∀ (f k : Nat) (acc : List Ex), argsP ts f k acc ≠ .out → argsP ts (f + 1) k acc = argsP ts f k acc
  | 0, _, _, h => absurd (by simp only [argsP]) h
  | f + 1, k, acc, h => by
    rw [args_s f] at h ⊢
    rw [args_s (f + 1)]
    split at h
    · rename_i e; rw [if_pos e, if_pos e]
    · rename_i e
      rw [if_neg e, if_neg e]
      refine bind_fuel ((ex_fuel f).1 _ _ _) (fun a k _ h => ?_) h
      split at h
      · rename_i e; rw [if_pos e, if_pos e]
        exact args_fuel f _ _ h
      · rename_i e; rw [if_neg e, if_neg e]
theorem act_fuel (f k : Nat) (h : actP ts f k ≠ .out) : actP ts (f + 1) k = actP ts f k := by
  unfold actP at h ⊢
  refine bind_fuel (fun _ => rfl) (fun a k _ h => ?_) h
  split at h
  · rename_i e; rw [if_pos e, if_pos e]
    exact bind_fuel ((ex_fuel f).1 _ _ _) (fun a k _ _ => rfl) h
  · rename_i e; rw [if_neg e, if_neg e]
    exact bind_fuel (fun _ => rfl) (fun a k _ h => bind_fuel (args_fuel f _ _) (fun a k _ _ => rfl) h) h
theorem st_fuel (f : Nat) : (∀ deep k acc, stmtsP ts f deep k acc ≠ .out → stmtsP ts (f + 1) deep k acc = stmtsP ts f deep k acc) ∧ (∀ deep k, branchP ts f deep k ≠ .out → branchP ts (f + 1) deep k = branchP ts f deep k) := by
  induction f with
  | zero => exact ⟨fun _ _ _ h => absurd (by simp only [stmtsP]) h, fun _ _ h => absurd (by simp only [branchP]) h⟩
  | succ f ih =>
    obtain ⟨iS, iB⟩ := ih
    refine ⟨fun deep k acc h => ?_, fun deep k h => ?_⟩
    · rw [stmts_s f] at h ⊢
      rw [stmts_s (f + 1)]
      split at h
      · rename_i e; rw [if_pos e, if_pos e]
        exact bind_fuel (iB _ _) (fun a k _ => iS _ _ _) h
      · rename_i e; rw [if_neg e, if_neg e]
        split at h
        · rename_i e; rw [if_pos e, if_pos e]
          exact bind_fuel (act_fuel f _) (fun a k _ => iS _ _ _) h
        · rename_i e; rw [if_neg e, if_neg e]
    · rw [branch_s f] at h ⊢
      rw [branch_s (f + 1)]
      split at h
      · rename_i e; rw [if_pos e, if_pos e]
      · rename_i e; rw [if_neg e, if_neg e]
        refine bind_fuel ((ex_fuel f).1 _ _ _) (fun a k _ h => bind_fuel (fun _ => rfl) (fun a k _ h => bind_fuel (iS _ _ _) (fun a k _ h => ?_) h) h) h
        split at h
        · rename_i e; rw [if_pos e, if_pos e]
          exact bind_fuel (iB _ _) (fun a k _ _ => rfl) h
        · rename_i e; rw [if_neg e, if_neg e]
          refine bind_fuel (fun h => ?_) (fun a k _ _ => rfl) h
          split at h
          · rename_i e; rw [if_pos e, if_pos e]
            exact iS _ _ _ h
          · rename_i e; rw [if_neg e, if_neg e]
theorem decls_fuel : ∀ (f k : Nat) (acc : List De), declsP ts f k acc ≠ .out → declsP ts (f + 1) k acc = declsP ts f k acc
  | 0, _, _, h => absurd (by simp only [declsP]) h
  | f + 1, k, acc, h => by
    rw [decls_s f] at h ⊢
    rw [decls_s (f + 1)]
    split at h
    · rename_i e; rw [if_pos e, if_pos e]
      refine bind_fuel (fun _ => rfl) (fun a k _ h => ?_) h
      split at h
      · rename_i e; rw [if_pos e, if_pos e]
      · rename_i e; rw [if_neg e, if_neg e]
        exact decls_fuel f _ _ h
    · rename_i e; rw [if_neg e, if_neg e]
theorem prog_fuel (f : Nat) (h : progP ts f ≠ .out) : progP ts (f + 1) = progP ts f := by
  unfold progP at h ⊢
  exact bind_fuel (decls_fuel f _ _) (fun a k _ h => bind_fuel (fun _ => rfl) (fun a k _ h => bind_fuel ((st_fuel f).1 _ _ _) (fun a k _ _ => rfl) h) h) h
theorem prog_more (f d : Nat) (h : progP ts f ≠ .out) : progP ts (f + d) = progP ts f := by
  induction d with
  | zero => rfl
  | succ d ih => rw [← Nat.add_assoc, prog_fuel (f + d) (by rw [ih]; exact h), ih]
theorem prog_ev {r : Res (List De × List St)} (h : ∃ f0, ∀ f, f0 ≤ f → progP ts f = r) : progP ts (fuel2 ts) = r := by
  obtain ⟨f0, h⟩ := h
  rw [← prog_more (fuel2 ts) f0 (prog_out ts)]
  exact h _ (by omega)
end

/-! ### what is written is of good pieces -/
theorem good_wd {s : ByteArray} (h : GoodN s) : GoodP (wd s.data.toList) := .inr (.inl ⟨rfl, h.1⟩)
theorem good_mk {s : List UInt8} (h : s ∈ marksL) : GoodP (mk s) := .inr (.inr (.inr ⟨rfl, h⟩))
theorem isWord_of {c : UInt8} {t : List UInt8} (h : (c :: t).all isLd = true) (hd : isDg c = false) : IsWord (c :: t) := ⟨by rw [List.all_eq_true] at h; exact h, c, t, rfl, hd⟩
theorem good_kw {c : UInt8} {t : List UInt8} (h : (c :: t).all isLd = true) (hd : isDg c = false) : GoodP (wd (c :: t)) := .inr (.inl ⟨rfl, isWord_of h hd⟩)
theorem good_sp : GoodP sp := .inl ⟨rfl, by simp, by simp [isBl]⟩
theorem good_nl : GoodP nl := .inl ⟨rfl, by simp, by simp [isBl]⟩
theorem good_val (ty n : Nat) : GoodP (valQ ty n) := by
  unfold valQ
  by_cases h : ty = 1
  · rw [if_pos h]
    by_cases h2 : n = 0
    · rw [if_pos h2]; exact good_kw (by decide) (by decide)
    · rw [if_neg h2]; exact good_kw (by decide) (by decide)
  · rw [if_neg h]
    exact .inr (.inr (.inl ⟨rfl, (dec_dg n).2.1, (dec_dg n).1⟩))
theorem good_op {op : ByteArray} (h : 1 ≤ levelN op.toList) : GoodP (opQ op) := by
  unfold opQ
  rw [ByteArray.toList_eq] at h ⊢
  generalize op.data.toList = l at *
  unfold levelN at h ⊢
  by_cases h1 : (l == [111, 114]) = true
  · rw [beq_iff_eq] at h1; subst h1; exact good_kw (by decide) (by decide)
  · by_cases h2 : (l == [120, 111, 114]) = true
    · rw [beq_iff_eq] at h2; subst h2; exact good_kw (by decide) (by decide)
    · by_cases h3 : (l == [97, 110, 100]) = true
      · rw [beq_iff_eq] at h3; subst h3; exact good_kw (by decide) (by decide)
      · rw [if_neg h1, if_neg h2, if_neg h3] at h ⊢
        by_cases h4 : (l == [61] || l == [60, 62] || l == [60] || l == [60, 61] || l == [62] || l == [62, 61]) = true
        · simp only [Bool.or_eq_true, beq_iff_eq] at h4
          rcases h4 with ((((h4 | h4) | h4) | h4) | h4) | h4 <;> subst h4 <;> exact good_mk (by decide)
        · rw [if_neg h4] at h ⊢
          by_cases h5 : (l == [43] || l == [45]) = true
          · simp only [Bool.or_eq_true, beq_iff_eq] at h5
            rcases h5 with h5 | h5 <;> subst h5 <;> exact good_mk (by decide)
          · rw [if_neg h5] at h; omega

theorem adj_one {q : Pc} {l : List Pc} {b : Bool} (hg : GoodP q) (h : free q = true ∨ starts l b = true) (hl : adj l b) : adj (q :: l) b := ⟨hg, h, hl⟩
theorem adj_app {a c : List Pc} {b : Bool} (h : starts c b = true) (ha : adj a true) (hc : adj c b) : adj (a ++ c) b := (adj_append a c b).2 ⟨by rw [h]; exact ha, hc⟩
theorem adj_free {a c : List Pc} {b : Bool} (ha : ∀ f, adj a f) (hc : adj c b) : adj (a ++ c) b := (adj_append a c b).2 ⟨ha _, hc⟩
theorem adj_nil (b : Bool) : adj [] b := trivial

theorem adj_ex : ∀ (x : Ex) (n : Nat), GoodEx x → adj (exQ x n) true
  | .num _ n ty, _, _ => adj_one (good_val ty n) (.inr rfl) trivial
  | .name _ s, _, h => adj_one (good_wd h) (.inr rfl) trivial
  | .field _ s g, _, h => adj_one (good_wd h.1) (.inr rfl) (adj_one (good_mk (by decide)) (.inl rfl) (adj_one (good_wd h.2) (.inr rfl) trivial))
  | .not _ x, _, h => adj_one (good_kw (by decide) (by decide)) (.inr rfl) (adj_one good_sp (.inl rfl) (adj_ex x 6 h))
  | .bin _ op x y, n, h => by
    obtain ⟨h1, hx, hy⟩ := h
    have ax := adj_ex x (levelN op.toList) hx
    have ay := adj_ex y (levelN op.toList + 1) hy
    by_cases hp : levelN op.toList < n
    · simp only [exQ, if_pos hp, List.append_assoc, List.cons_append, List.nil_append]
      exact adj_one (good_mk (by decide)) (.inl rfl) (adj_app rfl ax (adj_one good_sp (.inl rfl) (adj_one (good_op h1) (.inr rfl) (adj_one good_sp (.inl rfl) (adj_app rfl ay (adj_one (good_mk (by decide)) (.inr rfl) trivial))))))
    · simp only [exQ, if_neg hp, List.append_assoc, List.cons_append, List.nil_append]
      exact adj_app rfl ax (adj_one good_sp (.inl rfl) (adj_one (good_op h1) (.inr rfl) (adj_one good_sp (.inl rfl) (adj_app rfl ay trivial))))
theorem adj_line {d : De} (h : GoodD d) : adj (lineQ d) true := by
  have tail : adj [mk [59], nl] true := adj_one (good_mk (by decide)) (.inr rfl) (adj_one good_nl (.inl rfl) trivial)
  have hty : ∀ n, GoodP (wd (tyT n)) := fun n => by
    unfold tyT
    repeat' split
    all_goals exact good_kw (by decide) (by decide)
  have hway : ∀ n, GoodP (wd (wayT n)) := fun n => by
    unfold wayT
    repeat' split
    all_goals exact good_kw (by decide) (by decide)
  have init : adj ((if d.init = 0 then [] else [sp, mk [61], sp, valQ d.ty d.init]) ++ [mk [59], nl]) true ∧ starts ((if d.init = 0 then [] else [sp, mk [61], sp, valQ d.ty d.init]) ++ [mk [59], nl]) true = true := by
    by_cases h0 : d.init = 0
    · rw [if_pos h0]; exact ⟨tail, rfl⟩
    · rw [if_neg h0]
      exact ⟨adj_one good_sp (.inl rfl) (adj_one (good_mk (by decide)) (.inr rfl) (adj_one good_sp (.inl rfl) (adj_one (good_val _ _) (.inr rfl) tail))), rfl⟩
  unfold lineQ headQ
  rw [List.append_assoc]
  by_cases h3 : 3 ≤ d.ty
  · rw [if_pos h3]
    exact adj_one (hty _) (.inr rfl) (adj_one good_sp (.inl rfl) (adj_one (good_wd h.name) (.inr init.2) init.1))
  · rw [if_neg h3]
    exact adj_one (hway _) (.inr rfl) (adj_one good_sp (.inl rfl) (adj_one (good_wd h.name) (.inr rfl) (adj_one (good_mk (by decide)) (.inr rfl) (adj_one good_sp (.inl rfl) (adj_one (hty _) (.inr init.2) init.1)))))
theorem adj_args : ∀ (l : List Ex), (∀ x ∈ l, GoodX x) → ∀ (r : List Pc) (b : Bool), adj r b → adj (argsQ l ++ r) b
  | [], _, r, b, h => h
  | x :: l, hg, r, b, h => by
    simp only [argsQ, List.append_assoc, List.cons_append, List.nil_append]
    exact adj_app rfl (adj_ex x 1 (hg x (by simp)).good) (adj_one (good_mk (by decide)) (.inr rfl) (adj_one good_sp (.inl rfl) (adj_args l (fun y hy => hg y (by simp [hy])) r b h)))
def Left (l : List Pc) : Prop := ∀ q ∈ l, q = sp
theorem adj_left : ∀ {l : List Pc}, Left l → ∀ f, adj l f
  | [], _, _ => trivial
  | q :: l, h, f => by
    have e := h q (by simp)
    subst e
    exact adj_one good_sp (.inl rfl) (adj_left (fun p hp => h p (by simp [hp])) f)
theorem Left.more {l : List Pc} (h : Left l) : Left (l ++ [sp, sp]) := fun q hq => by
  rcases List.mem_append.1 hq with h1 | h1
  · exact h q h1
  · simp at h1; exact h1
mutual
theorem adj_st : ∀ (s : St), GoodSt s → ∀ (left : List Pc), Left left → ∀ (r : List Pc) (b : Bool), adj r b → adj (stQ s left ++ r) b
  | .set _ s x, hg, left, hl, r, b, hr => by
    simp only [GoodSt] at hg
    simp only [stQ, List.append_assoc, List.cons_append, List.nil_append]
    exact adj_free (adj_left hl) (adj_one (good_wd hg.1) (.inr rfl) (adj_one good_sp (.inl rfl) (adj_one (good_mk (by decide)) (.inr rfl) (adj_one good_sp (.inl rfl) (adj_app rfl (adj_ex x 1 hg.2.good) (adj_one (good_mk (by decide)) (.inr rfl) (adj_one good_nl (.inl rfl) hr)))))))
  | .call _ s l n, hg, left, hl, r, b, hr => by
    simp only [GoodSt] at hg
    simp only [stQ, List.append_assoc, List.cons_append, List.nil_append]
    exact adj_free (adj_left hl) (adj_one (good_wd hg.1) (.inr rfl) (adj_one (good_mk (by decide)) (.inl rfl) (adj_args l hg.2.1 _ b (adj_one (.inr (.inr (.inl ⟨rfl, (dec_dg n).2.1, (dec_dg n).1⟩))) (.inr rfl) (adj_one (good_mk (by decide)) (.inr rfl) (adj_one (good_mk (by decide)) (.inr rfl) (adj_one good_nl (.inl rfl) hr)))))))
  | .cond _ x th [], hg, left, hl, r, b, hr => by
    simp only [GoodSt] at hg
    simp only [stQ, List.append_assoc, List.cons_append, List.nil_append]
    exact adj_free (adj_left hl) (adj_one (good_kw (by decide) (by decide)) (.inr rfl) (adj_one good_sp (.inl rfl) (adj_app rfl (adj_ex x 1 hg.1.good) (adj_one good_sp (.inl rfl) (adj_one (good_kw (by decide) (by decide)) (.inr rfl) (adj_one good_nl (.inl rfl) (adj_sts th hg.2.1 _ hl.more _ b (adj_free (adj_left hl) (adj_one (good_kw (by decide) (by decide)) (.inr rfl) (adj_one (good_mk (by decide)) (.inr rfl) (adj_one good_nl (.inl rfl) hr)))))))))))
  | .cond _ x th (s :: el), hg, left, hl, r, b, hr => by
    simp only [GoodSt] at hg
    simp only [stQ, List.append_assoc, List.cons_append, List.nil_append]
    exact adj_free (adj_left hl) (adj_one (good_kw (by decide) (by decide)) (.inr rfl) (adj_one good_sp (.inl rfl) (adj_app rfl (adj_ex x 1 hg.1.good) (adj_one good_sp (.inl rfl) (adj_one (good_kw (by decide) (by decide)) (.inr rfl) (adj_one good_nl (.inl rfl) (adj_sts th hg.2.1 _ hl.more _ b (adj_free (adj_left hl) (adj_one (good_kw (by decide) (by decide)) (.inr rfl) (adj_one good_nl (.inl rfl) (adj_sts (s :: el) hg.2.2 _ hl.more _ b (adj_free (adj_left hl) (adj_one (good_kw (by decide) (by decide)) (.inr rfl) (adj_one (good_mk (by decide)) (.inr rfl) (adj_one good_nl (.inl rfl) hr)))))))))))))))
theorem adj_sts : ∀ (l : List St), GoodL l → ∀ (left : List Pc), Left left → ∀ (r : List Pc) (b : Bool), adj r b → adj (stsQ l left ++ r) b
  | [], _, _, _, _, _, hr => by simp only [stsQ, List.nil_append]; exact hr
  | s :: l, hg, left, hl, r, b, hr => by
    simp only [GoodL] at hg
    simp only [stsQ, List.append_assoc]
    exact adj_st s hg.1 left hl _ b (adj_sts l hg.2 left hl r b hr)
end
theorem adj_lines : ∀ (l : List De), (∀ d ∈ l, GoodD d) → ∀ (r : List Pc), adj r true → adj (linesQ l ++ r) true
  | [], _, _, h => h
  | d :: l, hg, r, h => by
    simp only [linesQ, List.append_assoc]
    have hd := adj_line (hg d (by simp))
    have := adj_lines l (fun y hy => hg y (by simp [hy])) r h
    refine (adj_append _ _ _).2 ⟨?_, this⟩
    -- what is behind a line feed is no matter
    have hsplit : lineQ d = (headQ d ++ (if d.init = 0 then [] else [sp, mk [61], sp, valQ d.ty d.init]) ++ [mk [59]]) ++ [nl] := by simp [lineQ]
    rw [hsplit] at hd ⊢
    obtain ⟨h1, h2⟩ := (adj_append _ _ _).1 hd
    exact (adj_append _ _ _).2 ⟨h1, adj_one good_nl (.inl rfl) trivial⟩
theorem adj_print {p : List De × List St} (h : GoodPr p) : adj (printQ p) true := by
  simp only [printQ, List.append_assoc, List.cons_append, List.nil_append]
  refine adj_lines p.1 h.decls _ (adj_one (good_kw (by decide) (by decide)) (.inr rfl) (adj_one good_nl (.inl rfl) (adj_sts p.2 h.body _ (fun q hq => by simpa using hq) _ _ (adj_one (good_kw (by decide) (by decide)) (.inr rfl) (adj_one good_nl (.inl rfl) trivial)))))

/-! ### the round -/
theorem parse_inv {s : ByteArray} (hs : s.size ≤ 1000000) {p : List De × List St} {k : Nat} (h : parse2 s = .ok p k) : GoodPr p ∧ 5 * (printK p).length ≤ 7 * s.size := by
  unfold parse2 at h
  obtain ⟨ts, k0, e1, e2⟩ := bind_ok h
  unfold wholeP at e2
  obtain ⟨q, k1, e3, e4⟩ := bind_ok e2
  split at e4
  · cases e4
    obtain ⟨hw, hsz⟩ := tokens_ok hs e1
    obtain ⟨g1, g2⟩ := prog_inv hw e3
    exact ⟨g1, by have := hsz k; omega⟩
  · cases e4
/-- pieces that are those of a program but for blanks -/
theorem round {p : List De × List St} (hg : GoodPr p) (hlen : (printK p).length ≤ 800) (qs : List Pc) (hq : sig qs = printK p) (ha : adj qs true) : ∃ b' k', erL b' = erL p.2 ∧ parse2 ⟨(flat qs).toArray⟩ = .ok (p.1, b') k' := by
  have ht := tokens_pieces qs ha (by rw [hq]; exact hlen)
  have hm := mat_toks ⟨0, ⟨#[]⟩, (flat qs).length⟩ qs 0 []
  rw [hq] at hm
  simp only [List.nil_append, List.length_nil] at hm
  obtain ⟨b', e, hp⟩ := prog_back hg hm
  have hp2 := prog_ev hp
  refine ⟨b', (printK p).length, e, ?_⟩
  have hend : (tk (toksAt 0 qs ++ [⟨0, ⟨#[]⟩, (flat qs).length⟩]) (printK p).length).kind = 0 := by
    have : (toksAt 0 qs).length = (printK p).length := by rw [toksAt_len, hq]
    unfold tk
    rw [← this]
    simp
  unfold parse2
  rw [ht]
  simp only [Res.bind, wholeP, hp2, if_pos hend]
theorem round_print {s : ByteArray} (hs : s.size ≤ 500) {p : List De × List St} {k : Nat} (h : parse2 s = .ok p k) : ∃ b' k', erL b' = erL p.2 ∧ parse2 ⟨(printT p).toArray⟩ = .ok (p.1, b') k' := by
  obtain ⟨hg, hl⟩ := parse_inv (by omega) h
  rw [← flat_print]
  exact round hg (by omega) (printQ p) (printK_eq p) (adj_print hg)
end Go.Proofs.YtiimnnancblbkaaDoor
