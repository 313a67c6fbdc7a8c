/-
  PLAIN: what is read may be written: names are words, bounds are kept, and what is written is not much longer than what was read.
-/
import Derived.Test.YtgncgbngjdcpgaaGreatDoorBack2
import Derived.Test.YtgncgbngjdcpgaaGreatDoorGrow2
set_option linter.unusedSimpArgs false
set_option linter.unusedVariables false
namespace Go.Proofs.YtgncgbngjdcpgaaGreatDoor

/-- what is told of tokens -/
structure Wds (ts : List Tok) : Prop where
  word : ∀ k, (tk ts k).kind = 1 → IsWord (tk ts k).text.data.toList
  pos : ∀ k, (tk ts k).kind ≠ 0 → 0 < (tk ts k).text.size
def ws (ts : List Tok) (k : Nat) : Nat := ((ts.take k).map fun t => t.text.size).sum
theorem ws_succ (ts : List Tok) (k : Nat) : ws ts (k + 1) = ws ts k + (tk ts k).text.size := by
  unfold ws tk
  rw [List.take_add_one]
  cases h : ts[k]? with
  | none =>
    show _ = _ + 0
    simp
  | some t => simp

section
variable {ts : List Tok}
theorem tx_size {k : Nat} {s : List UInt8} (h : tx ts k = s) : (tk ts k).text.size = s.length := by
  have h : (tk ts k).text.toList = s := h
  rw [← h, ByteArray.toList_eq, Array.length_toList]; rfl
theorem name_inv (hw : Wds ts) {k k' : Nat} {s : ByteArray} (h : nameP ts k = .ok s k') : GoodN s ∧ ws ts k + 1 ≤ ws ts k' := by
  unfold nameP at h
  split at h
  · rename_i hn
    split at h
    · rename_i hs
      cases h
      have hk : (tk ts k).kind = 1 := by simp [isNm] at hn; exact hn.1
      have hp := hw.pos k (by omega)
      refine ⟨⟨hw.word k hk, hs, ?_⟩, by rw [ws_succ]; omega⟩
      simp only [isNm, hk] at hn
      simpa using hn
    · cases h
  · cases h
theorem byte_inv (hw : Wds ts) {k k' n : Nat} (h : byteP ts k = .ok n k') : n ≤ 255 ∧ ws ts k + 1 ≤ ws ts k' := by
  unfold byteP at h
  split at h
  · rename_i hk
    split at h
    · rename_i hs
      cases h
      have hp := hw.pos k (by omega)
      exact ⟨hs, by rw [ws_succ]; omega⟩
    · cases h
  · cases h
theorem want_inv {s : List UInt8} {k k' : Nat} {u : Unit} (h : wantP ts s k = .ok u k') : ws ts k + s.length = ws ts k' := by
  unfold wantP at h
  split at h
  · rename_i he
    cases h
    rw [beq_iff_eq] at he
    rw [ws_succ, tx_size he]
  · cases h

theorem need_mono : ∀ (x : Ex) {a b : Nat}, a ≤ b → need x a ≤ need x b
  | .num .., _, _, _ => Nat.le_refl _
  | .name .., _, _, _ => Nat.le_refl _
  | .field .., _, _, _ => Nat.le_refl _
  | .not .., _, _, _ => Nat.le_refl _
  | .bin _ op x y, a, b, h => by
    simp only [need]
    split <;> split <;> omega
theorem need_par : ∀ (x : Ex) (a b : Nat), need x a ≤ need x b + 1
  | .num .., _, _ => by simp [need]
  | .name .., _, _ => by simp [need]
  | .field .., _, _ => by simp [need]
  | .not .., _, _ => by simp [need]
  | .bin _ op x y, a, b => by
    simp only [need]
    split <;> split <;> omega
theorem len_mono : ∀ (x : Ex) {a b : Nat}, a ≤ b → (exK x a).length ≤ (exK x b).length
  | .num .., _, _, _ => Nat.le_refl _
  | .name .., _, _, _ => Nat.le_refl _
  | .field .., _, _, _ => Nat.le_refl _
  | .not .., _, _, _ => Nat.le_refl _
  | .bin _ op x y, a, b, h => by
    simp only [exK, List.length_append]
    by_cases h1 : levelN op.toList < a
    · rw [if_pos h1, if_pos h1, if_pos (show levelN op.toList < b by omega), if_pos (show levelN op.toList < b by omega)]; exact Nat.le_refl _
    · rw [if_neg h1, if_neg h1]; simp only [List.length_nil]; omega
theorem len_par : ∀ (x : Ex) (a b : Nat), (exK x a).length ≤ (exK x b).length + 2
  | .num .., _, _ => by simp [exK]
  | .name .., _, _ => by simp [exK]
  | .field .., _, _ => by simp [exK]
  | .not .., _, _ => by simp [exK]
  | .bin _ op x y, a, b => by
    simp only [exK, List.length_append]
    split <;> split <;> simp <;> omega

theorem op_size {k lv : Nat} (h : levelN (tx ts k) = lv) (h1 : 1 ≤ lv) : 1 ≤ (tk ts k).text.size := by
  cases ht : tx ts k with
  | nil => rw [ht] at h; have : levelN [] = 0 := rfl; omega
  | cons c l => rw [tx_size ht]; simp

theorem ex_inv (hw : Wds ts) (f : Nat) :
    (∀ lv deep k x k', 1 ≤ lv → lv ≤ 6 → twoP ts f lv deep k = .ok x k' → GoodEx x ∧ need x lv + deep ≤ 8 ∧ ws ts k + (exK x lv).length ≤ ws ts k') ∧
    (∀ lv deep p y k x k' w0, 1 ≤ lv → lv ≤ 5 → loopP ts f lv deep p y k = .ok x k' → GoodEx y → need y lv + deep ≤ 8 → w0 + (exK y lv).length ≤ ws ts k → GoodEx x ∧ need x lv + deep ≤ 8 ∧ w0 + (exK x lv).length ≤ ws ts k') ∧
    (∀ deep k x k', oneP ts f deep k = .ok x k' → GoodEx x ∧ need x 6 + deep ≤ 8 ∧ ws ts k + (exK x 6).length ≤ ws ts k') := by
  induction f with
  | zero =>
    refine ⟨fun _ _ _ _ _ _ _ h => ?_, fun _ _ _ _ _ _ _ _ _ _ h => ?_, fun _ _ _ _ h => ?_⟩
    · simp only [twoP] at h; cases h
    · simp only [loopP] at h; cases h
    · simp only [oneP] at h; cases h
  | succ f ih =>
    obtain ⟨i2, iL, i1⟩ := ih
    refine ⟨fun lv deep k x k' h1 h6 h => ?_, fun lv deep p y k x k' w0 h1 h5 h hg hn hl => ?_, fun deep k x k' h => ?_⟩
    · simp only [twoP] at h
      split at h
      · rename_i e
        subst e
        exact i1 _ _ _ _ h
      · rename_i e
        obtain ⟨y, k1, e1, e2⟩ := bind_ok h
        obtain ⟨g1, g2, g3⟩ := i2 _ _ _ _ _ (by omega) (by omega) e1
        exact iL _ _ _ _ _ _ _ (ws ts k) h1 (by omega) e2 g1 (by have := need_mono y (show lv ≤ lv + 1 by omega); omega) (by have := len_mono y (show lv ≤ lv + 1 by omega); omega)
    · simp only [loopP] at h
      split at h
      · rename_i e
        obtain ⟨z, k1, e1, e2⟩ := bind_ok h
        obtain ⟨g1, g2, g3⟩ := i2 _ _ _ _ _ (by omega) (by omega) e1
        have hsz := op_size e h1
        have hlv : levelN (tk ts k).text.toList = lv := e
        rw [ws_succ] at g3
        refine iL _ _ _ _ _ _ _ w0 h1 h5 e2 ⟨by rw [hlv]; exact h1, hg, g1⟩ ?_ ?_
        · simp only [need, hlv, if_neg (Nat.lt_irrefl lv)]
          omega
        · simp only [exK, hlv, if_neg (Nat.lt_irrefl lv), List.length_append, List.length_cons, List.length_nil]
          omega
      · cases h
        exact ⟨hg, hn, hl⟩
    · simp only [oneP] at h
      split at h
      · cases h
      · rename_i hd
        split at h
        · rename_i e
          rw [beq_iff_eq] at e
          obtain ⟨y, k1, e1, e2⟩ := bind_ok h
          cases e2
          obtain ⟨g1, g2, g3⟩ := i1 _ _ _ _ e1
          rw [ws_succ, tx_size e] at g3
          refine ⟨g1, by simp only [need]; omega, ?_⟩
          simp only [exK, List.length_append, List.length_cons, List.length_nil] at g3 ⊢
          omega
        · split at h
          · rename_i e
            rw [beq_iff_eq] at e
            obtain ⟨y, k1, e1, e2⟩ := bind_ok h
            obtain ⟨u, k2, e3, e4⟩ := bind_ok e2
            cases e4
            obtain ⟨g1, g2, g3⟩ := i2 _ _ _ _ _ (by omega) (by omega) e1
            rw [ws_succ, tx_size e] at g3
            have g4 := want_inv e3
            have := need_par x 6 1
            have := len_par x 6 1
            simp only [List.length_cons, List.length_nil] at g3 g4
            exact ⟨g1, by omega, by omega⟩
          · split at h
            · rename_i e
              rw [beq_iff_eq] at e
              cases h
              refine ⟨.inl ⟨rfl, Nat.le_refl _⟩, by simp only [need]; omega, ?_⟩
              rw [ws_succ, tx_size e]
              simp only [exK, List.length_cons, List.length_nil]; omega
            · split at h
              · rename_i e
                rw [beq_iff_eq] at e
                cases h
                refine ⟨.inl ⟨rfl, by omega⟩, by simp only [need]; omega, ?_⟩
                rw [ws_succ, tx_size e]
                simp only [exK, List.length_cons, List.length_nil]; omega
              · split at h
                · obtain ⟨n, k1, e1, e2⟩ := bind_ok h
                  cases e2
                  obtain ⟨g1, g2⟩ := byte_inv hw e1
                  refine ⟨.inr ⟨rfl, g1⟩, by simp only [need]; omega, ?_⟩
                  simp only [exK, List.length_cons, List.length_nil]; omega
                · obtain ⟨s, k1, e1, e2⟩ := bind_ok h
                  obtain ⟨g1, g2⟩ := name_inv hw e1
                  split at e2
                  · rename_i e
                    rw [beq_iff_eq] at e
                    obtain ⟨g, k2, e3, e4⟩ := bind_ok e2
                    cases e4
                    obtain ⟨g3, g4⟩ := name_inv hw e3
                    rw [ws_succ, tx_size e] at g4
                    refine ⟨⟨g1, g3⟩, by simp only [need]; omega, ?_⟩
                    simp only [exK, List.length_cons, List.length_nil] at g4 ⊢; omega
                  · cases e2
                    refine ⟨g1, by simp only [need]; omega, ?_⟩
                    simp only [exK, List.length_cons, List.length_nil]; omega
theorem two_inv (hw : Wds ts) {f k k' : Nat} {x : Ex} (h : twoP ts f 1 0 k = .ok x k') : GoodX x ∧ ws ts k + (exK x 1).length ≤ ws ts k' := by
  obtain ⟨g1, g2, g3⟩ := (ex_inv hw f).1 _ _ _ _ _ (by omega) (by omega) h
  exact ⟨⟨g1, by omega⟩, g3⟩

theorem argsK_snoc : ∀ (l : List Ex) (x : Ex), (argsK (l ++ [x])).length = (argsK l).length + (exK x 1).length + 1
  | [], x => by simp [argsK]
  | y :: l, x => by simp only [List.cons_append, argsK, List.length_append, argsK_snoc l x, List.length_cons, List.length_nil]; omega
theorem args_inv (hw : Wds ts) : ∀ (f : Nat) {k k' : Nat} {acc : List Ex} {r : List Ex × Nat} (w0 : Nat), argsP ts f k acc = .ok r k' → (∀ x ∈ acc, GoodX x) → w0 + (argsK acc).length ≤ ws ts k →
    (∀ x ∈ r.1, GoodX x) ∧ r.2 ≤ 255 ∧ w0 + (argsK r.1).length + 1 ≤ ws ts k' + 2 ∧ w0 + 1 ≤ ws ts k'
  | 0, _, _, _, _, _, h, _, _ => by simp only [argsP] at h; cases h
  | f + 1, k, k', acc, r, w0, h, hg, hl => by
    simp only [argsP] at h
    split at h
    · obtain ⟨n, k1, e1, e2⟩ := bind_ok h
      cases e2
      obtain ⟨g1, g2⟩ := byte_inv hw e1
      refine ⟨hg, g1, ?_, ?_⟩
      · dsimp only; omega
      · omega
    · obtain ⟨x, k1, e1, e2⟩ := bind_ok h
      obtain ⟨g1, g2⟩ := two_inv hw e1
      have hp := exK_pos x 1
      have hall : ∀ y ∈ acc ++ [x], GoodX y := by
        intro y hy
        rcases List.mem_append.1 hy with h | h
        · exact hg y h
        · rw [List.mem_singleton] at h; rw [h]; exact g1
      split at e2
      · rename_i e
        rw [beq_iff_eq] at e
        exact args_inv hw f w0 e2 hall (by rw [argsK_snoc, ws_succ, tx_size e]; simp only [List.length_cons, List.length_nil]; omega)
      · cases e2
        refine ⟨hall, Nat.zero_le _, ?_, ?_⟩
        · dsimp only; rw [argsK_snoc]; omega
        · omega

theorem act_inv (hw : Wds ts) {f k k' : Nat} {s : St} (h : actP ts f k = .ok s k') : GoodSt s ∧ depS s = 0 ∧ 5 * (stK s).length + 7 * ws ts k ≤ 7 * ws ts k' := by
  unfold actP at h
  obtain ⟨n, k1, e1, e2⟩ := bind_ok h
  obtain ⟨g1, g2⟩ := name_inv hw e1
  split at e2
  · rename_i e
    rw [beq_iff_eq] at e
    obtain ⟨x, k2, e3, e4⟩ := bind_ok e2
    obtain ⟨u, k3, e5, e6⟩ := bind_ok e4
    cases e6
    obtain ⟨g3, g4⟩ := two_inv hw e3
    have g5 := want_inv e5
    rw [ws_succ, tx_size e] at g4
    simp only [List.length_cons, List.length_nil] at g4 g5
    refine ⟨by simp only [GoodSt]; exact ⟨g1, g3⟩, by simp only [depS], ?_⟩
    simp only [stK, List.length_append, List.length_cons, List.length_nil]
    omega
  · obtain ⟨u, k2, e3, e4⟩ := bind_ok e2
    obtain ⟨r, k3, e5, e6⟩ := bind_ok e4
    obtain ⟨u2, k4, e7, e8⟩ := bind_ok e6
    obtain ⟨u3, k5, e9, e10⟩ := bind_ok e8
    cases e10
    obtain ⟨g3, g4, g5, g6⟩ := args_inv hw f (ws ts k2) e5 (by simp) (by simp [argsK])
    have w1 := want_inv e3
    have w2 := want_inv e7
    have w3 := want_inv e9
    simp only [List.length_cons, List.length_nil] at w1 w2 w3
    refine ⟨by simp only [GoodSt]; exact ⟨g1, g3, g4⟩, by simp only [depS], ?_⟩
    simp only [stK, List.length_append, List.length_cons, List.length_nil]
    omega

theorem stsK_snoc : ∀ (l : List St) (s : St), (stsK (l ++ [s])).length = (stsK l).length + (stK s).length
  | [], s => by simp [stsK]
  | y :: l, s => by simp only [List.cons_append, stsK, List.length_append, stsK_snoc l s]; omega
theorem cond_len (p : Nat) (x : Ex) (th el : List St) : (stK (.cond p x th el)).length ≤ (exK x 1).length + (stsK th).length + (stsK el).length + 5 := by
  cases el with
  | nil => simp only [stK, stsK, List.length_append, List.length_cons, List.length_nil]; omega
  | cons s l => simp only [stK, List.length_append, List.length_cons, List.length_nil]; omega

theorem st_inv (hw : Wds ts) (f : Nat) :
    (∀ deep k acc l k' w0, deep ≤ 8 → stmtsP ts f deep k acc = .ok l k' → GoodL acc → depL acc + deep ≤ 8 → 5 * (stsK acc).length + 7 * w0 ≤ 7 * ws ts k → GoodL l ∧ depL l + deep ≤ 8 ∧ 5 * (stsK l).length + 7 * w0 ≤ 7 * ws ts k') ∧
    (∀ deep k s k', branchP ts f deep k = .ok s k' → GoodSt s ∧ depS s + deep ≤ 8 ∧ 5 * (stK s).length + 7 * ws ts (k + 1) ≤ 7 * ws ts k') := by
  induction f with
  | zero =>
    refine ⟨fun _ _ _ _ _ _ _ h => ?_, fun _ _ _ _ h => ?_⟩
    · simp only [stmtsP] at h; cases h
    · simp only [branchP] at h; cases h
  | succ f ih =>
    obtain ⟨iS, iB⟩ := ih
    refine ⟨fun deep k acc l k' w0 hd h hg hn hl => ?_, fun deep k s k' h => ?_⟩
    · simp only [stmtsP] at h
      split at h
      · rename_i e
        obtain ⟨s, k1, e1, e2⟩ := bind_ok h
        obtain ⟨g1, g2, g3⟩ := iB _ _ _ _ e1
        rw [ws_succ] at g3
        refine iS _ _ _ _ _ w0 hd e2 ((GoodL_append acc [s]).2 ⟨hg, by simp only [GoodL]; exact ⟨g1, trivial⟩⟩) (by rw [depL_append]; simp only [depL]; omega) (by rw [stsK_snoc]; omega)
      · split at h
        · obtain ⟨s, k1, e1, e2⟩ := bind_ok h
          obtain ⟨g1, g2, g3⟩ := act_inv hw e1
          refine iS _ _ _ _ _ w0 hd e2 ((GoodL_append acc [s]).2 ⟨hg, by simp only [GoodL]; exact ⟨g1, trivial⟩⟩) (by rw [depL_append]; simp only [depL]; omega) (by rw [stsK_snoc]; omega)
        · cases h
          exact ⟨hg, hn, hl⟩
    · simp only [branchP] at h
      split at h
      · cases h
      · rename_i hd
        obtain ⟨x, k1, e1, e2⟩ := bind_ok h
        obtain ⟨u, k2, e3, e4⟩ := bind_ok e2
        obtain ⟨th, k3, e5, e6⟩ := bind_ok e4
        obtain ⟨g1, g2⟩ := two_inv hw e1
        have w1 := want_inv e3
        obtain ⟨t1, t2, t3⟩ := iS _ _ _ _ _ (ws ts k2) (by omega) e5 (by simp only [GoodL]) (by simp only [depL]; omega) (by simp [stsK])
        simp only [List.length_cons, List.length_nil] at w1
        split at e6
        · rename_i e
          rw [beq_iff_eq] at e
          obtain ⟨s1, k4, e7, e8⟩ := bind_ok e6
          cases e8
          obtain ⟨b1, b2, b3⟩ := iB _ _ _ _ e7
          rw [ws_succ ts k3, tx_size e] at b3
          simp only [List.length_cons, List.length_nil] at b3
          have hc := cond_len (tk ts k).pos x th [s1]
          have hs : (stsK [s1]).length = (stK s1).length := by simp [stsK]
          refine ⟨by simp only [GoodSt, GoodL]; exact ⟨g1, t1, b1, trivial⟩, by simp only [depS, depL]; omega, by omega⟩
        · obtain ⟨el, k4, e7, e8⟩ := bind_ok e6
          obtain ⟨u2, k5, e9, e10⟩ := bind_ok e8
          obtain ⟨u3, k6, e11, e12⟩ := bind_ok e10
          cases e12
          have w2 := want_inv e9
          have w3 := want_inv e11
          simp only [List.length_cons, List.length_nil] at w2 w3
          have hel : GoodL el ∧ depL el + (deep + 1) ≤ 8 ∧ 5 * (stsK el).length + 7 * ws ts k3 ≤ 7 * ws ts k4 := by
            split at e7
            · rename_i e
              rw [beq_iff_eq] at e
              obtain ⟨t4, t5, t6⟩ := iS _ _ _ _ _ (ws ts (k3 + 1)) (by omega) e7 (by simp only [GoodL]) (by simp only [depL]; omega) (by simp [stsK])
              rw [ws_succ, tx_size e] at t6
              simp only [List.length_cons, List.length_nil] at t6
              exact ⟨t4, t5, by omega⟩
            · cases e7
              exact ⟨by simp only [GoodL], by simp only [depL]; omega, by simp [stsK]⟩
          have hc := cond_len (tk ts k).pos x th el
          refine ⟨by simp only [GoodSt]; exact ⟨g1, t1, hel.1⟩, by simp only [depS]; omega, by omega⟩

theorem way_cases2 {s : List UInt8} (h : wayN s ≠ 0) : 1 ≤ wayN s ∧ wayN s ≤ 3 ∧ 2 ≤ s.length := by
  unfold wayN at h ⊢
  repeat' split at h
  · rename_i e; rw [beq_iff_eq] at e; subst e; decide
  · rename_i e; rw [beq_iff_eq] at e; subst e; decide
  · rename_i e; rw [beq_iff_eq] at e; subst e; decide
  · exact absurd rfl h
theorem blk_cases2 {s : List UInt8} (h : blkN s ≠ 0) : 3 ≤ blkN s ∧ blkN s ≤ 5 ∧ 4 ≤ s.length := by
  unfold blkN at h ⊢
  repeat' split at h
  · rename_i e; rw [beq_iff_eq] at e; subst e; decide
  · rename_i e; rw [beq_iff_eq] at e; subst e; decide
  · rename_i e; rw [beq_iff_eq] at e; subst e; decide
  · exact absurd rfl h
theorem kind_inv {k k' ty : Nat} (h : kindP ts k = .ok ty k') : 1 ≤ ty ∧ ty ≤ 2 ∧ ws ts k + 4 ≤ ws ts k' := by
  unfold kindP at h
  split at h
  · rename_i e
    rw [beq_iff_eq] at e
    cases h
    rw [ws_succ, tx_size e]
    exact ⟨by omega, by omega, by simp⟩
  · obtain ⟨u, k1, e1, e2⟩ := bind_ok h
    cases e2
    have := want_inv e1
    simp only [List.length_cons, List.length_nil] at this
    exact ⟨by omega, by omega, by omega⟩
theorem first_inv (hw : Wds ts) {k k' ty n : Nat} (h : firstP ts ty k = .ok n k') : (ty ≠ 2 → n ≤ 1) ∧ n ≤ 255 ∧ ws ts k ≤ ws ts k' := by
  unfold firstP at h
  split at h
  · split at h
    · rename_i e1 e
      obtain ⟨g1, g2⟩ := byte_inv hw h
      rw [ws_succ] at g2
      exact ⟨fun h => absurd e h, g1, by omega⟩
    · split at h
      · cases h
        refine ⟨fun _ => Nat.le_refl _, by omega, ?_⟩
        rw [show k + 2 = k + 1 + 1 from rfl, ws_succ, ws_succ]; omega
      · obtain ⟨u, k1, e1, e2⟩ := bind_ok h
        cases e2
        have := want_inv e1
        rw [ws_succ] at this
        exact ⟨fun _ => by omega, by omega, by omega⟩
  · cases h
    exact ⟨fun _ => by omega, by omega, Nat.le_refl _⟩
theorem lineK_len (d : De) : (lineK d).length ≤ 7 := by
  unfold lineK
  simp only [List.length_append]
  split <;> split <;> simp
theorem decl_inv (hw : Wds ts) {k k' : Nat} {d : De} (hc : wayN (tx ts k) ≠ 0 ∨ blkN (tx ts k) ≠ 0) (h : declP ts k = .ok d k') : GoodD d ∧ ws ts k + 5 ≤ ws ts k' := by
  unfold declP at h
  obtain ⟨s, k1, e1, e2⟩ := bind_ok h
  obtain ⟨g1, g2⟩ := name_inv hw e1
  rw [ws_succ] at g2
  have hz : (tk ts k).text.size = (tx ts k).length := tx_size rfl
  split at e2
  · rename_i hb
    obtain ⟨u, k2, e3, e4⟩ := bind_ok e2
    cases e4
    have w1 := want_inv e3
    have b := blk_cases2 hb
    simp only [List.length_cons, List.length_nil] at w1
    exact ⟨⟨g1, .inl ⟨b.1, b.2.1, rfl, rfl⟩⟩, by omega⟩
  · rename_i hb
    have hwn : wayN (tx ts k) ≠ 0 := by
      rcases hc with h | h
      · exact h
      · exact absurd h hb
    have b := way_cases2 hwn
    obtain ⟨u, k2, e3, e4⟩ := bind_ok e2
    obtain ⟨ty, k3, e5, e6⟩ := bind_ok e4
    have w1 := want_inv e3
    obtain ⟨t1, t2, t3⟩ := kind_inv e5
    simp only [List.length_cons, List.length_nil] at w1
    split at e6
    · rename_i hw1
      obtain ⟨n, k4, e7, e8⟩ := bind_ok e6
      obtain ⟨u2, k5, e9, e10⟩ := bind_ok e8
      cases e10
      obtain ⟨f1, f2, f3⟩ := first_inv hw e7
      have w2 := want_inv e9
      exact ⟨⟨g1, .inr ⟨b.1, b.2.1, t1, t2, fun e => absurd e hw1, fun e => f1 (by dsimp only at e; omega), f2⟩⟩, by omega⟩
    · obtain ⟨u2, k5, e9, e10⟩ := bind_ok e6
      cases e10
      have w2 := want_inv e9
      exact ⟨⟨g1, .inr ⟨b.1, b.2.1, t1, t2, fun _ => rfl, fun _ => by dsimp only; omega, by dsimp only; omega⟩⟩, by omega⟩
theorem linesK_snoc : ∀ (l : List De) (d : De), (linesK (l ++ [d])).length = (linesK l).length + (lineK d).length
  | [], d => by simp [linesK]
  | y :: l, d => by simp only [List.cons_append, linesK, List.length_append, linesK_snoc l d]; omega
theorem decls_inv (hw : Wds ts) : ∀ (f : Nat) {k k' : Nat} {acc l : List De} (w0 : Nat), declsP ts f k acc = .ok l k' → (∀ d ∈ acc, GoodD d) → acc.length ≤ 20 → 5 * (linesK acc).length + 7 * w0 ≤ 7 * ws ts k →
    (∀ d ∈ l, GoodD d) ∧ l.length ≤ 20 ∧ 5 * (linesK l).length + 7 * w0 ≤ 7 * ws ts k'
  | 0, _, _, _, _, _, h, _, _, _ => by simp only [declsP] at h; cases h
  | f + 1, k, k', acc, l, w0, h, hg, hl, hn => by
    simp only [declsP] at h
    split at h
    · rename_i hc
      obtain ⟨d, k1, e1, e2⟩ := bind_ok h
      obtain ⟨g1, g2⟩ := decl_inv hw hc e1
      split at e2
      · cases e2
      · have := lineK_len d
        refine decls_inv hw f w0 e2 (fun y hy => ?_) (by simp; omega) (by rw [linesK_snoc]; omega)
        rcases List.mem_append.1 hy with h | h
        · exact hg y h
        · rw [List.mem_singleton] at h; rw [h]; exact g1
    · cases h
      exact ⟨hg, hl, hn⟩
theorem prog_inv (hw : Wds ts) {f k' : Nat} {p : List De × List St} (h : progP ts f = .ok p k') : GoodPr p ∧ 5 * (printK p).length ≤ 7 * ws ts k' := by
  unfold progP at h
  obtain ⟨ds, k1, e1, e2⟩ := bind_ok h
  obtain ⟨u, k2, e3, e4⟩ := bind_ok e2
  obtain ⟨b, k3, e5, e6⟩ := bind_ok e4
  obtain ⟨u2, k4, e7, e8⟩ := bind_ok e6
  cases e8
  obtain ⟨d1, d2, d3⟩ := decls_inv hw f 0 e1 (by simp) (by simp) (by simp [linesK])
  have w1 := want_inv e3
  obtain ⟨t1, t2, t3⟩ := (st_inv hw f).1 _ _ _ _ _ (ws ts k2) (by omega) e5 (by simp only [GoodL]) (by simp only [depL]; omega) (by simp [stsK])
  have w2 := want_inv e7
  simp only [List.length_cons, List.length_nil] at w1 w2
  refine ⟨⟨d1, d2, t1, by simpa using t2⟩, ?_⟩
  simp only [printK, List.length_append, List.length_cons, List.length_nil]
  omega
end
end Go.Proofs.YtgncgbngjdcpgaaGreatDoor
