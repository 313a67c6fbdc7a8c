/-
  CONTRACTS of value.Result and value.Two: for every text and every number, each returns its plain function and leaves the world as it was.
-/
import Derived.Test.YtmoakccnjahfeaaLeaf
namespace Go.Proofs.Ytmoakccnjahfeaa
open Go.RowKit

theorem resI_ne (op : List UInt8) (a b : Int) (h : a ≠ b) : resI op a b = 0 := by simp [resI, h]
theorem resI_none (op : List UInt8) (a b : Int) (h1 : (a == 1) = false) (h2 : (a == 2) = false) : resI op a b = 0 := by
  simp at h1 h2; simp [resI, h1, h2]
theorem resI_other (op : ByteArray) (a b : Int) (h1 : (op.toList == [97, 110, 100]) = false) (h2 : (op.toList == [111, 114]) = false) (h3 : (op.toList == [120, 111, 114]) = false) (h4 : (op.toList == [61]) = false) (h5 : (op.toList == [60, 62]) = false) (h6 : (op.toList == [60]) = false) (h7 : (op.toList == [60, 61]) = false) (h8 : (op.toList == [62]) = false) (h9 : (op.toList == [62, 61]) = false) (h10 : (op.toList == [43]) = false) (h11 : (op.toList == [45]) = false) :
    resI op.data.toList a b = 0 := by
  rw [ByteArray.toList_eq] at *
  rw [beq_eq_false_iff_ne] at *
  simp [resI, *]

set_option maxHeartbeats 2000000 in
theorem result_any (op : ByteArray) (a b : Int) (w : World) :
    Calls Try.prog 15 #[.string op, .int .i64 a, .int .i64 b] w fun e w' => e = .returned (.int .i64 (resI op.data.toList a b)) ∧ w' = w := by
  by_cases hab : a = b
  · subst hab
    rcases mod_cases a with ⟨rfl, hm⟩ | ⟨rfl, hm⟩ | ⟨e1, e2, hm⟩
    · clear hm
      rcases op_cases op with hm | ⟨h1, h2, h3, h4, h5, h6, h7, h8, h9, h10, h11⟩
      · rcases hm with rfl | rfl | rfl | rfl | rfl | rfl | rfl | rfl | rfl | rfl | rfl
        all_goals
          go_enter Try.func15, Try.ntmps15
          go_wp2
          go_ret
          exact ⟨rfl, rfl⟩
      · rw [resI_other op 1 1 h1 h2 h3 h4 h5 h6 h7 h8 h9 h10 h11]
        go_enter Try.func15, Try.ntmps15
        go_wp2
        go_ret
        exact ⟨rfl, rfl⟩
    · clear hm
      rcases op_cases op with hm | ⟨h1, h2, h3, h4, h5, h6, h7, h8, h9, h10, h11⟩
      · rcases hm with rfl | rfl | rfl | rfl | rfl | rfl | rfl | rfl | rfl | rfl | rfl
        all_goals
          go_enter Try.func15, Try.ntmps15
          go_wp2
          go_ret
          exact ⟨rfl, rfl⟩
      · rw [resI_other op 2 2 h1 h2 h3 h4 h5 h6 h7 h8 h9 h10 h11]
        go_enter Try.func15, Try.ntmps15
        go_wp2
        go_ret
        exact ⟨rfl, rfl⟩
    · rw [resI_none _ a a e1 e2]
      clear hm
      go_enter Try.func15, Try.ntmps15
      go_wp2
      go_ret
      exact ⟨rfl, rfl⟩
  · rw [resI_ne _ a b hab]
    have hne : (a != b) = true := by simp [hab]
    clear hab
    go_enter Try.func15, Try.ntmps15
    go_wp2
    go_ret
    exact ⟨rfl, rfl⟩


theorem and_cut (k a b : Int) : bits .and .i64 (cutI k a) (cutI k b) = (((cutI k a).toNat &&& (cutI k b).toNat : Nat) : Int) := by
  have h1 := cutI_bd k a
  have h2 := cutI_bd k b
  have e1 : cutI k a = ((cutI k a).toNat : Int) := by omega
  have e2 : cutI k b = ((cutI k b).toNat : Int) := by omega
  rw [e1, e2]; simp only [Int.toNat_natCast]; exact i64_and _ _ (by omega) (by omega)
theorem or_cut (k a b : Int) : bits .or .i64 (cutI k a) (cutI k b) = (((cutI k a).toNat ||| (cutI k b).toNat : Nat) : Int) := by
  have h1 := cutI_bd k a
  have h2 := cutI_bd k b
  have e1 : cutI k a = ((cutI k a).toNat : Int) := by omega
  have e2 : cutI k b = ((cutI k b).toNat : Int) := by omega
  rw [e1, e2]; simp only [Int.toNat_natCast]; exact i64_or _ _ (by omega) (by omega)
theorem xor_cut (k a b : Int) : bits .xor .i64 (cutI k a) (cutI k b) = (((cutI k a).toNat ^^^ (cutI k b).toNat : Nat) : Int) := by
  have h1 := cutI_bd k a
  have h2 := cutI_bd k b
  have e1 : cutI k a = ((cutI k a).toNat : Int) := by omega
  have e2 : cutI k b = ((cutI k b).toNat : Int) := by omega
  rw [e1, e2]; simp only [Int.toNat_natCast]; exact i64_xor _ _ (by omega) (by omega)
theorem cut_nat (k a : Int) : ((cutI k a).toNat : Int) = cutI k a := by have := cutI_bd k a; omega

/-- a mark that may be, of a type, by its bytes -/
theorem twoI_yes (op : List UInt8) (k a b : Int) (h : resI op k k ≠ 0) : twoI op k a b = mark op k (cutI k a).toNat (cutI k b).toNat := by
  unfold twoI; rw [if_neg h]
theorem twoI_no (op : List UInt8) (k a b : Int) (h : resI op k k = 0) : twoI op k a b = 0 := by
  unfold twoI; rw [if_pos h]

theorem two_and (k a b : Int) (hk : k = 1 ∨ k = 2) : bits .and .i64 (cutI k a) (cutI k b) = twoI [97, 110, 100] k a b := by
  rw [twoI_yes _ k a b (by rcases hk with rfl | rfl <;> decide), and_cut]; rfl
theorem two_or (k a b : Int) (hk : k = 1 ∨ k = 2) : bits .or .i64 (cutI k a) (cutI k b) = twoI [111, 114] k a b := by
  rw [twoI_yes _ k a b (by rcases hk with rfl | rfl <;> decide), or_cut]; rfl
theorem two_xor (k a b : Int) (hk : k = 1 ∨ k = 2) : bits .xor .i64 (cutI k a) (cutI k b) = twoI [120, 111, 114] k a b := by
  rw [twoI_yes _ k a b (by rcases hk with rfl | rfl <;> decide), xor_cut]; rfl
theorem two_add (a b : Int) : cutI 2 (cutI 2 a + cutI 2 b) = twoI [43] 2 a b := by
  rw [twoI_yes _ 2 a b (by decide)]; show _ = cutI 2 (((cutI 2 a).toNat : Int) + ((cutI 2 b).toNat : Int)); rw [cut_nat, cut_nat]
theorem two_sub (a b : Int) : cutI 2 (cutI 2 a - cutI 2 b) = twoI [45] 2 a b := by
  rw [twoI_yes _ 2 a b (by decide)]; show _ = cutI 2 (((cutI 2 a).toNat : Int) - ((cutI 2 b).toNat : Int)); rw [cut_nat, cut_nat]
theorem two_cmp (op : List UInt8) (k a b : Int) (hop : op = [61] ∨ op = [60, 62] ∨ (k = 2 ∧ (op = [60] ∨ op = [60, 61] ∨ op = [62] ∨ op = [62, 61]))) (hk : k = 1 ∨ k = 2) :
    bitI (holdsB op (cutI k a) (cutI k b)) = twoI op k a b := by
  have hr : resI op k k ≠ 0 := by
    rcases hop with rfl | rfl | ⟨rfl, rfl | rfl | rfl | rfl⟩
    · rcases hk with rfl | rfl <;> decide
    · rcases hk with rfl | rfl <;> decide
    all_goals decide
  rw [twoI_yes _ k a b hr]
  have e : mark op k (cutI k a).toNat (cutI k b).toNat = bitI (holdsB op ((cutI k a).toNat : Int) ((cutI k b).toNat : Int)) := by
    rcases hop with rfl | rfl | ⟨rfl, rfl | rfl | rfl | rfl⟩ <;> rfl
  rw [e, cut_nat, cut_nat]

set_option maxHeartbeats 4000000 in
theorem two_any (op : ByteArray) (k a b : Int) (w : World) :
    Calls Try.prog 17 #[.string op, .int .i64 k, .int .i64 a, .int .i64 b] w fun e w' => e = .returned (.int .i64 (twoI op.data.toList k a b)) ∧ w' = w := by
  rcases mod_cases k with ⟨rfl, hm⟩ | ⟨rfl, hm⟩ | ⟨e1, e2, hm⟩
  · clear hm
    have ha0 := (cutI_bd 1 a).1
    have ha1 := (cutI_bd 1 a).2.2
    have hb0 := (cutI_bd 1 b).1
    have hb1 := (cutI_bd 1 b).2.2
    rcases op_cases op with hm | ⟨h1, h2, h3, h4, h5, h6, h7, h8, h9, h10, h11⟩
    · rcases hm with rfl | rfl | rfl | rfl | rfl | rfl | rfl | rfl | rfl | rfl | rfl
      all_goals
        go_enter Try.func17, Try.ntmps17
        go_wp2_with (first | (go_at_call 8; refine (cut_any _ _ _).mono ?_; rintro e w' ⟨rfl, rfl⟩) | (go_at_call 31; refine (holds_any _ _ _ _).mono ?_; rintro e w' ⟨rfl, rfl⟩) | (go_at_call 27; refine (bit_any _ _).mono ?_; rintro e w' ⟨rfl, rfl⟩) | go_in)
        go_ret
        refine ⟨ret_int ?_, rfl⟩
      · exact two_and 1 a b (.inl rfl)
      · exact two_or 1 a b (.inl rfl)
      · exact two_xor 1 a b (.inl rfl)
      · exact two_cmp _ 1 a b (.inl rfl) (.inl rfl)
      · exact two_cmp _ 1 a b (.inr (.inl rfl)) (.inl rfl)
      all_goals exact (twoI_no _ 1 a b (by decide)).symm
    · rw [twoI_no _ 1 a b (resI_other op 1 1 h1 h2 h3 h4 h5 h6 h7 h8 h9 h10 h11)]
      go_enter Try.func17, Try.ntmps17
      go_wp2
      go_ret
      exact ⟨rfl, rfl⟩
  · clear hm
    have ha0 := (cutI_bd 2 a).1
    have ha1 := (cutI_bd 2 a).2.2
    have hb0 := (cutI_bd 2 b).1
    have hb1 := (cutI_bd 2 b).2.2
    rcases op_cases op with hm | ⟨h1, h2, h3, h4, h5, h6, h7, h8, h9, h10, h11⟩
    · rcases hm with rfl | rfl | rfl | rfl | rfl | rfl | rfl | rfl | rfl | rfl | rfl
      all_goals
        go_enter Try.func17, Try.ntmps17
        go_wp2_with (first | (go_at_call 8; refine (cut_any _ _ _).mono ?_; rintro e w' ⟨rfl, rfl⟩) | (go_at_call 31; refine (holds_any _ _ _ _).mono ?_; rintro e w' ⟨rfl, rfl⟩) | (go_at_call 27; refine (bit_any _ _).mono ?_; rintro e w' ⟨rfl, rfl⟩) | go_in)
        go_ret
        refine ⟨ret_int ?_, rfl⟩
      · exact two_and 2 a b (.inr rfl)
      · exact two_or 2 a b (.inr rfl)
      · exact two_xor 2 a b (.inr rfl)
      · exact two_cmp _ 2 a b (.inl rfl) (.inr rfl)
      · exact two_cmp _ 2 a b (.inr (.inl rfl)) (.inr rfl)
      · exact two_cmp _ 2 a b (.inr (.inr ⟨rfl, .inl rfl⟩)) (.inr rfl)
      · exact two_cmp _ 2 a b (.inr (.inr ⟨rfl, .inr (.inl rfl)⟩)) (.inr rfl)
      · exact two_cmp _ 2 a b (.inr (.inr ⟨rfl, .inr (.inr (.inl rfl))⟩)) (.inr rfl)
      · exact two_cmp _ 2 a b (.inr (.inr ⟨rfl, .inr (.inr (.inr rfl))⟩)) (.inr rfl)
      · exact two_add a b
      · exact two_sub a b
    · rw [twoI_no _ 2 a b (resI_other op 2 2 h1 h2 h3 h4 h5 h6 h7 h8 h9 h10 h11)]
      go_enter Try.func17, Try.ntmps17
      go_wp2
      go_ret
      exact ⟨rfl, rfl⟩
  · rw [twoI_no _ k a b (resI_none _ k k e1 e2)]
    clear hm
    go_enter Try.func17, Try.ntmps17
    go_wp2
    go_ret
    exact ⟨rfl, rfl⟩

end Go.Proofs.Ytmoakccnjahfeaa
