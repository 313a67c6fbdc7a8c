/-
  CONTRACT of the document's own answer for Two (package rungworkref): for every text of at most 20 bytes, every type and every two numbers it returns what value.Two returns.
-/
import Derived.Test.YtmoakccnjahfeaaRCmp
namespace Go.Proofs.Ytmoakccnjahfeaa
open Go.RowKit

theorem rtwo_at {op : ByteArray} {k a b r : Int} {w : World} (h : Calls Try.prog 18 #[.string op, .int .i64 k, .int .i64 a, .int .i64 b] w fun e w' => e = .returned (.int .i64 r) ∧ Below w.heap.size w w') (hr : r = twoI op.data.toList k a b) :
    Calls Try.prog 18 #[.string op, .int .i64 k, .int .i64 a, .int .i64 b] w fun e w' => e = .returned (.int .i64 (twoI op.data.toList k a b)) ∧ Below w.heap.size w w' := by
  rw [← hr]; exact h

theorem rtwo1_eq (a b m : Int) (w : World) (hm : w.cell? ⟨0, 0, none⟩ = some (.int .i64 m)) (ha : -9223372036854775808 ≤ a ∧ a ≤ 9223372036854775807) (hb : -9223372036854775808 ≤ b ∧ b ≤ 9223372036854775807) :
    Calls Try.prog 18 #[.string ⟨#[61]⟩, .int .i64 1, .int .i64 a, .int .i64 b] w fun e w' => e = .returned (.int .i64 (twoI [61] 1 a b)) ∧ Below w.heap.size w w' := by
  have c1 := cutI_bd 1 a
  have c2 := cutI_bd 1 b
  have e := two_cmp [61] 1 a b (.inl rfl) (.inl rfl)
  cases h : (cutI 1 a == cutI 1 b)
  · have e0 : twoI [61] 1 a b = 0 := by rw [← e]; show bitI (cutI 1 a == cutI 1 b) = 0; rw [h]; rfl
    rw [e0]
    exact rtwo_eq_false 1 a b m w hm (.inl rfl) 1 rfl (by decide) (by decide) ha.1 ha.2 hb.1 hb.2 _ _ rfl rfl c1.1 c1.2.2 c2.1 c2.2.2 h
  · have e1 : twoI [61] 1 a b = 1 := by rw [← e]; show bitI (cutI 1 a == cutI 1 b) = 1; rw [h]; rfl
    rw [e1]
    exact rtwo_eq_true 1 a b m w hm (.inl rfl) 1 rfl (by decide) (by decide) ha.1 ha.2 hb.1 hb.2 _ _ rfl rfl c1.1 c1.2.2 c2.1 c2.2.2 h
theorem rtwo1_ne (a b m : Int) (w : World) (hm : w.cell? ⟨0, 0, none⟩ = some (.int .i64 m)) (ha : -9223372036854775808 ≤ a ∧ a ≤ 9223372036854775807) (hb : -9223372036854775808 ≤ b ∧ b ≤ 9223372036854775807) :
    Calls Try.prog 18 #[.string ⟨#[60, 62]⟩, .int .i64 1, .int .i64 a, .int .i64 b] w fun e w' => e = .returned (.int .i64 (twoI [60, 62] 1 a b)) ∧ Below w.heap.size w w' := by
  have c1 := cutI_bd 1 a
  have c2 := cutI_bd 1 b
  have e := two_cmp [60, 62] 1 a b (.inr (.inl rfl)) (.inl rfl)
  cases h : (cutI 1 a != cutI 1 b)
  · have e0 : twoI [60, 62] 1 a b = 0 := by rw [← e]; show bitI (cutI 1 a != cutI 1 b) = 0; rw [h]; rfl
    rw [e0]
    exact rtwo_ne_false 1 a b m w hm (.inl rfl) 1 rfl (by decide) (by decide) ha.1 ha.2 hb.1 hb.2 _ _ rfl rfl c1.1 c1.2.2 c2.1 c2.2.2 h
  · have e1 : twoI [60, 62] 1 a b = 1 := by rw [← e]; show bitI (cutI 1 a != cutI 1 b) = 1; rw [h]; rfl
    rw [e1]
    exact rtwo_ne_true 1 a b m w hm (.inl rfl) 1 rfl (by decide) (by decide) ha.1 ha.2 hb.1 hb.2 _ _ rfl rfl c1.1 c1.2.2 c2.1 c2.2.2 h
theorem rtwo2_eq (a b m : Int) (w : World) (hm : w.cell? ⟨0, 0, none⟩ = some (.int .i64 m)) (ha : -9223372036854775808 ≤ a ∧ a ≤ 9223372036854775807) (hb : -9223372036854775808 ≤ b ∧ b ≤ 9223372036854775807) :
    Calls Try.prog 18 #[.string ⟨#[61]⟩, .int .i64 2, .int .i64 a, .int .i64 b] w fun e w' => e = .returned (.int .i64 (twoI [61] 2 a b)) ∧ Below w.heap.size w w' := by
  have c1 := cutI_bd 2 a
  have c2 := cutI_bd 2 b
  have e := two_cmp [61] 2 a b (.inl rfl) (.inr rfl)
  cases h : (cutI 2 a == cutI 2 b)
  · have e0 : twoI [61] 2 a b = 0 := by rw [← e]; show bitI (cutI 2 a == cutI 2 b) = 0; rw [h]; rfl
    rw [e0]
    exact rtwo_eq_false 2 a b m w hm (.inr rfl) 8 rfl (by decide) (by decide) ha.1 ha.2 hb.1 hb.2 _ _ rfl rfl c1.1 c1.2.2 c2.1 c2.2.2 h
  · have e1 : twoI [61] 2 a b = 1 := by rw [← e]; show bitI (cutI 2 a == cutI 2 b) = 1; rw [h]; rfl
    rw [e1]
    exact rtwo_eq_true 2 a b m w hm (.inr rfl) 8 rfl (by decide) (by decide) ha.1 ha.2 hb.1 hb.2 _ _ rfl rfl c1.1 c1.2.2 c2.1 c2.2.2 h
theorem rtwo2_ne (a b m : Int) (w : World) (hm : w.cell? ⟨0, 0, none⟩ = some (.int .i64 m)) (ha : -9223372036854775808 ≤ a ∧ a ≤ 9223372036854775807) (hb : -9223372036854775808 ≤ b ∧ b ≤ 9223372036854775807) :
    Calls Try.prog 18 #[.string ⟨#[60, 62]⟩, .int .i64 2, .int .i64 a, .int .i64 b] w fun e w' => e = .returned (.int .i64 (twoI [60, 62] 2 a b)) ∧ Below w.heap.size w w' := by
  have c1 := cutI_bd 2 a
  have c2 := cutI_bd 2 b
  have e := two_cmp [60, 62] 2 a b (.inr (.inl rfl)) (.inr rfl)
  cases h : (cutI 2 a != cutI 2 b)
  · have e0 : twoI [60, 62] 2 a b = 0 := by rw [← e]; show bitI (cutI 2 a != cutI 2 b) = 0; rw [h]; rfl
    rw [e0]
    exact rtwo_ne_false 2 a b m w hm (.inr rfl) 8 rfl (by decide) (by decide) ha.1 ha.2 hb.1 hb.2 _ _ rfl rfl c1.1 c1.2.2 c2.1 c2.2.2 h
  · have e1 : twoI [60, 62] 2 a b = 1 := by rw [← e]; show bitI (cutI 2 a != cutI 2 b) = 1; rw [h]; rfl
    rw [e1]
    exact rtwo_ne_true 2 a b m w hm (.inr rfl) 8 rfl (by decide) (by decide) ha.1 ha.2 hb.1 hb.2 _ _ rfl rfl c1.1 c1.2.2 c2.1 c2.2.2 h
theorem rtwo2_lt (a b m : Int) (w : World) (hm : w.cell? ⟨0, 0, none⟩ = some (.int .i64 m)) (ha : -9223372036854775808 ≤ a ∧ a ≤ 9223372036854775807) (hb : -9223372036854775808 ≤ b ∧ b ≤ 9223372036854775807) :
    Calls Try.prog 18 #[.string ⟨#[60]⟩, .int .i64 2, .int .i64 a, .int .i64 b] w fun e w' => e = .returned (.int .i64 (twoI [60] 2 a b)) ∧ Below w.heap.size w w' := by
  have c1 := cutI_bd 2 a
  have c2 := cutI_bd 2 b
  have e := two_cmp [60] 2 a b (.inr (.inr ⟨rfl, .inl rfl⟩)) (.inr rfl)
  cases h : (decide (cutI 2 a < cutI 2 b))
  · have e0 : twoI [60] 2 a b = 0 := by rw [← e]; show bitI (decide (cutI 2 a < cutI 2 b)) = 0; rw [h]; rfl
    rw [e0]
    exact rtwo_lt_false a b m w hm 8 rfl (by decide) (by decide) ha.1 ha.2 hb.1 hb.2 _ _ rfl rfl c1.1 c1.2.2 c2.1 c2.2.2 h
  · have e1 : twoI [60] 2 a b = 1 := by rw [← e]; show bitI (decide (cutI 2 a < cutI 2 b)) = 1; rw [h]; rfl
    rw [e1]
    exact rtwo_lt_true a b m w hm 8 rfl (by decide) (by decide) ha.1 ha.2 hb.1 hb.2 _ _ rfl rfl c1.1 c1.2.2 c2.1 c2.2.2 h
theorem rtwo2_le (a b m : Int) (w : World) (hm : w.cell? ⟨0, 0, none⟩ = some (.int .i64 m)) (ha : -9223372036854775808 ≤ a ∧ a ≤ 9223372036854775807) (hb : -9223372036854775808 ≤ b ∧ b ≤ 9223372036854775807) :
    Calls Try.prog 18 #[.string ⟨#[60, 61]⟩, .int .i64 2, .int .i64 a, .int .i64 b] w fun e w' => e = .returned (.int .i64 (twoI [60, 61] 2 a b)) ∧ Below w.heap.size w w' := by
  have c1 := cutI_bd 2 a
  have c2 := cutI_bd 2 b
  have e := two_cmp [60, 61] 2 a b (.inr (.inr ⟨rfl, .inr (.inl rfl)⟩)) (.inr rfl)
  cases h : (decide (cutI 2 a ≤ cutI 2 b))
  · have e0 : twoI [60, 61] 2 a b = 0 := by rw [← e]; show bitI (decide (cutI 2 a ≤ cutI 2 b)) = 0; rw [h]; rfl
    rw [e0]
    exact rtwo_le_false a b m w hm 8 rfl (by decide) (by decide) ha.1 ha.2 hb.1 hb.2 _ _ rfl rfl c1.1 c1.2.2 c2.1 c2.2.2 h
  · have e1 : twoI [60, 61] 2 a b = 1 := by rw [← e]; show bitI (decide (cutI 2 a ≤ cutI 2 b)) = 1; rw [h]; rfl
    rw [e1]
    exact rtwo_le_true a b m w hm 8 rfl (by decide) (by decide) ha.1 ha.2 hb.1 hb.2 _ _ rfl rfl c1.1 c1.2.2 c2.1 c2.2.2 h
theorem rtwo2_gt (a b m : Int) (w : World) (hm : w.cell? ⟨0, 0, none⟩ = some (.int .i64 m)) (ha : -9223372036854775808 ≤ a ∧ a ≤ 9223372036854775807) (hb : -9223372036854775808 ≤ b ∧ b ≤ 9223372036854775807) :
    Calls Try.prog 18 #[.string ⟨#[62]⟩, .int .i64 2, .int .i64 a, .int .i64 b] w fun e w' => e = .returned (.int .i64 (twoI [62] 2 a b)) ∧ Below w.heap.size w w' := by
  have c1 := cutI_bd 2 a
  have c2 := cutI_bd 2 b
  have e := two_cmp [62] 2 a b (.inr (.inr ⟨rfl, .inr (.inr (.inl rfl))⟩)) (.inr rfl)
  cases h : (decide (cutI 2 b < cutI 2 a))
  · have e0 : twoI [62] 2 a b = 0 := by rw [← e]; show bitI (decide (cutI 2 b < cutI 2 a)) = 0; rw [h]; rfl
    rw [e0]
    exact rtwo_gt_false a b m w hm 8 rfl (by decide) (by decide) ha.1 ha.2 hb.1 hb.2 _ _ rfl rfl c1.1 c1.2.2 c2.1 c2.2.2 h
  · have e1 : twoI [62] 2 a b = 1 := by rw [← e]; show bitI (decide (cutI 2 b < cutI 2 a)) = 1; rw [h]; rfl
    rw [e1]
    exact rtwo_gt_true a b m w hm 8 rfl (by decide) (by decide) ha.1 ha.2 hb.1 hb.2 _ _ rfl rfl c1.1 c1.2.2 c2.1 c2.2.2 h
theorem rtwo2_ge (a b m : Int) (w : World) (hm : w.cell? ⟨0, 0, none⟩ = some (.int .i64 m)) (ha : -9223372036854775808 ≤ a ∧ a ≤ 9223372036854775807) (hb : -9223372036854775808 ≤ b ∧ b ≤ 9223372036854775807) :
    Calls Try.prog 18 #[.string ⟨#[62, 61]⟩, .int .i64 2, .int .i64 a, .int .i64 b] w fun e w' => e = .returned (.int .i64 (twoI [62, 61] 2 a b)) ∧ Below w.heap.size w w' := by
  have c1 := cutI_bd 2 a
  have c2 := cutI_bd 2 b
  have e := two_cmp [62, 61] 2 a b (.inr (.inr ⟨rfl, .inr (.inr (.inr rfl))⟩)) (.inr rfl)
  cases h : (decide (cutI 2 b ≤ cutI 2 a))
  · have e0 : twoI [62, 61] 2 a b = 0 := by rw [← e]; show bitI (decide (cutI 2 b ≤ cutI 2 a)) = 0; rw [h]; rfl
    rw [e0]
    exact rtwo_ge_false a b m w hm 8 rfl (by decide) (by decide) ha.1 ha.2 hb.1 hb.2 _ _ rfl rfl c1.1 c1.2.2 c2.1 c2.2.2 h
  · have e1 : twoI [62, 61] 2 a b = 1 := by rw [← e]; show bitI (decide (cutI 2 b ≤ cutI 2 a)) = 1; rw [h]; rfl
    rw [e1]
    exact rtwo_ge_true a b m w hm 8 rfl (by decide) (by decide) ha.1 ha.2 hb.1 hb.2 _ _ rfl rfl c1.1 c1.2.2 c2.1 c2.2.2 h

theorem rtwo_any (op : ByteArray) (k a b m : Int) (w : World) (hm : w.cell? ⟨0, 0, none⟩ = some (.int .i64 m)) (h20 : op.size ≤ 20) (ha : -9223372036854775808 ≤ a ∧ a ≤ 9223372036854775807) (hb : -9223372036854775808 ≤ b ∧ b ≤ 9223372036854775807) :
    Calls Try.prog 18 #[.string op, .int .i64 k, .int .i64 a, .int .i64 b] w fun e w' => e = .returned (.int .i64 (twoI op.data.toList k a b)) ∧ Below w.heap.size w w' := by
  by_cases hr : resI op.data.toList k k = 0
  · rw [twoI_no _ k a b hr]
    exact rtwo_zero op k a b m w hm h20 hr
  · have c1 := cutI_bd 2 a
    have c2 := cutI_bd 2 b
    rcases mod_cases k with ⟨rfl, _⟩ | ⟨rfl, _⟩ | ⟨e1, e2, _⟩
    · rcases op_cases op with ho | ⟨h1, h2, h3, h4, h5, h6, h7, h8, h9, h10, h11⟩
      · rcases ho with rfl | rfl | rfl | rfl | rfl | rfl | rfl | rfl | rfl | rfl | rfl
        · exact rtwo_at (rtwo_and 1 a b m w hm (.inl rfl) 1 rfl (by decide) (by decide) ha.1 ha.2 hb.1 hb.2) (z_and 1 a b (.inl rfl))
        · exact rtwo_at (rtwo_or 1 a b m w hm (.inl rfl) 1 rfl (by decide) (by decide) ha.1 ha.2 hb.1 hb.2) (z_or 1 a b (.inl rfl))
        · exact rtwo_at (rtwo_xor 1 a b m w hm (.inl rfl) 1 rfl (by decide) (by decide) ha.1 ha.2 hb.1 hb.2) (z_xor 1 a b (.inl rfl))
        · exact rtwo1_eq a b m w hm ha hb
        · exact rtwo1_ne a b m w hm ha hb
        · exact absurd (by decide) hr
        · exact absurd (by decide) hr
        · exact absurd (by decide) hr
        · exact absurd (by decide) hr
        · exact absurd (by decide) hr
        · exact absurd (by decide) hr
      · exact absurd (resI_other op 1 1 h1 h2 h3 h4 h5 h6 h7 h8 h9 h10 h11) hr
    · rcases op_cases op with ho | ⟨h1, h2, h3, h4, h5, h6, h7, h8, h9, h10, h11⟩
      · rcases ho with rfl | rfl | rfl | rfl | rfl | rfl | rfl | rfl | rfl | rfl | rfl
        · exact rtwo_at (rtwo_and 2 a b m w hm (.inr rfl) 8 rfl (by decide) (by decide) ha.1 ha.2 hb.1 hb.2) (z_and 2 a b (.inr rfl))
        · exact rtwo_at (rtwo_or 2 a b m w hm (.inr rfl) 8 rfl (by decide) (by decide) ha.1 ha.2 hb.1 hb.2) (z_or 2 a b (.inr rfl))
        · exact rtwo_at (rtwo_xor 2 a b m w hm (.inr rfl) 8 rfl (by decide) (by decide) ha.1 ha.2 hb.1 hb.2) (z_xor 2 a b (.inr rfl))
        · exact rtwo2_eq a b m w hm ha hb
        · exact rtwo2_ne a b m w hm ha hb
        · exact rtwo2_lt a b m w hm ha hb
        · exact rtwo2_le a b m w hm ha hb
        · exact rtwo2_gt a b m w hm ha hb
        · exact rtwo2_ge a b m w hm ha hb
        · exact rtwo_at (rtwo_add a b m w hm 8 rfl (by decide) (by decide) ha.1 ha.2 hb.1 hb.2 _ _ rfl rfl c1.1 c1.2.2 c2.1 c2.2.2) (two_add a b)
        · exact rtwo_at (rtwo_sub a b m w hm 8 rfl (by decide) (by decide) ha.1 ha.2 hb.1 hb.2 _ _ rfl rfl c1.1 c1.2.2 c2.1 c2.2.2) (two_sub a b)
      · exact absurd (resI_other op 2 2 h1 h2 h3 h4 h5 h6 h7 h8 h9 h10 h11) hr
    · exact absurd (resI_none _ k k e1 e2) hr
end Go.Proofs.Ytmoakccnjahfeaa
