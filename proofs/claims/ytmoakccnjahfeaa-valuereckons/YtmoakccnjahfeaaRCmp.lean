/-
  CONTRACT of the document's own answer for Two (package rungworkref), where the mark compares, or is a sum or a difference, or none; and then of Two at every mark.
-/
import Derived.Test.YtmoakccnjahfeaaRTwo
namespace Go.Proofs.Ytmoakccnjahfeaa
open Go.RowKit
set_option linter.unusedVariables false

set_option maxRecDepth 100000 in
set_option maxHeartbeats 4000000 in
theorem rtwo_eq_true (k a b m : Int) (w : World) (hm : w.cell? ⟨0, 0, none⟩ = some (.int .i64 m)) (hk : k = 1 ∨ k = 2) (N : Nat) (hN : Hid (wid k = N)) (hN0 : 0 < N) (hN8 : N ≤ 8)
    (ha1 : -9223372036854775808 ≤ a) (ha2 : a ≤ 9223372036854775807) (hb1 : -9223372036854775808 ≤ b) (hb2 : b ≤ 9223372036854775807) (ca cb : Int) (hca : Hid (cutI k a = ca)) (hcb : Hid (cutI k b = cb)) (ca0 : 0 ≤ ca) (ca1 : ca ≤ 255) (cb0 : 0 ≤ cb) (cb1 : cb ≤ 255) (h : (ca == cb) = true) :
    Calls Try.prog 18 #[.string ⟨#[61]⟩, .int .i64 k, .int .i64 a, .int .i64 b] w fun e w' => e = .returned (.int .i64 1) ∧ Below w.heap.size w w' := by
  have HR : Hid (resI [61] k k = 1) := by rcases hk with rfl | rfl <;> rfl
  clear hk
  obtain ⟨i0, hi, hz0, hz1, hz2⟩ := info_parts Try.info4
  go_enter Try.func18, Try.ntmps18
  go_wp2_with fail
  refine (rres_at ⟨#[61]⟩ k k m 1 _ hm (by decide) HR.out).mono ?_; rintro e w1 ⟨rfl, hbel1⟩
  have HB1 : Hid (Below w.heap.size w w1) := hbel1
  clear hbel1
  go_wp2_with fail
  refine (rbits_any k a w1 ha1 ha2).mono ?_; rintro e w2 ⟨x, rfl, hown2, hbel2⟩
  have HX2 : Hid (IsBits w2 x (bitsTo a (wid k))) := isBits_owns hown2
  have HB2 : Hid (Below w.heap.size w w2) := HB1.out.trans (hbel2.mono HB1.out.size)
  clear hown2 hbel2 HB1
  go_wp2_with fail
  refine (rbits_any k b w2 hb1 hb2).mono ?_; rintro e w3 ⟨y, rfl, hown3, hbel3⟩
  have HX3 : Hid (IsBits w3 x (bitsTo a (wid k))) := HX2.out.below hbel3
  have HY3 : Hid (IsBits w3 y (bitsTo b (wid k))) := isBits_owns hown3
  have HB3 : Hid (Below w.heap.size w w3) := HB2.out.trans (hbel3.mono HB2.out.size)
  clear hown3 hbel3 HB2 HX2
  rw [hN.out] at HX3 HY3
  obtain ⟨bx, ox, cx, rfl, hcx⟩ := isBits_some HX3.out (bitsTo_len a N) hN0
  obtain ⟨by', oy, cy, rfl, hcy⟩ := isBits_some HY3.out (bitsTo_len b N) hN0
  have HCX : Hid (∀ i, i < N → w3.cell? ⟨bx, ox + i, none⟩ = some (.bool ((bitsTo a N)[i]?.getD false))) := hcx
  have HCY : Hid (∀ i, i < N → w3.cell? ⟨by', oy + i, none⟩ = some (.bool ((bitsTo b N)[i]?.getD false))) := hcy
  clear hcx hcy HX3 HY3
  go_wp2_with (first | (go_at_call 9; refine (rcut_any _ _ _ (by assumption) (by assumption)).mono ?_; rintro e w' ⟨rfl, rfl⟩))
  rw [hca.out, hcb.out]
  go_loop [11, 33] (fun v c => ∃ j : Nat, j ≤ N ∧ c = .int .i64 j ∧ v = .slice none 0 0) (fun _ c => N - (intOf c).toNat)
  case atStart => exact ⟨0, Nat.zero_le _, rfl, rfl⟩
  case round =>
    obtain ⟨j, hj, rfl, rfl⟩ := hrel
    by_cases hlt : j < N
    · go_wp2
      go_round
      case rel => exact ⟨j + 1, by omega, by go_num, rfl⟩
      case measure => simp [intOf]; omega
    · go_wp2_with fail
      go_ret
      exact ⟨rfl, HB3.out⟩

set_option maxRecDepth 100000 in
set_option maxHeartbeats 4000000 in
theorem rtwo_eq_false (k a b m : Int) (w : World) (hm : w.cell? ⟨0, 0, none⟩ = some (.int .i64 m)) (hk : k = 1 ∨ k = 2) (N : Nat) (hN : Hid (wid k = N)) (hN0 : 0 < N) (hN8 : N ≤ 8)
    (ha1 : -9223372036854775808 ≤ a) (ha2 : a ≤ 9223372036854775807) (hb1 : -9223372036854775808 ≤ b) (hb2 : b ≤ 9223372036854775807) (ca cb : Int) (hca : Hid (cutI k a = ca)) (hcb : Hid (cutI k b = cb)) (ca0 : 0 ≤ ca) (ca1 : ca ≤ 255) (cb0 : 0 ≤ cb) (cb1 : cb ≤ 255) (h : (ca == cb) = false) :
    Calls Try.prog 18 #[.string ⟨#[61]⟩, .int .i64 k, .int .i64 a, .int .i64 b] w fun e w' => e = .returned (.int .i64 0) ∧ Below w.heap.size w w' := by
  have HR : Hid (resI [61] k k = 1) := by rcases hk with rfl | rfl <;> rfl
  clear hk
  obtain ⟨i0, hi, hz0, hz1, hz2⟩ := info_parts Try.info4
  go_enter Try.func18, Try.ntmps18
  go_wp2_with fail
  refine (rres_at ⟨#[61]⟩ k k m 1 _ hm (by decide) HR.out).mono ?_; rintro e w1 ⟨rfl, hbel1⟩
  have HB1 : Hid (Below w.heap.size w w1) := hbel1
  clear hbel1
  go_wp2_with fail
  refine (rbits_any k a w1 ha1 ha2).mono ?_; rintro e w2 ⟨x, rfl, hown2, hbel2⟩
  have HX2 : Hid (IsBits w2 x (bitsTo a (wid k))) := isBits_owns hown2
  have HB2 : Hid (Below w.heap.size w w2) := HB1.out.trans (hbel2.mono HB1.out.size)
  clear hown2 hbel2 HB1
  go_wp2_with fail
  refine (rbits_any k b w2 hb1 hb2).mono ?_; rintro e w3 ⟨y, rfl, hown3, hbel3⟩
  have HX3 : Hid (IsBits w3 x (bitsTo a (wid k))) := HX2.out.below hbel3
  have HY3 : Hid (IsBits w3 y (bitsTo b (wid k))) := isBits_owns hown3
  have HB3 : Hid (Below w.heap.size w w3) := HB2.out.trans (hbel3.mono HB2.out.size)
  clear hown3 hbel3 HB2 HX2
  rw [hN.out] at HX3 HY3
  obtain ⟨bx, ox, cx, rfl, hcx⟩ := isBits_some HX3.out (bitsTo_len a N) hN0
  obtain ⟨by', oy, cy, rfl, hcy⟩ := isBits_some HY3.out (bitsTo_len b N) hN0
  have HCX : Hid (∀ i, i < N → w3.cell? ⟨bx, ox + i, none⟩ = some (.bool ((bitsTo a N)[i]?.getD false))) := hcx
  have HCY : Hid (∀ i, i < N → w3.cell? ⟨by', oy + i, none⟩ = some (.bool ((bitsTo b N)[i]?.getD false))) := hcy
  clear hcx hcy HX3 HY3
  go_wp2_with (first | (go_at_call 9; refine (rcut_any _ _ _ (by assumption) (by assumption)).mono ?_; rintro e w' ⟨rfl, rfl⟩))
  rw [hca.out, hcb.out]
  go_loop [11, 33] (fun v c => ∃ j : Nat, j ≤ N ∧ c = .int .i64 j ∧ v = .slice none 0 0) (fun _ c => N - (intOf c).toNat)
  case atStart => exact ⟨0, Nat.zero_le _, rfl, rfl⟩
  case round =>
    obtain ⟨j, hj, rfl, rfl⟩ := hrel
    by_cases hlt : j < N
    · go_wp2
      go_round
      case rel => exact ⟨j + 1, by omega, by go_num, rfl⟩
      case measure => simp [intOf]; omega
    · go_wp2_with fail
      go_ret
      exact ⟨rfl, HB3.out⟩

set_option maxRecDepth 100000 in
set_option maxHeartbeats 4000000 in
theorem rtwo_ne_true (k a b m : Int) (w : World) (hm : w.cell? ⟨0, 0, none⟩ = some (.int .i64 m)) (hk : k = 1 ∨ k = 2) (N : Nat) (hN : Hid (wid k = N)) (hN0 : 0 < N) (hN8 : N ≤ 8)
    (ha1 : -9223372036854775808 ≤ a) (ha2 : a ≤ 9223372036854775807) (hb1 : -9223372036854775808 ≤ b) (hb2 : b ≤ 9223372036854775807) (ca cb : Int) (hca : Hid (cutI k a = ca)) (hcb : Hid (cutI k b = cb)) (ca0 : 0 ≤ ca) (ca1 : ca ≤ 255) (cb0 : 0 ≤ cb) (cb1 : cb ≤ 255) (h : (ca != cb) = true) :
    Calls Try.prog 18 #[.string ⟨#[60, 62]⟩, .int .i64 k, .int .i64 a, .int .i64 b] w fun e w' => e = .returned (.int .i64 1) ∧ Below w.heap.size w w' := by
  have HR : Hid (resI [60, 62] k k = 1) := by rcases hk with rfl | rfl <;> rfl
  clear hk
  obtain ⟨i0, hi, hz0, hz1, hz2⟩ := info_parts Try.info4
  go_enter Try.func18, Try.ntmps18
  go_wp2_with fail
  refine (rres_at ⟨#[60, 62]⟩ k k m 1 _ hm (by decide) HR.out).mono ?_; rintro e w1 ⟨rfl, hbel1⟩
  have HB1 : Hid (Below w.heap.size w w1) := hbel1
  clear hbel1
  go_wp2_with fail
  refine (rbits_any k a w1 ha1 ha2).mono ?_; rintro e w2 ⟨x, rfl, hown2, hbel2⟩
  have HX2 : Hid (IsBits w2 x (bitsTo a (wid k))) := isBits_owns hown2
  have HB2 : Hid (Below w.heap.size w w2) := HB1.out.trans (hbel2.mono HB1.out.size)
  clear hown2 hbel2 HB1
  go_wp2_with fail
  refine (rbits_any k b w2 hb1 hb2).mono ?_; rintro e w3 ⟨y, rfl, hown3, hbel3⟩
  have HX3 : Hid (IsBits w3 x (bitsTo a (wid k))) := HX2.out.below hbel3
  have HY3 : Hid (IsBits w3 y (bitsTo b (wid k))) := isBits_owns hown3
  have HB3 : Hid (Below w.heap.size w w3) := HB2.out.trans (hbel3.mono HB2.out.size)
  clear hown3 hbel3 HB2 HX2
  rw [hN.out] at HX3 HY3
  obtain ⟨bx, ox, cx, rfl, hcx⟩ := isBits_some HX3.out (bitsTo_len a N) hN0
  obtain ⟨by', oy, cy, rfl, hcy⟩ := isBits_some HY3.out (bitsTo_len b N) hN0
  have HCX : Hid (∀ i, i < N → w3.cell? ⟨bx, ox + i, none⟩ = some (.bool ((bitsTo a N)[i]?.getD false))) := hcx
  have HCY : Hid (∀ i, i < N → w3.cell? ⟨by', oy + i, none⟩ = some (.bool ((bitsTo b N)[i]?.getD false))) := hcy
  clear hcx hcy HX3 HY3
  go_wp2_with (first | (go_at_call 9; refine (rcut_any _ _ _ (by assumption) (by assumption)).mono ?_; rintro e w' ⟨rfl, rfl⟩))
  rw [hca.out, hcb.out]
  go_loop [11, 33] (fun v c => ∃ j : Nat, j ≤ N ∧ c = .int .i64 j ∧ v = .slice none 0 0) (fun _ c => N - (intOf c).toNat)
  case atStart => exact ⟨0, Nat.zero_le _, rfl, rfl⟩
  case round =>
    obtain ⟨j, hj, rfl, rfl⟩ := hrel
    by_cases hlt : j < N
    · go_wp2
      go_round
      case rel => exact ⟨j + 1, by omega, by go_num, rfl⟩
      case measure => simp [intOf]; omega
    · go_wp2_with fail
      go_ret
      exact ⟨rfl, HB3.out⟩

set_option maxRecDepth 100000 in
set_option maxHeartbeats 4000000 in
theorem rtwo_ne_false (k a b m : Int) (w : World) (hm : w.cell? ⟨0, 0, none⟩ = some (.int .i64 m)) (hk : k = 1 ∨ k = 2) (N : Nat) (hN : Hid (wid k = N)) (hN0 : 0 < N) (hN8 : N ≤ 8)
    (ha1 : -9223372036854775808 ≤ a) (ha2 : a ≤ 9223372036854775807) (hb1 : -9223372036854775808 ≤ b) (hb2 : b ≤ 9223372036854775807) (ca cb : Int) (hca : Hid (cutI k a = ca)) (hcb : Hid (cutI k b = cb)) (ca0 : 0 ≤ ca) (ca1 : ca ≤ 255) (cb0 : 0 ≤ cb) (cb1 : cb ≤ 255) (h : (ca != cb) = false) :
    Calls Try.prog 18 #[.string ⟨#[60, 62]⟩, .int .i64 k, .int .i64 a, .int .i64 b] w fun e w' => e = .returned (.int .i64 0) ∧ Below w.heap.size w w' := by
  have HR : Hid (resI [60, 62] k k = 1) := by rcases hk with rfl | rfl <;> rfl
  clear hk
  obtain ⟨i0, hi, hz0, hz1, hz2⟩ := info_parts Try.info4
  go_enter Try.func18, Try.ntmps18
  go_wp2_with fail
  refine (rres_at ⟨#[60, 62]⟩ k k m 1 _ hm (by decide) HR.out).mono ?_; rintro e w1 ⟨rfl, hbel1⟩
  have HB1 : Hid (Below w.heap.size w w1) := hbel1
  clear hbel1
  go_wp2_with fail
  refine (rbits_any k a w1 ha1 ha2).mono ?_; rintro e w2 ⟨x, rfl, hown2, hbel2⟩
  have HX2 : Hid (IsBits w2 x (bitsTo a (wid k))) := isBits_owns hown2
  have HB2 : Hid (Below w.heap.size w w2) := HB1.out.trans (hbel2.mono HB1.out.size)
  clear hown2 hbel2 HB1
  go_wp2_with fail
  refine (rbits_any k b w2 hb1 hb2).mono ?_; rintro e w3 ⟨y, rfl, hown3, hbel3⟩
  have HX3 : Hid (IsBits w3 x (bitsTo a (wid k))) := HX2.out.below hbel3
  have HY3 : Hid (IsBits w3 y (bitsTo b (wid k))) := isBits_owns hown3
  have HB3 : Hid (Below w.heap.size w w3) := HB2.out.trans (hbel3.mono HB2.out.size)
  clear hown3 hbel3 HB2 HX2
  rw [hN.out] at HX3 HY3
  obtain ⟨bx, ox, cx, rfl, hcx⟩ := isBits_some HX3.out (bitsTo_len a N) hN0
  obtain ⟨by', oy, cy, rfl, hcy⟩ := isBits_some HY3.out (bitsTo_len b N) hN0
  have HCX : Hid (∀ i, i < N → w3.cell? ⟨bx, ox + i, none⟩ = some (.bool ((bitsTo a N)[i]?.getD false))) := hcx
  have HCY : Hid (∀ i, i < N → w3.cell? ⟨by', oy + i, none⟩ = some (.bool ((bitsTo b N)[i]?.getD false))) := hcy
  clear hcx hcy HX3 HY3
  go_wp2_with (first | (go_at_call 9; refine (rcut_any _ _ _ (by assumption) (by assumption)).mono ?_; rintro e w' ⟨rfl, rfl⟩))
  rw [hca.out, hcb.out]
  go_loop [11, 33] (fun v c => ∃ j : Nat, j ≤ N ∧ c = .int .i64 j ∧ v = .slice none 0 0) (fun _ c => N - (intOf c).toNat)
  case atStart => exact ⟨0, Nat.zero_le _, rfl, rfl⟩
  case round =>
    obtain ⟨j, hj, rfl, rfl⟩ := hrel
    by_cases hlt : j < N
    · go_wp2
      go_round
      case rel => exact ⟨j + 1, by omega, by go_num, rfl⟩
      case measure => simp [intOf]; omega
    · go_wp2_with fail
      go_ret
      exact ⟨rfl, HB3.out⟩

set_option maxRecDepth 100000 in
set_option maxHeartbeats 4000000 in
theorem rtwo_lt_true (a b m : Int) (w : World) (hm : w.cell? ⟨0, 0, none⟩ = some (.int .i64 m)) (N : Nat) (hN : Hid (wid 2 = N)) (hN0 : 0 < N) (hN8 : N ≤ 8)
    (ha1 : -9223372036854775808 ≤ a) (ha2 : a ≤ 9223372036854775807) (hb1 : -9223372036854775808 ≤ b) (hb2 : b ≤ 9223372036854775807) (ca cb : Int) (hca : Hid (cutI 2 a = ca)) (hcb : Hid (cutI 2 b = cb)) (ca0 : 0 ≤ ca) (ca1 : ca ≤ 255) (cb0 : 0 ≤ cb) (cb1 : cb ≤ 255) (h : decide (ca < cb) = true) :
    Calls Try.prog 18 #[.string ⟨#[60]⟩, .int .i64 2, .int .i64 a, .int .i64 b] w fun e w' => e = .returned (.int .i64 1) ∧ Below w.heap.size w w' := by
  have HR : Hid (resI [60] 2 2 = 1) := rfl
  obtain ⟨i0, hi, hz0, hz1, hz2⟩ := info_parts Try.info4
  go_enter Try.func18, Try.ntmps18
  go_wp2_with fail
  refine (rres_at ⟨#[60]⟩ 2 2 m 1 _ hm (by decide) HR.out).mono ?_; rintro e w1 ⟨rfl, hbel1⟩
  have HB1 : Hid (Below w.heap.size w w1) := hbel1
  clear hbel1
  go_wp2_with fail
  refine (rbits_any 2 a w1 ha1 ha2).mono ?_; rintro e w2 ⟨x, rfl, hown2, hbel2⟩
  have HX2 : Hid (IsBits w2 x (bitsTo a (wid 2))) := isBits_owns hown2
  have HB2 : Hid (Below w.heap.size w w2) := HB1.out.trans (hbel2.mono HB1.out.size)
  clear hown2 hbel2 HB1
  go_wp2_with fail
  refine (rbits_any 2 b w2 hb1 hb2).mono ?_; rintro e w3 ⟨y, rfl, hown3, hbel3⟩
  have HX3 : Hid (IsBits w3 x (bitsTo a (wid 2))) := HX2.out.below hbel3
  have HY3 : Hid (IsBits w3 y (bitsTo b (wid 2))) := isBits_owns hown3
  have HB3 : Hid (Below w.heap.size w w3) := HB2.out.trans (hbel3.mono HB2.out.size)
  clear hown3 hbel3 HB2 HX2
  rw [hN.out] at HX3 HY3
  obtain ⟨bx, ox, cx, rfl, hcx⟩ := isBits_some HX3.out (bitsTo_len a N) hN0
  obtain ⟨by', oy, cy, rfl, hcy⟩ := isBits_some HY3.out (bitsTo_len b N) hN0
  have HCX : Hid (∀ i, i < N → w3.cell? ⟨bx, ox + i, none⟩ = some (.bool ((bitsTo a N)[i]?.getD false))) := hcx
  have HCY : Hid (∀ i, i < N → w3.cell? ⟨by', oy + i, none⟩ = some (.bool ((bitsTo b N)[i]?.getD false))) := hcy
  clear hcx hcy HX3 HY3
  go_wp2_with (first | (go_at_call 9; refine (rcut_any _ _ _ (by assumption) (by assumption)).mono ?_; rintro e w' ⟨rfl, rfl⟩))
  rw [hca.out, hcb.out]
  go_loop [11, 33] (fun v c => ∃ j : Nat, j ≤ N ∧ c = .int .i64 j ∧ v = .slice none 0 0) (fun _ c => N - (intOf c).toNat)
  case atStart => exact ⟨0, Nat.zero_le _, rfl, rfl⟩
  case round =>
    obtain ⟨j, hj, rfl, rfl⟩ := hrel
    by_cases hlt : j < N
    · go_wp2
      go_round
      case rel => exact ⟨j + 1, by omega, by go_num, rfl⟩
      case measure => simp [intOf]; omega
    · go_wp2_with fail
      go_ret
      exact ⟨rfl, HB3.out⟩

set_option maxRecDepth 100000 in
set_option maxHeartbeats 4000000 in
theorem rtwo_lt_false (a b m : Int) (w : World) (hm : w.cell? ⟨0, 0, none⟩ = some (.int .i64 m)) (N : Nat) (hN : Hid (wid 2 = N)) (hN0 : 0 < N) (hN8 : N ≤ 8)
    (ha1 : -9223372036854775808 ≤ a) (ha2 : a ≤ 9223372036854775807) (hb1 : -9223372036854775808 ≤ b) (hb2 : b ≤ 9223372036854775807) (ca cb : Int) (hca : Hid (cutI 2 a = ca)) (hcb : Hid (cutI 2 b = cb)) (ca0 : 0 ≤ ca) (ca1 : ca ≤ 255) (cb0 : 0 ≤ cb) (cb1 : cb ≤ 255) (h : decide (ca < cb) = false) :
    Calls Try.prog 18 #[.string ⟨#[60]⟩, .int .i64 2, .int .i64 a, .int .i64 b] w fun e w' => e = .returned (.int .i64 0) ∧ Below w.heap.size w w' := by
  have HR : Hid (resI [60] 2 2 = 1) := rfl
  obtain ⟨i0, hi, hz0, hz1, hz2⟩ := info_parts Try.info4
  go_enter Try.func18, Try.ntmps18
  go_wp2_with fail
  refine (rres_at ⟨#[60]⟩ 2 2 m 1 _ hm (by decide) HR.out).mono ?_; rintro e w1 ⟨rfl, hbel1⟩
  have HB1 : Hid (Below w.heap.size w w1) := hbel1
  clear hbel1
  go_wp2_with fail
  refine (rbits_any 2 a w1 ha1 ha2).mono ?_; rintro e w2 ⟨x, rfl, hown2, hbel2⟩
  have HX2 : Hid (IsBits w2 x (bitsTo a (wid 2))) := isBits_owns hown2
  have HB2 : Hid (Below w.heap.size w w2) := HB1.out.trans (hbel2.mono HB1.out.size)
  clear hown2 hbel2 HB1
  go_wp2_with fail
  refine (rbits_any 2 b w2 hb1 hb2).mono ?_; rintro e w3 ⟨y, rfl, hown3, hbel3⟩
  have HX3 : Hid (IsBits w3 x (bitsTo a (wid 2))) := HX2.out.below hbel3
  have HY3 : Hid (IsBits w3 y (bitsTo b (wid 2))) := isBits_owns hown3
  have HB3 : Hid (Below w.heap.size w w3) := HB2.out.trans (hbel3.mono HB2.out.size)
  clear hown3 hbel3 HB2 HX2
  rw [hN.out] at HX3 HY3
  obtain ⟨bx, ox, cx, rfl, hcx⟩ := isBits_some HX3.out (bitsTo_len a N) hN0
  obtain ⟨by', oy, cy, rfl, hcy⟩ := isBits_some HY3.out (bitsTo_len b N) hN0
  have HCX : Hid (∀ i, i < N → w3.cell? ⟨bx, ox + i, none⟩ = some (.bool ((bitsTo a N)[i]?.getD false))) := hcx
  have HCY : Hid (∀ i, i < N → w3.cell? ⟨by', oy + i, none⟩ = some (.bool ((bitsTo b N)[i]?.getD false))) := hcy
  clear hcx hcy HX3 HY3
  go_wp2_with (first | (go_at_call 9; refine (rcut_any _ _ _ (by assumption) (by assumption)).mono ?_; rintro e w' ⟨rfl, rfl⟩))
  rw [hca.out, hcb.out]
  go_loop [11, 33] (fun v c => ∃ j : Nat, j ≤ N ∧ c = .int .i64 j ∧ v = .slice none 0 0) (fun _ c => N - (intOf c).toNat)
  case atStart => exact ⟨0, Nat.zero_le _, rfl, rfl⟩
  case round =>
    obtain ⟨j, hj, rfl, rfl⟩ := hrel
    by_cases hlt : j < N
    · go_wp2
      go_round
      case rel => exact ⟨j + 1, by omega, by go_num, rfl⟩
      case measure => simp [intOf]; omega
    · go_wp2_with fail
      go_ret
      exact ⟨rfl, HB3.out⟩

set_option maxRecDepth 100000 in
set_option maxHeartbeats 4000000 in
theorem rtwo_le_true (a b m : Int) (w : World) (hm : w.cell? ⟨0, 0, none⟩ = some (.int .i64 m)) (N : Nat) (hN : Hid (wid 2 = N)) (hN0 : 0 < N) (hN8 : N ≤ 8)
    (ha1 : -9223372036854775808 ≤ a) (ha2 : a ≤ 9223372036854775807) (hb1 : -9223372036854775808 ≤ b) (hb2 : b ≤ 9223372036854775807) (ca cb : Int) (hca : Hid (cutI 2 a = ca)) (hcb : Hid (cutI 2 b = cb)) (ca0 : 0 ≤ ca) (ca1 : ca ≤ 255) (cb0 : 0 ≤ cb) (cb1 : cb ≤ 255) (h : decide (ca ≤ cb) = true) :
    Calls Try.prog 18 #[.string ⟨#[60, 61]⟩, .int .i64 2, .int .i64 a, .int .i64 b] w fun e w' => e = .returned (.int .i64 1) ∧ Below w.heap.size w w' := by
  have HR : Hid (resI [60, 61] 2 2 = 1) := rfl
  obtain ⟨i0, hi, hz0, hz1, hz2⟩ := info_parts Try.info4
  go_enter Try.func18, Try.ntmps18
  go_wp2_with fail
  refine (rres_at ⟨#[60, 61]⟩ 2 2 m 1 _ hm (by decide) HR.out).mono ?_; rintro e w1 ⟨rfl, hbel1⟩
  have HB1 : Hid (Below w.heap.size w w1) := hbel1
  clear hbel1
  go_wp2_with fail
  refine (rbits_any 2 a w1 ha1 ha2).mono ?_; rintro e w2 ⟨x, rfl, hown2, hbel2⟩
  have HX2 : Hid (IsBits w2 x (bitsTo a (wid 2))) := isBits_owns hown2
  have HB2 : Hid (Below w.heap.size w w2) := HB1.out.trans (hbel2.mono HB1.out.size)
  clear hown2 hbel2 HB1
  go_wp2_with fail
  refine (rbits_any 2 b w2 hb1 hb2).mono ?_; rintro e w3 ⟨y, rfl, hown3, hbel3⟩
  have HX3 : Hid (IsBits w3 x (bitsTo a (wid 2))) := HX2.out.below hbel3
  have HY3 : Hid (IsBits w3 y (bitsTo b (wid 2))) := isBits_owns hown3
  have HB3 : Hid (Below w.heap.size w w3) := HB2.out.trans (hbel3.mono HB2.out.size)
  clear hown3 hbel3 HB2 HX2
  rw [hN.out] at HX3 HY3
  obtain ⟨bx, ox, cx, rfl, hcx⟩ := isBits_some HX3.out (bitsTo_len a N) hN0
  obtain ⟨by', oy, cy, rfl, hcy⟩ := isBits_some HY3.out (bitsTo_len b N) hN0
  have HCX : Hid (∀ i, i < N → w3.cell? ⟨bx, ox + i, none⟩ = some (.bool ((bitsTo a N)[i]?.getD false))) := hcx
  have HCY : Hid (∀ i, i < N → w3.cell? ⟨by', oy + i, none⟩ = some (.bool ((bitsTo b N)[i]?.getD false))) := hcy
  clear hcx hcy HX3 HY3
  go_wp2_with (first | (go_at_call 9; refine (rcut_any _ _ _ (by assumption) (by assumption)).mono ?_; rintro e w' ⟨rfl, rfl⟩))
  rw [hca.out, hcb.out]
  go_loop [11, 33] (fun v c => ∃ j : Nat, j ≤ N ∧ c = .int .i64 j ∧ v = .slice none 0 0) (fun _ c => N - (intOf c).toNat)
  case atStart => exact ⟨0, Nat.zero_le _, rfl, rfl⟩
  case round =>
    obtain ⟨j, hj, rfl, rfl⟩ := hrel
    by_cases hlt : j < N
    · go_wp2
      go_round
      case rel => exact ⟨j + 1, by omega, by go_num, rfl⟩
      case measure => simp [intOf]; omega
    · go_wp2_with fail
      go_ret
      exact ⟨rfl, HB3.out⟩

set_option maxRecDepth 100000 in
set_option maxHeartbeats 4000000 in
theorem rtwo_le_false (a b m : Int) (w : World) (hm : w.cell? ⟨0, 0, none⟩ = some (.int .i64 m)) (N : Nat) (hN : Hid (wid 2 = N)) (hN0 : 0 < N) (hN8 : N ≤ 8)
    (ha1 : -9223372036854775808 ≤ a) (ha2 : a ≤ 9223372036854775807) (hb1 : -9223372036854775808 ≤ b) (hb2 : b ≤ 9223372036854775807) (ca cb : Int) (hca : Hid (cutI 2 a = ca)) (hcb : Hid (cutI 2 b = cb)) (ca0 : 0 ≤ ca) (ca1 : ca ≤ 255) (cb0 : 0 ≤ cb) (cb1 : cb ≤ 255) (h : decide (ca ≤ cb) = false) :
    Calls Try.prog 18 #[.string ⟨#[60, 61]⟩, .int .i64 2, .int .i64 a, .int .i64 b] w fun e w' => e = .returned (.int .i64 0) ∧ Below w.heap.size w w' := by
  have HR : Hid (resI [60, 61] 2 2 = 1) := rfl
  obtain ⟨i0, hi, hz0, hz1, hz2⟩ := info_parts Try.info4
  go_enter Try.func18, Try.ntmps18
  go_wp2_with fail
  refine (rres_at ⟨#[60, 61]⟩ 2 2 m 1 _ hm (by decide) HR.out).mono ?_; rintro e w1 ⟨rfl, hbel1⟩
  have HB1 : Hid (Below w.heap.size w w1) := hbel1
  clear hbel1
  go_wp2_with fail
  refine (rbits_any 2 a w1 ha1 ha2).mono ?_; rintro e w2 ⟨x, rfl, hown2, hbel2⟩
  have HX2 : Hid (IsBits w2 x (bitsTo a (wid 2))) := isBits_owns hown2
  have HB2 : Hid (Below w.heap.size w w2) := HB1.out.trans (hbel2.mono HB1.out.size)
  clear hown2 hbel2 HB1
  go_wp2_with fail
  refine (rbits_any 2 b w2 hb1 hb2).mono ?_; rintro e w3 ⟨y, rfl, hown3, hbel3⟩
  have HX3 : Hid (IsBits w3 x (bitsTo a (wid 2))) := HX2.out.below hbel3
  have HY3 : Hid (IsBits w3 y (bitsTo b (wid 2))) := isBits_owns hown3
  have HB3 : Hid (Below w.heap.size w w3) := HB2.out.trans (hbel3.mono HB2.out.size)
  clear hown3 hbel3 HB2 HX2
  rw [hN.out] at HX3 HY3
  obtain ⟨bx, ox, cx, rfl, hcx⟩ := isBits_some HX3.out (bitsTo_len a N) hN0
  obtain ⟨by', oy, cy, rfl, hcy⟩ := isBits_some HY3.out (bitsTo_len b N) hN0
  have HCX : Hid (∀ i, i < N → w3.cell? ⟨bx, ox + i, none⟩ = some (.bool ((bitsTo a N)[i]?.getD false))) := hcx
  have HCY : Hid (∀ i, i < N → w3.cell? ⟨by', oy + i, none⟩ = some (.bool ((bitsTo b N)[i]?.getD false))) := hcy
  clear hcx hcy HX3 HY3
  go_wp2_with (first | (go_at_call 9; refine (rcut_any _ _ _ (by assumption) (by assumption)).mono ?_; rintro e w' ⟨rfl, rfl⟩))
  rw [hca.out, hcb.out]
  go_loop [11, 33] (fun v c => ∃ j : Nat, j ≤ N ∧ c = .int .i64 j ∧ v = .slice none 0 0) (fun _ c => N - (intOf c).toNat)
  case atStart => exact ⟨0, Nat.zero_le _, rfl, rfl⟩
  case round =>
    obtain ⟨j, hj, rfl, rfl⟩ := hrel
    by_cases hlt : j < N
    · go_wp2
      go_round
      case rel => exact ⟨j + 1, by omega, by go_num, rfl⟩
      case measure => simp [intOf]; omega
    · go_wp2_with fail
      go_ret
      exact ⟨rfl, HB3.out⟩

set_option maxRecDepth 100000 in
set_option maxHeartbeats 4000000 in
theorem rtwo_gt_true (a b m : Int) (w : World) (hm : w.cell? ⟨0, 0, none⟩ = some (.int .i64 m)) (N : Nat) (hN : Hid (wid 2 = N)) (hN0 : 0 < N) (hN8 : N ≤ 8)
    (ha1 : -9223372036854775808 ≤ a) (ha2 : a ≤ 9223372036854775807) (hb1 : -9223372036854775808 ≤ b) (hb2 : b ≤ 9223372036854775807) (ca cb : Int) (hca : Hid (cutI 2 a = ca)) (hcb : Hid (cutI 2 b = cb)) (ca0 : 0 ≤ ca) (ca1 : ca ≤ 255) (cb0 : 0 ≤ cb) (cb1 : cb ≤ 255) (h : decide (cb < ca) = true) :
    Calls Try.prog 18 #[.string ⟨#[62]⟩, .int .i64 2, .int .i64 a, .int .i64 b] w fun e w' => e = .returned (.int .i64 1) ∧ Below w.heap.size w w' := by
  have HR : Hid (resI [62] 2 2 = 1) := rfl
  obtain ⟨i0, hi, hz0, hz1, hz2⟩ := info_parts Try.info4
  go_enter Try.func18, Try.ntmps18
  go_wp2_with fail
  refine (rres_at ⟨#[62]⟩ 2 2 m 1 _ hm (by decide) HR.out).mono ?_; rintro e w1 ⟨rfl, hbel1⟩
  have HB1 : Hid (Below w.heap.size w w1) := hbel1
  clear hbel1
  go_wp2_with fail
  refine (rbits_any 2 a w1 ha1 ha2).mono ?_; rintro e w2 ⟨x, rfl, hown2, hbel2⟩
  have HX2 : Hid (IsBits w2 x (bitsTo a (wid 2))) := isBits_owns hown2
  have HB2 : Hid (Below w.heap.size w w2) := HB1.out.trans (hbel2.mono HB1.out.size)
  clear hown2 hbel2 HB1
  go_wp2_with fail
  refine (rbits_any 2 b w2 hb1 hb2).mono ?_; rintro e w3 ⟨y, rfl, hown3, hbel3⟩
  have HX3 : Hid (IsBits w3 x (bitsTo a (wid 2))) := HX2.out.below hbel3
  have HY3 : Hid (IsBits w3 y (bitsTo b (wid 2))) := isBits_owns hown3
  have HB3 : Hid (Below w.heap.size w w3) := HB2.out.trans (hbel3.mono HB2.out.size)
  clear hown3 hbel3 HB2 HX2
  rw [hN.out] at HX3 HY3
  obtain ⟨bx, ox, cx, rfl, hcx⟩ := isBits_some HX3.out (bitsTo_len a N) hN0
  obtain ⟨by', oy, cy, rfl, hcy⟩ := isBits_some HY3.out (bitsTo_len b N) hN0
  have HCX : Hid (∀ i, i < N → w3.cell? ⟨bx, ox + i, none⟩ = some (.bool ((bitsTo a N)[i]?.getD false))) := hcx
  have HCY : Hid (∀ i, i < N → w3.cell? ⟨by', oy + i, none⟩ = some (.bool ((bitsTo b N)[i]?.getD false))) := hcy
  clear hcx hcy HX3 HY3
  go_wp2_with (first | (go_at_call 9; refine (rcut_any _ _ _ (by assumption) (by assumption)).mono ?_; rintro e w' ⟨rfl, rfl⟩))
  rw [hca.out, hcb.out]
  go_loop [11, 33] (fun v c => ∃ j : Nat, j ≤ N ∧ c = .int .i64 j ∧ v = .slice none 0 0) (fun _ c => N - (intOf c).toNat)
  case atStart => exact ⟨0, Nat.zero_le _, rfl, rfl⟩
  case round =>
    obtain ⟨j, hj, rfl, rfl⟩ := hrel
    by_cases hlt : j < N
    · go_wp2
      go_round
      case rel => exact ⟨j + 1, by omega, by go_num, rfl⟩
      case measure => simp [intOf]; omega
    · go_wp2_with fail
      go_ret
      exact ⟨rfl, HB3.out⟩

set_option maxRecDepth 100000 in
set_option maxHeartbeats 4000000 in
theorem rtwo_gt_false (a b m : Int) (w : World) (hm : w.cell? ⟨0, 0, none⟩ = some (.int .i64 m)) (N : Nat) (hN : Hid (wid 2 = N)) (hN0 : 0 < N) (hN8 : N ≤ 8)
    (ha1 : -9223372036854775808 ≤ a) (ha2 : a ≤ 9223372036854775807) (hb1 : -9223372036854775808 ≤ b) (hb2 : b ≤ 9223372036854775807) (ca cb : Int) (hca : Hid (cutI 2 a = ca)) (hcb : Hid (cutI 2 b = cb)) (ca0 : 0 ≤ ca) (ca1 : ca ≤ 255) (cb0 : 0 ≤ cb) (cb1 : cb ≤ 255) (h : decide (cb < ca) = false) :
    Calls Try.prog 18 #[.string ⟨#[62]⟩, .int .i64 2, .int .i64 a, .int .i64 b] w fun e w' => e = .returned (.int .i64 0) ∧ Below w.heap.size w w' := by
  have HR : Hid (resI [62] 2 2 = 1) := rfl
  obtain ⟨i0, hi, hz0, hz1, hz2⟩ := info_parts Try.info4
  go_enter Try.func18, Try.ntmps18
  go_wp2_with fail
  refine (rres_at ⟨#[62]⟩ 2 2 m 1 _ hm (by decide) HR.out).mono ?_; rintro e w1 ⟨rfl, hbel1⟩
  have HB1 : Hid (Below w.heap.size w w1) := hbel1
  clear hbel1
  go_wp2_with fail
  refine (rbits_any 2 a w1 ha1 ha2).mono ?_; rintro e w2 ⟨x, rfl, hown2, hbel2⟩
  have HX2 : Hid (IsBits w2 x (bitsTo a (wid 2))) := isBits_owns hown2
  have HB2 : Hid (Below w.heap.size w w2) := HB1.out.trans (hbel2.mono HB1.out.size)
  clear hown2 hbel2 HB1
  go_wp2_with fail
  refine (rbits_any 2 b w2 hb1 hb2).mono ?_; rintro e w3 ⟨y, rfl, hown3, hbel3⟩
  have HX3 : Hid (IsBits w3 x (bitsTo a (wid 2))) := HX2.out.below hbel3
  have HY3 : Hid (IsBits w3 y (bitsTo b (wid 2))) := isBits_owns hown3
  have HB3 : Hid (Below w.heap.size w w3) := HB2.out.trans (hbel3.mono HB2.out.size)
  clear hown3 hbel3 HB2 HX2
  rw [hN.out] at HX3 HY3
  obtain ⟨bx, ox, cx, rfl, hcx⟩ := isBits_some HX3.out (bitsTo_len a N) hN0
  obtain ⟨by', oy, cy, rfl, hcy⟩ := isBits_some HY3.out (bitsTo_len b N) hN0
  have HCX : Hid (∀ i, i < N → w3.cell? ⟨bx, ox + i, none⟩ = some (.bool ((bitsTo a N)[i]?.getD false))) := hcx
  have HCY : Hid (∀ i, i < N → w3.cell? ⟨by', oy + i, none⟩ = some (.bool ((bitsTo b N)[i]?.getD false))) := hcy
  clear hcx hcy HX3 HY3
  go_wp2_with (first | (go_at_call 9; refine (rcut_any _ _ _ (by assumption) (by assumption)).mono ?_; rintro e w' ⟨rfl, rfl⟩))
  rw [hca.out, hcb.out]
  go_loop [11, 33] (fun v c => ∃ j : Nat, j ≤ N ∧ c = .int .i64 j ∧ v = .slice none 0 0) (fun _ c => N - (intOf c).toNat)
  case atStart => exact ⟨0, Nat.zero_le _, rfl, rfl⟩
  case round =>
    obtain ⟨j, hj, rfl, rfl⟩ := hrel
    by_cases hlt : j < N
    · go_wp2
      go_round
      case rel => exact ⟨j + 1, by omega, by go_num, rfl⟩
      case measure => simp [intOf]; omega
    · go_wp2_with fail
      go_ret
      exact ⟨rfl, HB3.out⟩

set_option maxRecDepth 100000 in
set_option maxHeartbeats 4000000 in
theorem rtwo_ge_true (a b m : Int) (w : World) (hm : w.cell? ⟨0, 0, none⟩ = some (.int .i64 m)) (N : Nat) (hN : Hid (wid 2 = N)) (hN0 : 0 < N) (hN8 : N ≤ 8)
    (ha1 : -9223372036854775808 ≤ a) (ha2 : a ≤ 9223372036854775807) (hb1 : -9223372036854775808 ≤ b) (hb2 : b ≤ 9223372036854775807) (ca cb : Int) (hca : Hid (cutI 2 a = ca)) (hcb : Hid (cutI 2 b = cb)) (ca0 : 0 ≤ ca) (ca1 : ca ≤ 255) (cb0 : 0 ≤ cb) (cb1 : cb ≤ 255) (h : decide (cb ≤ ca) = true) :
    Calls Try.prog 18 #[.string ⟨#[62, 61]⟩, .int .i64 2, .int .i64 a, .int .i64 b] w fun e w' => e = .returned (.int .i64 1) ∧ Below w.heap.size w w' := by
  have HR : Hid (resI [62, 61] 2 2 = 1) := rfl
  obtain ⟨i0, hi, hz0, hz1, hz2⟩ := info_parts Try.info4
  go_enter Try.func18, Try.ntmps18
  go_wp2_with fail
  refine (rres_at ⟨#[62, 61]⟩ 2 2 m 1 _ hm (by decide) HR.out).mono ?_; rintro e w1 ⟨rfl, hbel1⟩
  have HB1 : Hid (Below w.heap.size w w1) := hbel1
  clear hbel1
  go_wp2_with fail
  refine (rbits_any 2 a w1 ha1 ha2).mono ?_; rintro e w2 ⟨x, rfl, hown2, hbel2⟩
  have HX2 : Hid (IsBits w2 x (bitsTo a (wid 2))) := isBits_owns hown2
  have HB2 : Hid (Below w.heap.size w w2) := HB1.out.trans (hbel2.mono HB1.out.size)
  clear hown2 hbel2 HB1
  go_wp2_with fail
  refine (rbits_any 2 b w2 hb1 hb2).mono ?_; rintro e w3 ⟨y, rfl, hown3, hbel3⟩
  have HX3 : Hid (IsBits w3 x (bitsTo a (wid 2))) := HX2.out.below hbel3
  have HY3 : Hid (IsBits w3 y (bitsTo b (wid 2))) := isBits_owns hown3
  have HB3 : Hid (Below w.heap.size w w3) := HB2.out.trans (hbel3.mono HB2.out.size)
  clear hown3 hbel3 HB2 HX2
  rw [hN.out] at HX3 HY3
  obtain ⟨bx, ox, cx, rfl, hcx⟩ := isBits_some HX3.out (bitsTo_len a N) hN0
  obtain ⟨by', oy, cy, rfl, hcy⟩ := isBits_some HY3.out (bitsTo_len b N) hN0
  have HCX : Hid (∀ i, i < N → w3.cell? ⟨bx, ox + i, none⟩ = some (.bool ((bitsTo a N)[i]?.getD false))) := hcx
  have HCY : Hid (∀ i, i < N → w3.cell? ⟨by', oy + i, none⟩ = some (.bool ((bitsTo b N)[i]?.getD false))) := hcy
  clear hcx hcy HX3 HY3
  go_wp2_with (first | (go_at_call 9; refine (rcut_any _ _ _ (by assumption) (by assumption)).mono ?_; rintro e w' ⟨rfl, rfl⟩))
  rw [hca.out, hcb.out]
  go_loop [11, 33] (fun v c => ∃ j : Nat, j ≤ N ∧ c = .int .i64 j ∧ v = .slice none 0 0) (fun _ c => N - (intOf c).toNat)
  case atStart => exact ⟨0, Nat.zero_le _, rfl, rfl⟩
  case round =>
    obtain ⟨j, hj, rfl, rfl⟩ := hrel
    by_cases hlt : j < N
    · go_wp2
      go_round
      case rel => exact ⟨j + 1, by omega, by go_num, rfl⟩
      case measure => simp [intOf]; omega
    · go_wp2_with fail
      go_ret
      exact ⟨rfl, HB3.out⟩

set_option maxRecDepth 100000 in
set_option maxHeartbeats 4000000 in
theorem rtwo_ge_false (a b m : Int) (w : World) (hm : w.cell? ⟨0, 0, none⟩ = some (.int .i64 m)) (N : Nat) (hN : Hid (wid 2 = N)) (hN0 : 0 < N) (hN8 : N ≤ 8)
    (ha1 : -9223372036854775808 ≤ a) (ha2 : a ≤ 9223372036854775807) (hb1 : -9223372036854775808 ≤ b) (hb2 : b ≤ 9223372036854775807) (ca cb : Int) (hca : Hid (cutI 2 a = ca)) (hcb : Hid (cutI 2 b = cb)) (ca0 : 0 ≤ ca) (ca1 : ca ≤ 255) (cb0 : 0 ≤ cb) (cb1 : cb ≤ 255) (h : decide (cb ≤ ca) = false) :
    Calls Try.prog 18 #[.string ⟨#[62, 61]⟩, .int .i64 2, .int .i64 a, .int .i64 b] w fun e w' => e = .returned (.int .i64 0) ∧ Below w.heap.size w w' := by
  have HR : Hid (resI [62, 61] 2 2 = 1) := rfl
  obtain ⟨i0, hi, hz0, hz1, hz2⟩ := info_parts Try.info4
  go_enter Try.func18, Try.ntmps18
  go_wp2_with fail
  refine (rres_at ⟨#[62, 61]⟩ 2 2 m 1 _ hm (by decide) HR.out).mono ?_; rintro e w1 ⟨rfl, hbel1⟩
  have HB1 : Hid (Below w.heap.size w w1) := hbel1
  clear hbel1
  go_wp2_with fail
  refine (rbits_any 2 a w1 ha1 ha2).mono ?_; rintro e w2 ⟨x, rfl, hown2, hbel2⟩
  have HX2 : Hid (IsBits w2 x (bitsTo a (wid 2))) := isBits_owns hown2
  have HB2 : Hid (Below w.heap.size w w2) := HB1.out.trans (hbel2.mono HB1.out.size)
  clear hown2 hbel2 HB1
  go_wp2_with fail
  refine (rbits_any 2 b w2 hb1 hb2).mono ?_; rintro e w3 ⟨y, rfl, hown3, hbel3⟩
  have HX3 : Hid (IsBits w3 x (bitsTo a (wid 2))) := HX2.out.below hbel3
  have HY3 : Hid (IsBits w3 y (bitsTo b (wid 2))) := isBits_owns hown3
  have HB3 : Hid (Below w.heap.size w w3) := HB2.out.trans (hbel3.mono HB2.out.size)
  clear hown3 hbel3 HB2 HX2
  rw [hN.out] at HX3 HY3
  obtain ⟨bx, ox, cx, rfl, hcx⟩ := isBits_some HX3.out (bitsTo_len a N) hN0
  obtain ⟨by', oy, cy, rfl, hcy⟩ := isBits_some HY3.out (bitsTo_len b N) hN0
  have HCX : Hid (∀ i, i < N → w3.cell? ⟨bx, ox + i, none⟩ = some (.bool ((bitsTo a N)[i]?.getD false))) := hcx
  have HCY : Hid (∀ i, i < N → w3.cell? ⟨by', oy + i, none⟩ = some (.bool ((bitsTo b N)[i]?.getD false))) := hcy
  clear hcx hcy HX3 HY3
  go_wp2_with (first | (go_at_call 9; refine (rcut_any _ _ _ (by assumption) (by assumption)).mono ?_; rintro e w' ⟨rfl, rfl⟩))
  rw [hca.out, hcb.out]
  go_loop [11, 33] (fun v c => ∃ j : Nat, j ≤ N ∧ c = .int .i64 j ∧ v = .slice none 0 0) (fun _ c => N - (intOf c).toNat)
  case atStart => exact ⟨0, Nat.zero_le _, rfl, rfl⟩
  case round =>
    obtain ⟨j, hj, rfl, rfl⟩ := hrel
    by_cases hlt : j < N
    · go_wp2
      go_round
      case rel => exact ⟨j + 1, by omega, by go_num, rfl⟩
      case measure => simp [intOf]; omega
    · go_wp2_with fail
      go_ret
      exact ⟨rfl, HB3.out⟩

set_option maxRecDepth 100000 in
set_option maxHeartbeats 4000000 in
theorem rtwo_add (a b m : Int) (w : World) (hm : w.cell? ⟨0, 0, none⟩ = some (.int .i64 m)) (N : Nat) (hN : Hid (wid 2 = N)) (hN0 : 0 < N) (hN8 : N ≤ 8)
    (ha1 : -9223372036854775808 ≤ a) (ha2 : a ≤ 9223372036854775807) (hb1 : -9223372036854775808 ≤ b) (hb2 : b ≤ 9223372036854775807) (ca cb : Int) (hca : Hid (cutI 2 a = ca)) (hcb : Hid (cutI 2 b = cb)) (ca0 : 0 ≤ ca) (ca1 : ca ≤ 255) (cb0 : 0 ≤ cb) (cb1 : cb ≤ 255)  :
    Calls Try.prog 18 #[.string ⟨#[43]⟩, .int .i64 2, .int .i64 a, .int .i64 b] w fun e w' => e = .returned (.int .i64 (cutI 2 (ca + cb))) ∧ Below w.heap.size w w' := by
  have HR : Hid (resI [43] 2 2 = 2) := rfl
  obtain ⟨i0, hi, hz0, hz1, hz2⟩ := info_parts Try.info4
  go_enter Try.func18, Try.ntmps18
  go_wp2_with fail
  refine (rres_at ⟨#[43]⟩ 2 2 m 2 _ hm (by decide) HR.out).mono ?_; rintro e w1 ⟨rfl, hbel1⟩
  have HB1 : Hid (Below w.heap.size w w1) := hbel1
  clear hbel1
  go_wp2_with fail
  refine (rbits_any 2 a w1 ha1 ha2).mono ?_; rintro e w2 ⟨x, rfl, hown2, hbel2⟩
  have HX2 : Hid (IsBits w2 x (bitsTo a (wid 2))) := isBits_owns hown2
  have HB2 : Hid (Below w.heap.size w w2) := HB1.out.trans (hbel2.mono HB1.out.size)
  clear hown2 hbel2 HB1
  go_wp2_with fail
  refine (rbits_any 2 b w2 hb1 hb2).mono ?_; rintro e w3 ⟨y, rfl, hown3, hbel3⟩
  have HX3 : Hid (IsBits w3 x (bitsTo a (wid 2))) := HX2.out.below hbel3
  have HY3 : Hid (IsBits w3 y (bitsTo b (wid 2))) := isBits_owns hown3
  have HB3 : Hid (Below w.heap.size w w3) := HB2.out.trans (hbel3.mono HB2.out.size)
  clear hown3 hbel3 HB2 HX2
  rw [hN.out] at HX3 HY3
  obtain ⟨bx, ox, cx, rfl, hcx⟩ := isBits_some HX3.out (bitsTo_len a N) hN0
  obtain ⟨by', oy, cy, rfl, hcy⟩ := isBits_some HY3.out (bitsTo_len b N) hN0
  have HCX : Hid (∀ i, i < N → w3.cell? ⟨bx, ox + i, none⟩ = some (.bool ((bitsTo a N)[i]?.getD false))) := hcx
  have HCY : Hid (∀ i, i < N → w3.cell? ⟨by', oy + i, none⟩ = some (.bool ((bitsTo b N)[i]?.getD false))) := hcy
  clear hcx hcy HX3 HY3
  go_wp2_with (first | (go_at_call 9; refine (rcut_any _ _ _ (by assumption) (by assumption)).mono ?_; rintro e w' ⟨rfl, rfl⟩))
  rw [hca.out, hcb.out]
  go_loop [11, 33] (fun v c => ∃ j : Nat, j ≤ N ∧ c = .int .i64 j ∧ v = .slice none 0 0) (fun _ c => N - (intOf c).toNat)
  case atStart => exact ⟨0, Nat.zero_le _, rfl, rfl⟩
  case round =>
    obtain ⟨j, hj, rfl, rfl⟩ := hrel
    by_cases hlt : j < N
    · go_wp2
      go_round
      case rel => exact ⟨j + 1, by omega, by go_num, rfl⟩
      case measure => simp [intOf]; omega
    · go_wp2_with fail
      refine (rcut_any 2 (ca + cb) _ (by omega) (by omega)).mono ?_; rintro e w' ⟨rfl, rfl⟩
      go_wp2_with fail
      go_ret
      exact ⟨rfl, HB3.out⟩

set_option maxRecDepth 100000 in
set_option maxHeartbeats 4000000 in
theorem rtwo_sub (a b m : Int) (w : World) (hm : w.cell? ⟨0, 0, none⟩ = some (.int .i64 m)) (N : Nat) (hN : Hid (wid 2 = N)) (hN0 : 0 < N) (hN8 : N ≤ 8)
    (ha1 : -9223372036854775808 ≤ a) (ha2 : a ≤ 9223372036854775807) (hb1 : -9223372036854775808 ≤ b) (hb2 : b ≤ 9223372036854775807) (ca cb : Int) (hca : Hid (cutI 2 a = ca)) (hcb : Hid (cutI 2 b = cb)) (ca0 : 0 ≤ ca) (ca1 : ca ≤ 255) (cb0 : 0 ≤ cb) (cb1 : cb ≤ 255)  :
    Calls Try.prog 18 #[.string ⟨#[45]⟩, .int .i64 2, .int .i64 a, .int .i64 b] w fun e w' => e = .returned (.int .i64 (cutI 2 (ca - cb))) ∧ Below w.heap.size w w' := by
  have HR : Hid (resI [45] 2 2 = 2) := rfl
  obtain ⟨i0, hi, hz0, hz1, hz2⟩ := info_parts Try.info4
  go_enter Try.func18, Try.ntmps18
  go_wp2_with fail
  refine (rres_at ⟨#[45]⟩ 2 2 m 2 _ hm (by decide) HR.out).mono ?_; rintro e w1 ⟨rfl, hbel1⟩
  have HB1 : Hid (Below w.heap.size w w1) := hbel1
  clear hbel1
  go_wp2_with fail
  refine (rbits_any 2 a w1 ha1 ha2).mono ?_; rintro e w2 ⟨x, rfl, hown2, hbel2⟩
  have HX2 : Hid (IsBits w2 x (bitsTo a (wid 2))) := isBits_owns hown2
  have HB2 : Hid (Below w.heap.size w w2) := HB1.out.trans (hbel2.mono HB1.out.size)
  clear hown2 hbel2 HB1
  go_wp2_with fail
  refine (rbits_any 2 b w2 hb1 hb2).mono ?_; rintro e w3 ⟨y, rfl, hown3, hbel3⟩
  have HX3 : Hid (IsBits w3 x (bitsTo a (wid 2))) := HX2.out.below hbel3
  have HY3 : Hid (IsBits w3 y (bitsTo b (wid 2))) := isBits_owns hown3
  have HB3 : Hid (Below w.heap.size w w3) := HB2.out.trans (hbel3.mono HB2.out.size)
  clear hown3 hbel3 HB2 HX2
  rw [hN.out] at HX3 HY3
  obtain ⟨bx, ox, cx, rfl, hcx⟩ := isBits_some HX3.out (bitsTo_len a N) hN0
  obtain ⟨by', oy, cy, rfl, hcy⟩ := isBits_some HY3.out (bitsTo_len b N) hN0
  have HCX : Hid (∀ i, i < N → w3.cell? ⟨bx, ox + i, none⟩ = some (.bool ((bitsTo a N)[i]?.getD false))) := hcx
  have HCY : Hid (∀ i, i < N → w3.cell? ⟨by', oy + i, none⟩ = some (.bool ((bitsTo b N)[i]?.getD false))) := hcy
  clear hcx hcy HX3 HY3
  go_wp2_with (first | (go_at_call 9; refine (rcut_any _ _ _ (by assumption) (by assumption)).mono ?_; rintro e w' ⟨rfl, rfl⟩))
  rw [hca.out, hcb.out]
  go_loop [11, 33] (fun v c => ∃ j : Nat, j ≤ N ∧ c = .int .i64 j ∧ v = .slice none 0 0) (fun _ c => N - (intOf c).toNat)
  case atStart => exact ⟨0, Nat.zero_le _, rfl, rfl⟩
  case round =>
    obtain ⟨j, hj, rfl, rfl⟩ := hrel
    by_cases hlt : j < N
    · go_wp2
      go_round
      case rel => exact ⟨j + 1, by omega, by go_num, rfl⟩
      case measure => simp [intOf]; omega
    · go_wp2_with fail
      refine (rcut_any 2 (ca - cb) _ (by omega) (by omega)).mono ?_; rintro e w' ⟨rfl, rfl⟩
      go_wp2_with fail
      go_ret
      exact ⟨rfl, HB3.out⟩

set_option maxHeartbeats 1600000 in
theorem rtwo_zero (op : ByteArray) (k a b m : Int) (w : World) (hm : w.cell? ⟨0, 0, none⟩ = some (.int .i64 m)) (h20 : op.size ≤ 20) (hr : resI op.data.toList k k = 0) :
    Calls Try.prog 18 #[.string op, .int .i64 k, .int .i64 a, .int .i64 b] w fun e w' => e = .returned (.int .i64 0) ∧ Below w.heap.size w w' := by
  have HR : Hid (resI op.data.toList k k = 0) := hr
  clear hr
  go_enter Try.func18, Try.ntmps18
  go_wp2_with fail
  refine (rres_at op k k m 0 _ hm h20 HR.out).mono ?_; rintro e w1 ⟨rfl, hbel1⟩
  go_wp2_with fail
  go_ret
  exact ⟨rfl, hbel1⟩

/-! ### plain: bit by bit is as of the numbers -/
theorem testBit_ofTo (l : List Bool) (i : Nat) : ∀ n, (ofTo l n).testBit i = (decide (i < n) && l[i]?.getD false) := by
  intro n
  induction n with
  | zero => simp [ofTo]
  | succ n ih =>
    have h := ofTo_lt l n
    have e : ofTo l (n + 1) = (if l[n]?.getD false then 2 ^ n else 0) ||| ofTo l n := by
      simp only [ofTo]
      split
      · rw [nat_join n (2 ^ n) (ofTo l n) (Nat.mod_self _) h]; omega
      · simp
    rw [e, Nat.testBit_or, ih]
    by_cases hin : i = n
    · subst hin
      cases hb : l[i]?.getD false <;> simp
    · have h2 : decide (i < n + 1) = decide (i < n) := by simp only [decide_eq_decide]; omega
      rw [h2]
      cases hb : l[n]?.getD false
      · simp
      · simp [Ne.symm hin]
theorem zipTo_get (f : Bool → Bool → Bool) (X Y : List Bool) (N i : Nat) (h : i < N) : (zipTo f X Y N)[i]?.getD false = f (X[i]?.getD false) (Y[i]?.getD false) := by simp [zipTo, h]
theorem cut_ofTo (k a : Int) : (cutI k a).toNat = ofTo (bitsTo a (wid k)) (wid k) := by
  have := ofTo_bits a (wid k) (wid k) (Nat.le_refl _)
  rw [mod_wid] at this
  unfold cutI
  rw [← this]
  simp
theorem zip_and (X Y : List Bool) (N : Nat) : ofTo (zipTo and X Y N) N = ofTo X N &&& ofTo Y N := by
  apply Nat.eq_of_testBit_eq
  intro i
  rw [Nat.testBit_and, testBit_ofTo, testBit_ofTo, testBit_ofTo]
  by_cases h : i < N
  · rw [zipTo_get _ _ _ _ _ h]; simp [h]
  · simp [h]
theorem zip_or (X Y : List Bool) (N : Nat) : ofTo (zipTo or X Y N) N = ofTo X N ||| ofTo Y N := by
  apply Nat.eq_of_testBit_eq
  intro i
  rw [Nat.testBit_or, testBit_ofTo, testBit_ofTo, testBit_ofTo]
  by_cases h : i < N
  · rw [zipTo_get _ _ _ _ _ h]; simp [h]
  · simp [h]
theorem zip_xor (X Y : List Bool) (N : Nat) : ofTo (zipTo bne X Y N) N = ofTo X N ^^^ ofTo Y N := by
  apply Nat.eq_of_testBit_eq
  intro i
  rw [Nat.testBit_xor, testBit_ofTo, testBit_ofTo, testBit_ofTo]
  by_cases h : i < N
  · rw [zipTo_get _ _ _ _ _ h]; simp [h]
  · simp [h]

theorem z_and (k a b : Int) (hk : k = 1 ∨ k = 2) : ((ofTo (zipTo and (bitsTo a (wid k)) (bitsTo b (wid k)) (wid k)) (wid k) : Nat) : Int) = twoI [97, 110, 100] k a b := by
  rw [twoI_yes _ k a b (by rcases hk with rfl | rfl <;> decide), zip_and, ← cut_ofTo, ← cut_ofTo]; rfl
theorem z_or (k a b : Int) (hk : k = 1 ∨ k = 2) : ((ofTo (zipTo or (bitsTo a (wid k)) (bitsTo b (wid k)) (wid k)) (wid k) : Nat) : Int) = twoI [111, 114] k a b := by
  rw [twoI_yes _ k a b (by rcases hk with rfl | rfl <;> decide), zip_or, ← cut_ofTo, ← cut_ofTo]; rfl
theorem z_xor (k a b : Int) (hk : k = 1 ∨ k = 2) : ((ofTo (zipTo bne (bitsTo a (wid k)) (bitsTo b (wid k)) (wid k)) (wid k) : Nat) : Int) = twoI [120, 111, 114] k a b := by
  rw [twoI_yes _ k a b (by rcases hk with rfl | rfl <;> decide), zip_xor, ← cut_ofTo, ← cut_ofTo]; rfl
end Go.Proofs.Ytmoakccnjahfeaa
