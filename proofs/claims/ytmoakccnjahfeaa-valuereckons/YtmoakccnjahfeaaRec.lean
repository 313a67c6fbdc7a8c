/-
  CONTRACT of rungworkkeep.reckoned (it returns true; it writes nothing that was there), and contracts of Two, Not, Of at results that are known.
-/
import Derived.Test.YtmoakccnjahfeaaOf
namespace Go.Proofs.Ytmoakccnjahfeaa
open Go.RowKit

theorem two_at (op : ByteArray) (k a b r : Int) (w : World) (h : twoI op.data.toList k a b = r) :
    Calls Try.prog 17 #[.string op, .int .i64 k, .int .i64 a, .int .i64 b] w fun e w' => e = .returned (.int .i64 r) ∧ w' = w := by
  rw [← h]; exact two_any op k a b w
theorem not_at (k n r : Int) (w : World) (h1 : -9223372036854775808 ≤ n) (h2 : n ≤ 9223372036854775807) (h : cutI k (-1 - n) = r) :
    Calls Try.prog 19 #[.int .i64 k, .int .i64 n] w fun e w' => e = .returned (.int .i64 r) ∧ w' = w := by
  rw [← h]; exact not_any k n w h1 h2

theorem ofbits_at (k n r : Int) (v : Value) (w : World) (h : IsBits w v (bitsTo n (wid k))) (hr : cutI k n = r) :
    Calls Try.prog 13 #[v] w fun e w' => e = .returned (.int .i64 r) ∧ w' = w := by
  rw [← hr, ← of_bits k n]; exact of_any _ v w h

set_option maxHeartbeats 1600000 in
theorem reckoned_any (w : World) :
    Calls Try.prog 21 #[] w fun e w' => e = .returned (.bool true) ∧ Below w.heap.size w w' := by
  go_enter Try.func21, Try.ntmps21
  go_wp2_with fail
  refine (two_at ⟨#[43]⟩ 2 250 10 4 _ (by decide)).mono ?_; rintro e w' ⟨rfl, rfl⟩
  go_wp2_with fail
  refine (two_at ⟨#[45]⟩ 2 3 5 254 _ (by decide)).mono ?_; rintro e w' ⟨rfl, rfl⟩
  go_wp2_with fail
  refine (two_at ⟨#[60]⟩ 2 3 200 1 _ (by decide)).mono ?_; rintro e w' ⟨rfl, rfl⟩
  go_wp2_with fail
  refine (not_at 1 1 0 _ (by omega) (by omega) (by decide)).mono ?_; rintro e w' ⟨rfl, rfl⟩
  go_wp2_with fail
  refine (bits_any 2 77 _).mono ?_; rintro e w1 ⟨v, rfl, hown, hbel⟩
  go_wp2_with fail
  refine (ofbits_at 2 77 77 v _ (isBits_owns hown) (by decide)).mono ?_; rintro e w' ⟨rfl, rfl⟩
  go_wp2_with fail
  go_ret
  exact ⟨rfl, hbel⟩
end Go.Proofs.Ytmoakccnjahfeaa
