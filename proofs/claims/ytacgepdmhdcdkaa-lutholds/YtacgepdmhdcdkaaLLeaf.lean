/-
  CONTRACTS of below, first, right, of the closure in Right.
-/
import Derived.Test.YtacgepdmhdcdkaaLMem
set_option linter.unusedSimpArgs false
set_option linter.unusedVariables false
namespace Go.Proofs.Ytacgepdmhdcdkaa
open Go.RowKit

set_option maxRecDepth 100000 in
set_option maxHeartbeats 1600000 in
theorem lbelow_at (k m : Int) (w : World) : Calls Try.prog 17 #[.int .i64 k, .int .i64 m] w fun e w' => e = .returned (.bool (inR k m)) ∧ w' = w := by
  by_cases h0 : 0 ≤ k
  · go_enter Try.func17, Try.ntmps17
    go_wp2
    go_ret
    exact ⟨ret_bool (by simp [inR, h0]), rfl⟩
  · have h1 : k < 0 := by omega
    go_enter Try.func17, Try.ntmps17
    go_wp2
    go_ret
    exact ⟨ret_bool (by simp [inR]; omega), rfl⟩
theorem lbelow_is (k m : Int) (r : Bool) (h : inR k m = r) (w : World) : Calls Try.prog 17 #[.int .i64 k, .int .i64 m] w fun e w' => e = .returned (.bool r) ∧ w' = w := h ▸ lbelow_at k m w

set_option maxRecDepth 100000 in
set_option maxHeartbeats 1600000 in
theorem lfirst_at (P g f : Nat) (ra : Option Addr) (rn rc : Nat) (w : World) (h0 : w.cell? ⟨P, 0, none⟩ = some (.int .i64 g)) (h1 : w.cell? ⟨P, 1, none⟩ = some (.slice ra rn rc)) (hf : f = g + rn) (hb : f ≤ 1000000) :
    Calls Try.prog 18 #[.pointer (some ⟨P, 0, none⟩)] w fun e w' => e = .returned (.int .i64 f) ∧ ∃ m, w' = w.drewN m := by
  subst hf
  go_enter Try.func18, Try.ntmps18
  go_wp2_with fail
  go_quiet (fail)
  go_wp2_with fail
  go_ret
  exact ⟨ret_int (by go_num), _, rfl⟩

set_option maxRecDepth 100000 in
set_option maxHeartbeats 1600000 in
theorem lthere_at (X P g m f : Nat) (ra la : Option Addr) (rn rc ln lc : Nat) (k : Int) (w : World) (hX : w.cell? ⟨X, 0, none⟩ = some (.pointer (some ⟨P, 0, none⟩))) (h0 : w.cell? ⟨P, 0, none⟩ = some (.int .i64 g)) (h1 : w.cell? ⟨P, 1, none⟩ = some (.slice ra rn rc)) (h2 : w.cell? ⟨P, 2, none⟩ = some (.slice la ln lc)) (hf : f = g + rn) (hm : m = f + ln) (hb : m ≤ 1000000) :
    Calls Try.prog 16 #[.int .i64 k, .pointer (some ⟨X, 0, none⟩)] w fun e w' => e = .returned (.bool (inR k m)) ∧ ∃ m, w' = w.drewN m := by
  have HF := hide fun n => lfirst_at P g f ra rn rc (w.drewN n) h0 h1 hf (by omega)
  have HBL : Hid (∀ (n : Nat) (r : Int), r = m → Calls Try.prog 17 #[.int .i64 k, .int .i64 r] (w.drewN n) fun e w' => e = .returned (.bool (inR k m)) ∧ w' = w.drewN n) := hide fun n r hr => hr ▸ lbelow_at k r (w.drewN n)
  subst hm
  go_enter Try.func16, Try.ntmps16
  go_wp2_with fail
  go_quiet (first | (with_reducible exact Calls.quiet_of (HF.out _)) | ((with_reducible refine Calls.quiet_of_same (HBL.out _ _ ?_)); go_num))
  go_wp2_with fail
  go_ret
  exact ⟨rfl, _, rfl⟩
end Go.Proofs.Ytacgepdmhdcdkaa
