/-
  CONTRACT of tokens of the reference: letters, digits; and what a token is.
-/
import Derived.Test.YtlbgdoajaplabaaGreatDoorRDecls
import Derived.Test.YtlbgdoajaplabaaGreatDoorJPast
namespace Go.Proofs.YtlbgdoajaplabaaGreatDoor
open Go.RowKit
set_option linter.unusedSimpArgs false
set_option linter.unusedVariables false

def digB (c : UInt8) : Bool := decide (48 ≤ c.toNat) && decide (c.toNat ≤ 57)
def lowB (c : UInt8) : Bool := (decide (97 ≤ c.toNat) && decide (c.toNat ≤ 122)) || c.toNat == 95
def blB (c : UInt8) : Bool := c.toNat == 32 || c.toNat == 9 || c.toNat == 10
theorem all_bytes (P : UInt8 → Prop) (h : ∀ n, n < 256 → P (UInt8.ofNat n)) (c : UInt8) : P c := by
  have := h c.toNat c.toNat_lt
  simpa using this
set_option maxRecDepth 100000 in
theorem dig_is (c : UInt8) : isDg c = digB c := by
  revert c
  exact all_bytes _ (by decide)
set_option maxRecDepth 100000 in
theorem ld_is (c : UInt8) : isLd c = (lowB c || digB c) := by
  revert c
  exact all_bytes _ (by decide)
set_option maxRecDepth 100000 in
theorem bl_is (c : UInt8) : isBl c = blB c := by
  revert c
  exact all_bytes _ (by decide)
theorem natI (n m : Nat) : (((n : Nat) : Int) == (m : Int)) = (n == m) := by
  cases h : (n == m) with
  | true => rw [beq_iff_eq] at *; omega
  | false => rw [beq_eq_false_iff_ne] at *; omega

set_option maxRecDepth 100000 in
set_option maxHeartbeats 3200000 in
theorem rlow_at (c : UInt8) (w : World) : Calls Tryz.prog 37 #[.int .u8 c.toNat] w fun e w' => e = .returned (.bool (lowB c)) ∧ w' = w := by
  have q3 : ((c.toNat : Int) == (95 : Int)) = (c.toNat == 95) := natI c.toNat 95
  by_cases h1 : 97 ≤ c.toNat
  · have h1' : (97 : Int) ≤ (c.toNat : Int) := by omega
    by_cases h2 : c.toNat ≤ 122
    · have h2' : (c.toNat : Int) ≤ (122 : Int) := by omega
      have e : lowB c = true := by simp [lowB, h1, h2]
      rw [e]
      go_enter Tryz.func37, Tryz.ntmps37
      go_wp2_with fail
      go_ret
      exact ⟨rfl, rfl⟩
    · have h2' : ¬ (c.toNat : Int) ≤ (122 : Int) := by omega
      have e : lowB c = false := by simp [lowB]; omega
      rw [e]
      go_enter Tryz.func37, Tryz.ntmps37
      go_wp2_with fail
      go_ret
      exact ⟨ret_bool (by rw [beq_eq_false_iff_ne]; omega), rfl⟩
  · have h1' : ¬ (97 : Int) ≤ (c.toNat : Int) := by omega
    have e : lowB c = (c.toNat == 95) := by simp [lowB, h1]
    rw [e]
    go_enter Tryz.func37, Tryz.ntmps37
    go_wp2_with fail
    go_ret
    exact ⟨rfl, rfl⟩

set_option maxRecDepth 100000 in
set_option maxHeartbeats 3200000 in
theorem rdig_at (c : UInt8) (w : World) : Calls Tryz.prog 38 #[.int .u8 c.toNat] w fun e w' => e = .returned (.bool (digB c)) ∧ w' = w := by
  by_cases h1 : 48 ≤ c.toNat
  · have h1' : (48 : Int) ≤ (c.toNat : Int) := by omega
    by_cases h2 : c.toNat ≤ 57
    · have h2' : (c.toNat : Int) ≤ (57 : Int) := by omega
      have e : digB c = true := by simp [digB, h1, h2]
      rw [e]
      go_enter Tryz.func38, Tryz.ntmps38
      go_wp2_with fail
      go_ret
      exact ⟨rfl, rfl⟩
    · have h2' : ¬ (c.toNat : Int) ≤ (57 : Int) := by omega
      have e : digB c = false := by simp [digB]; omega
      rw [e]
      go_enter Tryz.func38, Tryz.ntmps38
      go_wp2_with fail
      go_ret
      exact ⟨rfl, rfl⟩
  · have h1' : ¬ (48 : Int) ≤ (c.toNat : Int) := by omega
    have e : digB c = false := by simp [digB]; omega
    rw [e]
    go_enter Tryz.func38, Tryz.ntmps38
    go_wp2_with fail
    go_ret
    exact ⟨rfl, rfl⟩
end Go.Proofs.YtlbgdoajaplabaaGreatDoor
