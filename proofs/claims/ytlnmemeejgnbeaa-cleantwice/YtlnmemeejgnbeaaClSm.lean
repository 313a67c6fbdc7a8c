/-
  CONTRACT of small.
-/
import Derived.Test.YtlnmemeejgnbeaaClCd
set_option linter.unusedSimpArgs false
set_option linter.unusedVariables false
namespace Go.Proofs.Ytlnmemeejgnbeaa
open Go.RowKit

def smallP (given : Int) (n m : Nat) : Bool := decide ((n : Int) ≤ 60) && (decide ((m : Int) ≤ 30) && decide (given ≤ 200))
set_option maxRecDepth 100000 in
set_option maxHeartbeats 3200000 in
theorem small_at (given : Int) (na oa : Option Addr) (n nc m oc : Nat) (w : World) : Calls Try.prog 13 #[.agg #[.int .i64 given, .slice na n nc, .slice oa m oc]] w fun e w' => e = .returned (.bool (smallP given n m)) ∧ Below w.heap.size w w' := by
  by_cases h1 : (n : Int) ≤ 60
  · by_cases h2 : (m : Int) ≤ 30
    · have hd : smallP given n m = decide (given ≤ 200) := by simp [smallP, h1, h2]
      rw [hd]
      have h1b : decide ((n : Int) ≤ 60) = true := by simpa using h1
      have h2b : decide ((m : Int) ≤ 30) = true := by simpa using h2
      clear hd
      go_enter Try.func13, Try.ntmps13
      go_wp2_with fail
      go_ret
      exact ⟨rfl, below_alloc _ _⟩
    · have hd : smallP given n m = false := by simp [smallP, h2]
      rw [hd]
      have h1b : decide ((n : Int) ≤ 60) = true := by simpa using h1
      have h2b : decide ((m : Int) ≤ 30) = false := by simpa using h2
      clear hd
      go_enter Try.func13, Try.ntmps13
      go_wp2_with fail
      go_ret
      exact ⟨rfl, below_alloc _ _⟩
  · have hd : smallP given n m = false := by simp [smallP, h1]
    rw [hd]
    have h1b : decide ((n : Int) ≤ 60) = false := by simpa using h1
    clear hd
    go_enter Try.func13, Try.ntmps13
    go_wp2_with fail
    go_ret
    exact ⟨rfl, below_alloc _ _⟩
end Go.Proofs.Ytlnmemeejgnbeaa
