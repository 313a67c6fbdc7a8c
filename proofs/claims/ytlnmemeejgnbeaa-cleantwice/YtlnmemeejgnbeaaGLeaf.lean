/-
  CONTRACTS of below, of the closure in right, of right.
-/
import Derived.Test.YtlnmemeejgnbeaaGMem
import Derived.Deep.RegionHeld3
set_option linter.unusedSimpArgs false
set_option linter.unusedVariables false
namespace Go.Proofs.Ytlnmemeejgnbeaa
open Go.RowKit

set_option maxRecDepth 100000 in
set_option maxHeartbeats 1600000 in
theorem below_at (k m : Int) (w : World) : Calls Try.prog 21 #[.int .i64 k, .int .i64 m] w fun e w' => e = .returned (.bool (inR k m)) ∧ w' = w := by
  by_cases h0 : 0 ≤ k
  · go_enter Try.func21, Try.ntmps21
    go_wp2
    go_ret
    exact ⟨ret_bool (by simp [inR, h0]), rfl⟩
  · have h1 : k < 0 := by omega
    go_enter Try.func21, Try.ntmps21
    go_wp2
    go_ret
    exact ⟨ret_bool (by simp [inR]; omega), rfl⟩

set_option maxRecDepth 100000 in
set_option maxHeartbeats 1600000 in
theorem aheadR_at (k m : Int) (P : Nat) (w : World) (hp : w.cell? ⟨P, 0, none⟩ = some (.int .i64 m)) : Calls Try.prog 30 #[.int .i64 k, .pointer (some ⟨P, 0, none⟩)] w fun e w' => e = .returned (.bool (inR k m)) ∧ w' = w := by
  go_enter Try.func30, Try.ntmps30
  go_wp2_with fail
  refine (below_at _ _ _).mono ?_
  rintro e w' ⟨rfl, rfl⟩
  go_wp2_with fail
  go_ret
  exact ⟨rfl, rfl⟩

theorem below_is (k m : Int) (r : Bool) (h : inR k m = r) (w : World) : Calls Try.prog 21 #[.int .i64 k, .int .i64 m] w fun e w' => e = .returned (.bool r) ∧ w' = w := h ▸ below_at k m w
theorem Below.drewNs {n : Nat} {w w' : World} (h : Below n w w') (k : Nat) : Below n w (w'.drewN k) := ⟨h.os, h.tape, h.output, h.size, h.block⟩

/-- right, at a node of which the op is known -/
abbrev RightAt (P i n nc b off : Nat) (ao : Value) (given op a bb nx : Int) (w : World) (r : Bool) : Prop :=
  (i : Int) < (n : Int) → w.cell? ⟨P, 0, none⟩ = some (.int .i64 given) → w.cell? ⟨P, 1, none⟩ = some (.slice (some ⟨b, off, none⟩) n nc) → 
  w.cell? ⟨b, off + i * 4, none⟩ = some (.int .i64 op) → w.cell? ⟨b, off + i * 4 + 1, none⟩ = some (.int .i64 a) → w.cell? ⟨b, off + i * 4 + 2, none⟩ = some (.int .i64 bb) → w.cell? ⟨b, off + i * 4 + 3, none⟩ = some (.int .i64 nx) →
  Calls Try.prog 20 #[.pointer (some ⟨P, 0, none⟩), .int .i64 i] w fun e w' => e = .returned (.bool r) ∧ Below w.heap.size w w'

set_option maxRecDepth 100000 in
set_option maxHeartbeats 1600000 in
theorem right_1 (P i n nc b off : Nat) (ao : Value) (given a bb nx : Int) (w : World) : RightAt P i n nc b off ao given 1 a bb nx w true := by
  intro hin h0 h1 n0 n1 n2 n3
  have hPl := cell_lt h0
  have hbl := cell_lt n0
  simp only at hPl hbl
  have h0 := fun o o' => cell_alloc (cell_alloc h0 o) o'
  have h1a := fun o => cell_alloc h1 o
  have h1 := fun o o' => cell_alloc (cell_alloc h1 o) o'
  have n0 := fun o => cell_alloc n0 o
  have n1 := fun o => cell_alloc n1 o
  have n2 := fun o => cell_alloc n2 o
  have n3 := fun o => cell_alloc n3 o
  have hmf : ∀ (fn : Fn) (first cap : Array Value) (w : World), (Instr.makeFunc fn first cap).run Try.prog w = .ok (.func fn first cap) w := fun _ _ _ _ => rfl
  go_enter Try.func20, Try.ntmps20
  go_wp2_with fail
  go_region
  go_wp2_with fail
  go_ret
  exact ⟨rfl, (((Below.refl _ _).alloc (Nat.le_refl _) _).alloc (by simp) _).drew⟩

set_option maxRecDepth 100000 in
set_option maxHeartbeats 1600000 in
theorem right_2 (P i n nc b off : Nat) (ao : Value) (given a bb nx : Int) (w : World) : RightAt P i n nc b off ao given 2 a bb nx w true := by
  intro hin h0 h1 n0 n1 n2 n3
  have hPl := cell_lt h0
  have hbl := cell_lt n0
  simp only at hPl hbl
  have h0 := fun o o' => cell_alloc (cell_alloc h0 o) o'
  have h1a := fun o => cell_alloc h1 o
  have h1 := fun o o' => cell_alloc (cell_alloc h1 o) o'
  have n0 := fun o => cell_alloc n0 o
  have n1 := fun o => cell_alloc n1 o
  have n2 := fun o => cell_alloc n2 o
  have n3 := fun o => cell_alloc n3 o
  have hmf : ∀ (fn : Fn) (first cap : Array Value) (w : World), (Instr.makeFunc fn first cap).run Try.prog w = .ok (.func fn first cap) w := fun _ _ _ _ => rfl
  go_enter Try.func20, Try.ntmps20
  go_wp2_with fail
  go_region
  go_wp2_with fail
  go_ret
  exact ⟨rfl, (((Below.refl _ _).alloc (Nat.le_refl _) _).alloc (by simp) _).drew⟩

set_option maxRecDepth 100000 in
set_option maxHeartbeats 1600000 in
theorem right_3 (P i n nc b off : Nat) (ao : Value) (given a bb nx : Int) (w : World) : RightAt P i n nc b off ao given 3 a bb nx w (inR a given) := by
  intro hin h0 h1 n0 n1 n2 n3
  have hPl := cell_lt h0
  have hbl := cell_lt n0
  simp only at hPl hbl
  have h0 := fun o o' => cell_alloc (cell_alloc h0 o) o'
  have h1a := fun o => cell_alloc h1 o
  have h1 := fun o o' => cell_alloc (cell_alloc h1 o) o'
  have n0 := fun o => cell_alloc n0 o
  have n1 := fun o => cell_alloc n1 o
  have n2 := fun o => cell_alloc n2 o
  have n3 := fun o => cell_alloc n3 o
  have hmf : ∀ (fn : Fn) (first cap : Array Value) (w : World), (Instr.makeFunc fn first cap).run Try.prog w = .ok (.func fn first cap) w := fun _ _ _ _ => rfl
  go_enter Try.func20, Try.ntmps20
  go_wp2_with fail
  go_region
  go_wp2_with fail
  have HB : Hid (Below w.heap.size w (((w.alloc (.cells #[.int .i64 i] 3)).alloc (.cells #[.int .i64 3, .int .i64 a, .int .i64 bb, .int .i64 nx] 26)).drew)) := hide ((((Below.refl _ _).alloc (Nat.le_refl _) _).alloc (by simp) _).drew)
  have f0 : (((w.alloc (.cells #[.int .i64 i] 3)).alloc (.cells #[.int .i64 3, .int .i64 a, .int .i64 bb, .int .i64 nx] 26)).drew).cell? ⟨P, 0, none⟩ = some (.int .i64 given) := h0 _ _
  have f1 : (((w.alloc (.cells #[.int .i64 i] 3)).alloc (.cells #[.int .i64 3, .int .i64 a, .int .i64 bb, .int .i64 nx] 26)).drew).cell? ⟨P, 1, none⟩ = some (.slice (some ⟨b, off, none⟩) n nc) := h1 _ _
  have x1 : (((w.alloc (.cells #[.int .i64 i] 3)).alloc (.cells #[.int .i64 3, .int .i64 a, .int .i64 bb, .int .i64 nx] 26)).drew).cell? ⟨w.heap.size + 1, 1, none⟩ = some (.int .i64 a) := by go_simp
  have x3 : (((w.alloc (.cells #[.int .i64 i] 3)).alloc (.cells #[.int .i64 3, .int .i64 a, .int .i64 bb, .int .i64 nx] 26)).drew).cell? ⟨w.heap.size + 1, 3, none⟩ = some (.int .i64 nx) := by go_simp
  generalize (((w.alloc (.cells #[.int .i64 i] 3)).alloc (.cells #[.int .i64 3, .int .i64 a, .int .i64 bb, .int .i64 nx] 26)).drew) = W at *
  clear h0 h1 h1a n0 n1 n2 n3
  go_quiet ((go_at_call 21; exact Calls.quiet_of_same (below_at _ _ _)))
  go_wp2_with fail
  go_ret
  exact ⟨rfl, Below.drewNs HB.out _⟩

set_option maxRecDepth 100000 in
set_option maxHeartbeats 1600000 in
theorem right_4t (P i n nc b off : Nat) (ao : Value) (given a bb nx : Int) (w : World) (hq : inR a 2 = true) : RightAt P i n nc b off ao given 4 a bb nx w (inR nx n) := by
  intro hin h0 h1 n0 n1 n2 n3
  have hPl := cell_lt h0
  have hbl := cell_lt n0
  simp only at hPl hbl
  have h0 := fun o o' => cell_alloc (cell_alloc h0 o) o'
  have h1a := fun o => cell_alloc h1 o
  have h1 := fun o o' => cell_alloc (cell_alloc h1 o) o'
  have n0 := fun o => cell_alloc n0 o
  have n1 := fun o => cell_alloc n1 o
  have n2 := fun o => cell_alloc n2 o
  have n3 := fun o => cell_alloc n3 o
  have hmf : ∀ (fn : Fn) (first cap : Array Value) (w : World), (Instr.makeFunc fn first cap).run Try.prog w = .ok (.func fn first cap) w := fun _ _ _ _ => rfl
  go_enter Try.func20, Try.ntmps20
  go_wp2_with fail
  go_region
  go_wp2_with fail
  have HB : Hid (Below w.heap.size w (((w.alloc (.cells #[.int .i64 i] 3)).alloc (.cells #[.int .i64 4, .int .i64 a, .int .i64 bb, .int .i64 nx] 26)).drew)) := hide ((((Below.refl _ _).alloc (Nat.le_refl _) _).alloc (by simp) _).drew)
  have f0 : (((w.alloc (.cells #[.int .i64 i] 3)).alloc (.cells #[.int .i64 4, .int .i64 a, .int .i64 bb, .int .i64 nx] 26)).drew).cell? ⟨P, 0, none⟩ = some (.int .i64 given) := h0 _ _
  have f1 : (((w.alloc (.cells #[.int .i64 i] 3)).alloc (.cells #[.int .i64 4, .int .i64 a, .int .i64 bb, .int .i64 nx] 26)).drew).cell? ⟨P, 1, none⟩ = some (.slice (some ⟨b, off, none⟩) n nc) := h1 _ _
  have x1 : (((w.alloc (.cells #[.int .i64 i] 3)).alloc (.cells #[.int .i64 4, .int .i64 a, .int .i64 bb, .int .i64 nx] 26)).drew).cell? ⟨w.heap.size + 1, 1, none⟩ = some (.int .i64 a) := by go_simp
  have x3 : (((w.alloc (.cells #[.int .i64 i] 3)).alloc (.cells #[.int .i64 4, .int .i64 a, .int .i64 bb, .int .i64 nx] 26)).drew).cell? ⟨w.heap.size + 1, 3, none⟩ = some (.int .i64 nx) := by go_simp
  generalize (((w.alloc (.cells #[.int .i64 i] 3)).alloc (.cells #[.int .i64 4, .int .i64 a, .int .i64 bb, .int .i64 nx] 26)).drew) = W at *
  clear h0 h1 h1a n0 n1 n2 n3
  go_quiet ((go_at_call 21; exact Calls.quiet_of_same (below_at _ _ _)))
  go_wp2_with fail
  go_ret
  exact ⟨rfl, Below.drewNs HB.out _⟩

set_option maxRecDepth 100000 in
set_option maxHeartbeats 1600000 in
theorem right_4f (P i n nc b off : Nat) (ao : Value) (given a bb nx : Int) (w : World) (hq : inR a 2 = false) : RightAt P i n nc b off ao given 4 a bb nx w false := by
  intro hin h0 h1 n0 n1 n2 n3
  have hPl := cell_lt h0
  have hbl := cell_lt n0
  simp only at hPl hbl
  have h0 := fun o o' => cell_alloc (cell_alloc h0 o) o'
  have h1a := fun o => cell_alloc h1 o
  have h1 := fun o o' => cell_alloc (cell_alloc h1 o) o'
  have n0 := fun o => cell_alloc n0 o
  have n1 := fun o => cell_alloc n1 o
  have n2 := fun o => cell_alloc n2 o
  have n3 := fun o => cell_alloc n3 o
  have hmf : ∀ (fn : Fn) (first cap : Array Value) (w : World), (Instr.makeFunc fn first cap).run Try.prog w = .ok (.func fn first cap) w := fun _ _ _ _ => rfl
  go_enter Try.func20, Try.ntmps20
  go_wp2_with fail
  go_region
  go_wp2_with fail
  have HB : Hid (Below w.heap.size w (((w.alloc (.cells #[.int .i64 i] 3)).alloc (.cells #[.int .i64 4, .int .i64 a, .int .i64 bb, .int .i64 nx] 26)).drew)) := hide ((((Below.refl _ _).alloc (Nat.le_refl _) _).alloc (by simp) _).drew)
  have f0 : (((w.alloc (.cells #[.int .i64 i] 3)).alloc (.cells #[.int .i64 4, .int .i64 a, .int .i64 bb, .int .i64 nx] 26)).drew).cell? ⟨P, 0, none⟩ = some (.int .i64 given) := h0 _ _
  have f1 : (((w.alloc (.cells #[.int .i64 i] 3)).alloc (.cells #[.int .i64 4, .int .i64 a, .int .i64 bb, .int .i64 nx] 26)).drew).cell? ⟨P, 1, none⟩ = some (.slice (some ⟨b, off, none⟩) n nc) := h1 _ _
  have x1 : (((w.alloc (.cells #[.int .i64 i] 3)).alloc (.cells #[.int .i64 4, .int .i64 a, .int .i64 bb, .int .i64 nx] 26)).drew).cell? ⟨w.heap.size + 1, 1, none⟩ = some (.int .i64 a) := by go_simp
  have x3 : (((w.alloc (.cells #[.int .i64 i] 3)).alloc (.cells #[.int .i64 4, .int .i64 a, .int .i64 bb, .int .i64 nx] 26)).drew).cell? ⟨w.heap.size + 1, 3, none⟩ = some (.int .i64 nx) := by go_simp
  generalize (((w.alloc (.cells #[.int .i64 i] 3)).alloc (.cells #[.int .i64 4, .int .i64 a, .int .i64 bb, .int .i64 nx] 26)).drew) = W at *
  clear h0 h1 h1a n0 n1 n2 n3
  go_quiet ((go_at_call 21; exact Calls.quiet_of_same (below_is _ _ false hq _)))
  go_wp2_with fail
  go_ret
  exact ⟨rfl, Below.drewNs HB.out _⟩

set_option maxRecDepth 100000 in
set_option maxHeartbeats 1600000 in
theorem right_5t (P i n nc b off : Nat) (ao : Value) (given a bb nx : Int) (w : World) (hq : inR a i = true) : RightAt P i n nc b off ao given 5 a bb nx w (inR bb i) := by
  intro hin h0 h1 n0 n1 n2 n3
  have hPl := cell_lt h0
  have hbl := cell_lt n0
  simp only at hPl hbl
  have h0 := fun o o' => cell_alloc (cell_alloc h0 o) o'
  have h1a := fun o => cell_alloc h1 o
  have h1 := fun o o' => cell_alloc (cell_alloc h1 o) o'
  have n0 := fun o => cell_alloc n0 o
  have n1 := fun o => cell_alloc n1 o
  have n2 := fun o => cell_alloc n2 o
  have n3 := fun o => cell_alloc n3 o
  have hmf : ∀ (fn : Fn) (first cap : Array Value) (w : World), (Instr.makeFunc fn first cap).run Try.prog w = .ok (.func fn first cap) w := fun _ _ _ _ => rfl
  go_enter Try.func20, Try.ntmps20
  go_wp2_with fail
  go_region
  go_wp2_with fail
  refine (aheadR_at _ i w.heap.size _ (by go_simp)).mono ?_
  rintro e w' ⟨rfl, rfl⟩
  rw [hq]
  go_wp2_with fail
  refine (aheadR_at _ i w.heap.size _ (by go_simp)).mono ?_
  rintro e w' ⟨rfl, rfl⟩
  go_wp2_with fail
  go_ret
  exact ⟨rfl, (((Below.refl _ _).alloc (Nat.le_refl _) _).alloc (by simp) _).drew⟩

set_option maxRecDepth 100000 in
set_option maxHeartbeats 1600000 in
theorem right_5f (P i n nc b off : Nat) (ao : Value) (given a bb nx : Int) (w : World) (hq : inR a i = false) : RightAt P i n nc b off ao given 5 a bb nx w false := by
  intro hin h0 h1 n0 n1 n2 n3
  have hPl := cell_lt h0
  have hbl := cell_lt n0
  simp only at hPl hbl
  have h0 := fun o o' => cell_alloc (cell_alloc h0 o) o'
  have h1a := fun o => cell_alloc h1 o
  have h1 := fun o o' => cell_alloc (cell_alloc h1 o) o'
  have n0 := fun o => cell_alloc n0 o
  have n1 := fun o => cell_alloc n1 o
  have n2 := fun o => cell_alloc n2 o
  have n3 := fun o => cell_alloc n3 o
  have hmf : ∀ (fn : Fn) (first cap : Array Value) (w : World), (Instr.makeFunc fn first cap).run Try.prog w = .ok (.func fn first cap) w := fun _ _ _ _ => rfl
  go_enter Try.func20, Try.ntmps20
  go_wp2_with fail
  go_region
  go_wp2_with fail
  refine (aheadR_at _ i w.heap.size _ (by go_simp)).mono ?_
  rintro e w' ⟨rfl, rfl⟩
  rw [hq]
  go_wp2_with fail
  go_ret
  exact ⟨rfl, (((Below.refl _ _).alloc (Nat.le_refl _) _).alloc (by simp) _).drew⟩

set_option maxRecDepth 100000 in
set_option maxHeartbeats 1600000 in
theorem right_6t (P i n nc b off : Nat) (ao : Value) (given a bb nx : Int) (w : World) (hq : inR a i = true) : RightAt P i n nc b off ao given 6 a bb nx w (inR bb i) := by
  intro hin h0 h1 n0 n1 n2 n3
  have hPl := cell_lt h0
  have hbl := cell_lt n0
  simp only at hPl hbl
  have h0 := fun o o' => cell_alloc (cell_alloc h0 o) o'
  have h1a := fun o => cell_alloc h1 o
  have h1 := fun o o' => cell_alloc (cell_alloc h1 o) o'
  have n0 := fun o => cell_alloc n0 o
  have n1 := fun o => cell_alloc n1 o
  have n2 := fun o => cell_alloc n2 o
  have n3 := fun o => cell_alloc n3 o
  have hmf : ∀ (fn : Fn) (first cap : Array Value) (w : World), (Instr.makeFunc fn first cap).run Try.prog w = .ok (.func fn first cap) w := fun _ _ _ _ => rfl
  go_enter Try.func20, Try.ntmps20
  go_wp2_with fail
  go_region
  go_wp2_with fail
  refine (aheadR_at _ i w.heap.size _ (by go_simp)).mono ?_
  rintro e w' ⟨rfl, rfl⟩
  rw [hq]
  go_wp2_with fail
  refine (aheadR_at _ i w.heap.size _ (by go_simp)).mono ?_
  rintro e w' ⟨rfl, rfl⟩
  go_wp2_with fail
  go_ret
  exact ⟨rfl, (((Below.refl _ _).alloc (Nat.le_refl _) _).alloc (by simp) _).drew⟩

set_option maxRecDepth 100000 in
set_option maxHeartbeats 1600000 in
theorem right_6f (P i n nc b off : Nat) (ao : Value) (given a bb nx : Int) (w : World) (hq : inR a i = false) : RightAt P i n nc b off ao given 6 a bb nx w false := by
  intro hin h0 h1 n0 n1 n2 n3
  have hPl := cell_lt h0
  have hbl := cell_lt n0
  simp only at hPl hbl
  have h0 := fun o o' => cell_alloc (cell_alloc h0 o) o'
  have h1a := fun o => cell_alloc h1 o
  have h1 := fun o o' => cell_alloc (cell_alloc h1 o) o'
  have n0 := fun o => cell_alloc n0 o
  have n1 := fun o => cell_alloc n1 o
  have n2 := fun o => cell_alloc n2 o
  have n3 := fun o => cell_alloc n3 o
  have hmf : ∀ (fn : Fn) (first cap : Array Value) (w : World), (Instr.makeFunc fn first cap).run Try.prog w = .ok (.func fn first cap) w := fun _ _ _ _ => rfl
  go_enter Try.func20, Try.ntmps20
  go_wp2_with fail
  go_region
  go_wp2_with fail
  refine (aheadR_at _ i w.heap.size _ (by go_simp)).mono ?_
  rintro e w' ⟨rfl, rfl⟩
  rw [hq]
  go_wp2_with fail
  go_ret
  exact ⟨rfl, (((Below.refl _ _).alloc (Nat.le_refl _) _).alloc (by simp) _).drew⟩

set_option maxRecDepth 100000 in
set_option maxHeartbeats 1600000 in
theorem right_7t (P i n nc b off : Nat) (ao : Value) (given a bb nx : Int) (w : World) (hq : inR a i = true) : RightAt P i n nc b off ao given 7 a bb nx w (inR bb i) := by
  intro hin h0 h1 n0 n1 n2 n3
  have hPl := cell_lt h0
  have hbl := cell_lt n0
  simp only at hPl hbl
  have h0 := fun o o' => cell_alloc (cell_alloc h0 o) o'
  have h1a := fun o => cell_alloc h1 o
  have h1 := fun o o' => cell_alloc (cell_alloc h1 o) o'
  have n0 := fun o => cell_alloc n0 o
  have n1 := fun o => cell_alloc n1 o
  have n2 := fun o => cell_alloc n2 o
  have n3 := fun o => cell_alloc n3 o
  have hmf : ∀ (fn : Fn) (first cap : Array Value) (w : World), (Instr.makeFunc fn first cap).run Try.prog w = .ok (.func fn first cap) w := fun _ _ _ _ => rfl
  go_enter Try.func20, Try.ntmps20
  go_wp2_with fail
  go_region
  go_wp2_with fail
  refine (aheadR_at _ i w.heap.size _ (by go_simp)).mono ?_
  rintro e w' ⟨rfl, rfl⟩
  rw [hq]
  go_wp2_with fail
  refine (aheadR_at _ i w.heap.size _ (by go_simp)).mono ?_
  rintro e w' ⟨rfl, rfl⟩
  go_wp2_with fail
  go_ret
  exact ⟨rfl, (((Below.refl _ _).alloc (Nat.le_refl _) _).alloc (by simp) _).drew⟩

set_option maxRecDepth 100000 in
set_option maxHeartbeats 1600000 in
theorem right_7f (P i n nc b off : Nat) (ao : Value) (given a bb nx : Int) (w : World) (hq : inR a i = false) : RightAt P i n nc b off ao given 7 a bb nx w false := by
  intro hin h0 h1 n0 n1 n2 n3
  have hPl := cell_lt h0
  have hbl := cell_lt n0
  simp only at hPl hbl
  have h0 := fun o o' => cell_alloc (cell_alloc h0 o) o'
  have h1a := fun o => cell_alloc h1 o
  have h1 := fun o o' => cell_alloc (cell_alloc h1 o) o'
  have n0 := fun o => cell_alloc n0 o
  have n1 := fun o => cell_alloc n1 o
  have n2 := fun o => cell_alloc n2 o
  have n3 := fun o => cell_alloc n3 o
  have hmf : ∀ (fn : Fn) (first cap : Array Value) (w : World), (Instr.makeFunc fn first cap).run Try.prog w = .ok (.func fn first cap) w := fun _ _ _ _ => rfl
  go_enter Try.func20, Try.ntmps20
  go_wp2_with fail
  go_region
  go_wp2_with fail
  refine (aheadR_at _ i w.heap.size _ (by go_simp)).mono ?_
  rintro e w' ⟨rfl, rfl⟩
  rw [hq]
  go_wp2_with fail
  go_ret
  exact ⟨rfl, (((Below.refl _ _).alloc (Nat.le_refl _) _).alloc (by simp) _).drew⟩

set_option maxRecDepth 100000 in
set_option maxHeartbeats 1600000 in
theorem right_8 (P i n nc b off : Nat) (ao : Value) (given a bb nx : Int) (w : World) : RightAt P i n nc b off ao given 8 a bb nx w (inR a i) := by
  intro hin h0 h1 n0 n1 n2 n3
  have hPl := cell_lt h0
  have hbl := cell_lt n0
  simp only at hPl hbl
  have h0 := fun o o' => cell_alloc (cell_alloc h0 o) o'
  have h1a := fun o => cell_alloc h1 o
  have h1 := fun o o' => cell_alloc (cell_alloc h1 o) o'
  have n0 := fun o => cell_alloc n0 o
  have n1 := fun o => cell_alloc n1 o
  have n2 := fun o => cell_alloc n2 o
  have n3 := fun o => cell_alloc n3 o
  have hmf : ∀ (fn : Fn) (first cap : Array Value) (w : World), (Instr.makeFunc fn first cap).run Try.prog w = .ok (.func fn first cap) w := fun _ _ _ _ => rfl
  go_enter Try.func20, Try.ntmps20
  go_wp2_with fail
  go_region
  go_wp2_with fail
  refine (aheadR_at _ i w.heap.size _ (by go_simp)).mono ?_
  rintro e w' ⟨rfl, rfl⟩
  go_wp2_with fail
  go_ret
  exact ⟨rfl, (((Below.refl _ _).alloc (Nat.le_refl _) _).alloc (by simp) _).drew⟩

set_option maxRecDepth 100000 in
set_option maxHeartbeats 1600000 in
theorem right_no (P i n nc b off : Nat) (ao : Value) (given op a bb nx : Int) (w : World) (hop : ∀ k : Int, 1 ≤ k → k ≤ 8 → (op == k) = false) : RightAt P i n nc b off ao given op a bb nx w false := by
  intro hin h0 h1 n0 n1 n2 n3
  have hPl := cell_lt h0
  have hbl := cell_lt n0
  simp only at hPl hbl
  have h0 := fun o o' => cell_alloc (cell_alloc h0 o) o'
  have h1a := fun o => cell_alloc h1 o
  have h1 := fun o o' => cell_alloc (cell_alloc h1 o) o'
  have n0 := fun o => cell_alloc n0 o
  have n1 := fun o => cell_alloc n1 o
  have n2 := fun o => cell_alloc n2 o
  have n3 := fun o => cell_alloc n3 o
  have hmf : ∀ (fn : Fn) (first cap : Array Value) (w : World), (Instr.makeFunc fn first cap).run Try.prog w = .ok (.func fn first cap) w := fun _ _ _ _ => rfl
  have q1 := hop 1 (by decide) (by decide)
  have q2 := hop 2 (by decide) (by decide)
  have q3 := hop 3 (by decide) (by decide)
  have q4 := hop 4 (by decide) (by decide)
  have q5 := hop 5 (by decide) (by decide)
  have q6 := hop 6 (by decide) (by decide)
  have q7 := hop 7 (by decide) (by decide)
  have q8 := hop 8 (by decide) (by decide)
  clear hop
  go_enter Try.func20, Try.ntmps20
  go_wp2_with fail
  go_region
  go_wp2_with fail
  go_ret
  exact ⟨rfl, (((Below.refl _ _).alloc (Nat.le_refl _) _).alloc (by simp) _).drew⟩
end Go.Proofs.Ytlnmemeejgnbeaa
