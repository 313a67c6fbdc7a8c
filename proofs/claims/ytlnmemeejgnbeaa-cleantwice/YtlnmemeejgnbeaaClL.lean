/-
  CONTRACTS of what a maker asks: turned, least, idle, other, opposite.
-/
import Derived.Test.YtlnmemeejgnbeaaClM
import Derived.Test.YtlnmemeejgnbeaaGLeaf
set_option linter.unusedSimpArgs false
set_option linter.unusedVariables false
namespace Go.Proofs.Ytlnmemeejgnbeaa
open Go.RowKit

set_option maxRecDepth 100000 in
set_option maxHeartbeats 1600000 in
theorem turned_at (k : Int) (hk : 0 ≤ k ∧ k ≤ 2) (w : World) : Calls Try.prog 39 #[.int .i64 k] w fun e w' => e = .returned (.int .i64 (turnK k)) ∧ w' = w := by
  have hc : k = 0 ∨ k = 1 ∨ k = 2 := by omega
  rcases hc with rfl | rfl | rfl
  · go_enter Try.func39, Try.ntmps39
    go_wp2
    go_ret
    exact ⟨rfl, rfl⟩
  · go_enter Try.func39, Try.ntmps39
    go_wp2
    go_ret
    exact ⟨rfl, rfl⟩
  · go_enter Try.func39, Try.ntmps39
    go_wp2
    go_ret
    exact ⟨rfl, rfl⟩

set_option maxRecDepth 100000 in
set_option maxHeartbeats 1600000 in
theorem least_at (a b : Int) (ha : 0 ≤ a ∧ a ≤ 2) (hb : 0 ≤ b ∧ b ≤ 2) (w : World) : Calls Try.prog 40 #[.int .i64 a, .int .i64 b] w fun e w' => e = .returned (.int .i64 (leastK a b)) ∧ w' = w := by
  have hc : a = 0 ∨ a = 1 ∨ a = 2 := by omega
  have hd : b = 0 ∨ b = 1 ∨ b = 2 := by omega
  rcases hc with rfl | rfl | rfl <;> rcases hd with rfl | rfl | rfl <;>
  · go_enter Try.func40, Try.ntmps40
    go_wp2
    go_ret
    exact ⟨rfl, rfl⟩

set_option maxRecDepth 100000 in
set_option maxHeartbeats 1600000 in
theorem idle_at (op : Int) (w : World) : Calls Try.prog 43 #[.int .i64 op] w fun e w' => e = .returned (.int .i64 (idle op)) ∧ w' = w := by
  by_cases h : op = 5
  · subst h
    go_enter Try.func43, Try.ntmps43
    go_wp2
    go_ret
    exact ⟨rfl, rfl⟩
  · have hb : (op == 5) = false := by simp [h]
    go_enter Try.func43, Try.ntmps43
    go_wp2
    go_ret
    exact ⟨ret_int (by simp [idle, h]), rfl⟩
theorem idle_le (op : Int) : 0 ≤ idle op ∧ idle op ≤ 1 := by unfold idle; split <;> omega

/-- a maker's row, to be read -/
structure RowAt (w : World) (P : Nat) (na : Option Addr) (nc : Nat) (ms : List Nd) : Prop where
  hd : w.cell? ⟨P, 0, none⟩ = some (.slice na ms.length nc)
  row : Lies AnyB w na (ndsC ms)
theorem RowAt.below {w w' : World} {P : Nat} {na : Option Addr} {nc : Nat} {ms : List Nd} (h : RowAt w P na nc ms) (hb : Below w.heap.size w w') : RowAt w' P na nc ms :=
  ⟨(World.cell?_of_block (w := w) (hb.block P (cell_lt h.hd))).trans h.hd, h.row.below hb⟩

set_option maxRecDepth 100000 in
set_option maxHeartbeats 1600000 in
theorem other_at {P nc : Nat} {na : Option Addr} {ms : List Nd} (a : Int) (w : World) (h : RowAt w P na nc ms) (h0 : 0 ≤ a) (h1 : a < ms.length) :
    Calls Try.prog 45 #[.pointer (some ⟨P, 0, none⟩), .int .i64 a] w fun e w' => e = .returned (.tuple #[.int .i64 (otherM ms a).1, .bool (otherM ms a).2]) ∧ Below w.heap.size w w' := by
  by_cases hle : a ≤ 1
  · have HT := hide fun W => turned_at a ⟨h0, by omega⟩ W
    have HM : Hid (otherM ms a = (turnK a, true)) := hide (by simp [otherM, hle])
    rw [HM.out]
    clear h h1
    go_enter Try.func45, Try.ntmps45
    go_wp2_with fail
    refine (HT.out _).mono ?_
    rintro e w' ⟨rfl, rfl⟩
    go_wp2_with fail
    go_ret2
    exact ⟨rfl, Below.refl _ _⟩
  · obtain ⟨k, rfl⟩ := Int.eq_ofNat_of_zero_le h0
    have hk : k < ms.length := by omega
    obtain ⟨b, off, rfl, _, hbl, n0, n1, n2, n3⟩ := h.row.nodes hk
    have hd := h.hd
    have HM : Hid (otherM ms k = ((ndAt ms k).a, (ndAt ms k).op == 8)) := hide (by simp [otherM, hle, mAt])
    rw [HM.out]
    clear h HM
    generalize ndAt ms k = x at *
    obtain ⟨op, xa, xb, nx⟩ := x
    simp only at n0 n1 n2 n3
    generalize ms.length = n at *
    go_enter Try.func45, Try.ntmps45
    go_wp2_with fail
    go_region
    go_wp2_with fail
    go_ret2
    exact ⟨rfl, ((Below.refl _ _).alloc (Nat.le_refl _) _).drew⟩

set_option maxRecDepth 100000 in
set_option maxHeartbeats 3200000 in
theorem opp_at {P nc : Nat} {na : Option Addr} {ms : List Nd} (a b : Int) (w : World) (h : RowAt w P na nc ms) (h0 : 0 ≤ a) (h1 : a < ms.length) (h2 : 0 ≤ b) (h3 : b < ms.length) :
    Calls Try.prog 46 #[.pointer (some ⟨P, 0, none⟩), .int .i64 a, .int .i64 b] w fun e w' => e = .returned (.bool (oppM ms a b)) ∧ Below w.heap.size w w' := by
  obtain ⟨i, rfl⟩ := Int.eq_ofNat_of_zero_le h0
  obtain ⟨j, rfl⟩ := Int.eq_ofNat_of_zero_le h2
  have hi : i < ms.length := by omega
  have hj : j < ms.length := by omega
  obtain ⟨b, off, rfl, _, hbl, n0, n1, n2, n3⟩ := h.row.nodes hi
  obtain ⟨b', off', hbb, _, hbl', m0, m1, m2, m3⟩ := h.row.nodes hj
  cases hbb
  have hd := h.hd
  have HM : Hid (oppM ms i j = (((ndAt ms i).op == 8 && (ndAt ms i).a == j) || ((ndAt ms j).op == 8 && (ndAt ms j).a == i))) := hide (by simp [oppM, mAt])
  rw [HM.out]
  clear h HM
  generalize ndAt ms i = x at *
  generalize ndAt ms j = y at *
  obtain ⟨op, xa, xb, nx⟩ := x
  obtain ⟨op', xa', xb', nx'⟩ := y
  simp only at n0 n1 n2 n3 m0 m1 m2 m3
  generalize ms.length = n at *
  have hda := fun o => cell_alloc hd o
  have hdb := fun o o' => cell_alloc (cell_alloc hd o) o'
  have n0a := fun o => cell_alloc n0 o
  have n1a := fun o => cell_alloc n1 o
  have n2a := fun o => cell_alloc n2 o
  have n3a := fun o => cell_alloc n3 o
  have m0a := fun o => cell_alloc m0 o
  have m1a := fun o => cell_alloc m1 o
  have m2a := fun o => cell_alloc m2 o
  have m3a := fun o => cell_alloc m3 o
  have n0b := fun o o' => cell_alloc (cell_alloc n0 o) o'
  have n1b := fun o o' => cell_alloc (cell_alloc n1 o) o'
  have n2b := fun o o' => cell_alloc (cell_alloc n2 o) o'
  have n3b := fun o o' => cell_alloc (cell_alloc n3 o) o'
  have m0b := fun o o' => cell_alloc (cell_alloc m0 o) o'
  have m1b := fun o o' => cell_alloc (cell_alloc m1 o) o'
  have m2b := fun o o' => cell_alloc (cell_alloc m2 o) o'
  have m3b := fun o o' => cell_alloc (cell_alloc m3 o) o'
  have hPl := cell_lt hd
  simp only at hPl
  go_enter Try.func46, Try.ntmps46
  go_wp2_with fail
  go_region
  all_goals (cases e1 : (op == 8) <;> cases e2 : (xa == (j : Int)) <;> cases e3 : (op' == 8) <;> cases e4 : (xa' == (i : Int)) <;> (go_wp2_with fail; go_ret; exact ⟨ret_bool (by simp [e1, e2, e3, e4]), (((Below.refl _ _).alloc (Nat.le_refl _) _).alloc (by simp) _).drew⟩))
end Go.Proofs.Ytlnmemeejgnbeaa
