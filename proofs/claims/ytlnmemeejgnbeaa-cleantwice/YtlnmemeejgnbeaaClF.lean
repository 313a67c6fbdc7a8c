/-
  CONTRACTS of freeXor, free, not.
-/
import Derived.Test.YtlnmemeejgnbeaaClL
set_option linter.unusedSimpArgs false
set_option linter.unusedVariables false
namespace Go.Proofs.Ytlnmemeejgnbeaa
open Go.RowKit

set_option maxRecDepth 100000 in
set_option maxHeartbeats 3200000 in
theorem freeX_1 {P nc : Nat} {na : Option Addr} {ms : List Nd} (a b : Int) (w : World) (h : RowAt w P na nc ms) (h0 : 0 ≤ a) (h1 : a < ms.length) (h2 : 0 ≤ b) (h3 : b < ms.length) (e1 : (a == b) = true) :
    Calls Try.prog 47 #[.pointer (some ⟨P, 0, none⟩), .int .i64 a, .int .i64 b] w fun e w' => e = .returned (.tuple #[.int .i64 ((0 : Int), true).1, .bool ((0 : Int), true).2]) ∧ Below w.heap.size w w' := by
  go_enter Try.func47, Try.ntmps47
  go_wp2_with fail
  go_ret2
  exact ⟨rfl, Below.refl _ _⟩

set_option maxRecDepth 100000 in
set_option maxHeartbeats 3200000 in
theorem freeX_2 {P nc : Nat} {na : Option Addr} {ms : List Nd} (a b : Int) (w : World) (h : RowAt w P na nc ms) (h0 : 0 ≤ a) (h1 : a < ms.length) (h2 : 0 ≤ b) (h3 : b < ms.length) (e1 : (a == b) = false) (e2 : (a == 1) = true) :
    Calls Try.prog 47 #[.pointer (some ⟨P, 0, none⟩), .int .i64 a, .int .i64 b] w fun e w' => e = .returned (.tuple #[.int .i64 (otherM ms b).1, .bool (otherM ms b).2]) ∧ Below w.heap.size w w' := by
  have HO := hide fun W hr => other_at (P := P) (nc := nc) (na := na) (ms := ms) b W hr h2 h3
  have HR := hide h
  generalize otherM ms b = r at *
  obtain ⟨rk, rb⟩ := r
  clear h
  go_enter Try.func47, Try.ntmps47
  go_wp2_with fail
  refine (HO.out _ HR.out).mono ?_
  rintro e w' ⟨rfl, hb⟩
  have HB := hide hb
  clear hb HO HR
  go_wp2_with fail
  go_ret2
  exact ⟨rfl, HB.out⟩

set_option maxRecDepth 100000 in
set_option maxHeartbeats 3200000 in
theorem freeX_3 {P nc : Nat} {na : Option Addr} {ms : List Nd} (a b : Int) (w : World) (h : RowAt w P na nc ms) (h0 : 0 ≤ a) (h1 : a < ms.length) (h2 : 0 ≤ b) (h3 : b < ms.length) (e1 : (a == b) = false) (e2 : (a == 1) = false) (e3 : (b == 1) = true) :
    Calls Try.prog 47 #[.pointer (some ⟨P, 0, none⟩), .int .i64 a, .int .i64 b] w fun e w' => e = .returned (.tuple #[.int .i64 (otherM ms a).1, .bool (otherM ms a).2]) ∧ Below w.heap.size w w' := by
  have HO := hide fun W hr => other_at (P := P) (nc := nc) (na := na) (ms := ms) a W hr h0 h1
  have HR := hide h
  generalize otherM ms a = r at *
  obtain ⟨rk, rb⟩ := r
  clear h
  go_enter Try.func47, Try.ntmps47
  go_wp2_with fail
  refine (HO.out _ HR.out).mono ?_
  rintro e w' ⟨rfl, hb⟩
  have HB := hide hb
  clear hb HO HR
  go_wp2_with fail
  go_ret2
  exact ⟨rfl, HB.out⟩

set_option maxRecDepth 100000 in
set_option maxHeartbeats 3200000 in
theorem freeX_4 {P nc : Nat} {na : Option Addr} {ms : List Nd} (a b : Int) (w : World) (h : RowAt w P na nc ms) (h0 : 0 ≤ a) (h1 : a < ms.length) (h2 : 0 ≤ b) (h3 : b < ms.length) (e1 : (a == b) = false) (e2 : (a == 1) = false) (e3 : (b == 1) = false) :
    Calls Try.prog 47 #[.pointer (some ⟨P, 0, none⟩), .int .i64 a, .int .i64 b] w fun e w' => e = .returned (.tuple #[.int .i64 ((0 : Int), false).1, .bool ((0 : Int), false).2]) ∧ Below w.heap.size w w' := by
  go_enter Try.func47, Try.ntmps47
  go_wp2_with fail
  go_ret2
  exact ⟨rfl, Below.refl _ _⟩

theorem freeX_at {P nc : Nat} {na : Option Addr} {ms : List Nd} (a b : Int) (w : World) (h : RowAt w P na nc ms) (h0 : 0 ≤ a) (h1 : a < ms.length) (h2 : 0 ≤ b) (h3 : b < ms.length) :
    Calls Try.prog 47 #[.pointer (some ⟨P, 0, none⟩), .int .i64 a, .int .i64 b] w fun e w' => e = .returned (.tuple #[.int .i64 (freeX ms a b).1, .bool (freeX ms a b).2]) ∧ Below w.heap.size w w' := by
  by_cases c1 : a = b
  · rw [show freeX ms a b = (0, true) by simp [freeX, c1]]
    exact freeX_1 a b w h h0 h1 h2 h3 (by simp [c1])
  · by_cases c2 : a = 1
    · rw [show freeX ms a b = otherM ms b by unfold freeX; rw [if_neg c1, if_pos c2]]
      exact freeX_2 a b w h h0 h1 h2 h3 (by simp [c1]) (by simp [c2])
    · by_cases c3 : b = 1
      · rw [show freeX ms a b = otherM ms a by unfold freeX; rw [if_neg c1, if_neg c2, if_pos c3]]
        exact freeX_3 a b w h h0 h1 h2 h3 (by simp [c1]) (by simp [c2]) (by simp [c3])
      · rw [show freeX ms a b = (0, false) by unfold freeX; rw [if_neg c1, if_neg c2, if_neg c3]]
        exact freeX_4 a b w h h0 h1 h2 h3 (by simp [c1]) (by simp [c2]) (by simp [c3])

set_option maxRecDepth 100000 in
set_option maxHeartbeats 3200000 in
theorem free_1 {P nc : Nat} {na : Option Addr} {ms : List Nd} (op a b d fl : Int) (w : World) (h : RowAt w P na nc ms) (h0 : 0 ≤ a) (h1 : a < ms.length) (h2 : 0 ≤ b) (h3 : b < ms.length) (HI : Hid (∀ W, Calls Try.prog 43 #[.int .i64 op] W fun e w' => e = .returned (.int .i64 d) ∧ w' = W)) (HT : Hid (∀ W, Calls Try.prog 39 #[.int .i64 d] W fun e w' => e = .returned (.int .i64 fl) ∧ w' = W)) (e1 : (a == d) = true) :
    Calls Try.prog 41 #[.pointer (some ⟨P, 0, none⟩), .int .i64 op, .int .i64 a, .int .i64 b] w fun e w' => e = .returned (.tuple #[.int .i64 (b, true).1, .bool (b, true).2]) ∧ Below w.heap.size w w' := by
  go_enter Try.func41, Try.ntmps41
  go_wp2_with fail
  refine (HI.out _).mono ?_
  rintro e w' ⟨rfl, rfl⟩
  go_wp2_with fail
  refine (HT.out _).mono ?_
  rintro e w' ⟨rfl, rfl⟩
  go_wp2_with fail
  refine (HI.out _).mono ?_
  rintro e w' ⟨rfl, rfl⟩
  go_wp2_with fail
  go_ret2
  exact ⟨rfl, Below.refl _ _⟩

set_option maxRecDepth 100000 in
set_option maxHeartbeats 3200000 in
theorem free_2 {P nc : Nat} {na : Option Addr} {ms : List Nd} (op a b d fl : Int) (w : World) (h : RowAt w P na nc ms) (h0 : 0 ≤ a) (h1 : a < ms.length) (h2 : 0 ≤ b) (h3 : b < ms.length) (HI : Hid (∀ W, Calls Try.prog 43 #[.int .i64 op] W fun e w' => e = .returned (.int .i64 d) ∧ w' = W)) (HT : Hid (∀ W, Calls Try.prog 39 #[.int .i64 d] W fun e w' => e = .returned (.int .i64 fl) ∧ w' = W)) (e1 : (a == d) = false) (e2 : (b == d) = true) :
    Calls Try.prog 41 #[.pointer (some ⟨P, 0, none⟩), .int .i64 op, .int .i64 a, .int .i64 b] w fun e w' => e = .returned (.tuple #[.int .i64 (a, true).1, .bool (a, true).2]) ∧ Below w.heap.size w w' := by
  go_enter Try.func41, Try.ntmps41
  go_wp2_with fail
  refine (HI.out _).mono ?_
  rintro e w' ⟨rfl, rfl⟩
  go_wp2_with fail
  refine (HT.out _).mono ?_
  rintro e w' ⟨rfl, rfl⟩
  go_wp2_with fail
  refine (HI.out _).mono ?_
  rintro e w' ⟨rfl, rfl⟩
  go_wp2_with fail
  refine (HI.out _).mono ?_
  rintro e w' ⟨rfl, rfl⟩
  go_wp2_with fail
  go_ret2
  exact ⟨rfl, Below.refl _ _⟩

set_option maxRecDepth 100000 in
set_option maxHeartbeats 3200000 in
theorem free_3 {P nc : Nat} {na : Option Addr} {ms : List Nd} (op a b d fl : Int) (w : World) (h : RowAt w P na nc ms) (h0 : 0 ≤ a) (h1 : a < ms.length) (h2 : 0 ≤ b) (h3 : b < ms.length) (HI : Hid (∀ W, Calls Try.prog 43 #[.int .i64 op] W fun e w' => e = .returned (.int .i64 d) ∧ w' = W)) (HT : Hid (∀ W, Calls Try.prog 39 #[.int .i64 d] W fun e w' => e = .returned (.int .i64 fl) ∧ w' = W)) (e1 : (a == d) = false) (e2 : (b == d) = false) (e3 : oppM ms a b = true) :
    Calls Try.prog 41 #[.pointer (some ⟨P, 0, none⟩), .int .i64 op, .int .i64 a, .int .i64 b] w fun e w' => e = .returned (.tuple #[.int .i64 (fl, true).1, .bool (fl, true).2]) ∧ Below w.heap.size w w' := by
  have HO := hide fun W hr => opp_at (P := P) (nc := nc) (na := na) (ms := ms) a b W hr h0 h1 h2 h3
  rw [e3] at HO
  have HR := hide h
  clear h
  go_enter Try.func41, Try.ntmps41
  go_wp2_with fail
  refine (HI.out _).mono ?_
  rintro e w' ⟨rfl, rfl⟩
  go_wp2_with fail
  refine (HT.out _).mono ?_
  rintro e w' ⟨rfl, rfl⟩
  go_wp2_with fail
  refine (HI.out _).mono ?_
  rintro e w' ⟨rfl, rfl⟩
  go_wp2_with fail
  refine (HI.out _).mono ?_
  rintro e w' ⟨rfl, rfl⟩
  go_wp2_with fail
  refine (HO.out _ HR.out).mono ?_
  rintro e w' ⟨rfl, hb⟩
  have HB := hide hb
  have HRb := hide (HR.out.below hb)
  clear hb HO HR
  go_wp2_with fail
  go_ret2
  exact ⟨rfl, HB.out⟩

set_option maxRecDepth 100000 in
set_option maxHeartbeats 3200000 in
theorem free_4 {P nc : Nat} {na : Option Addr} {ms : List Nd} (op a b d fl : Int) (w : World) (h : RowAt w P na nc ms) (h0 : 0 ≤ a) (h1 : a < ms.length) (h2 : 0 ≤ b) (h3 : b < ms.length) (HI : Hid (∀ W, Calls Try.prog 43 #[.int .i64 op] W fun e w' => e = .returned (.int .i64 d) ∧ w' = W)) (HT : Hid (∀ W, Calls Try.prog 39 #[.int .i64 d] W fun e w' => e = .returned (.int .i64 fl) ∧ w' = W)) (e1 : (a == d) = false) (e2 : (b == d) = false) (e3 : oppM ms a b = false) (e4 : (op == 7) = true) :
    Calls Try.prog 41 #[.pointer (some ⟨P, 0, none⟩), .int .i64 op, .int .i64 a, .int .i64 b] w fun e w' => e = .returned (.tuple #[.int .i64 (freeX ms a b).1, .bool (freeX ms a b).2]) ∧ Below w.heap.size w w' := by
  have HX := hide fun W hr => freeX_at (P := P) (nc := nc) (na := na) (ms := ms) a b W hr h0 h1 h2 h3
  generalize freeX ms a b = r at *
  obtain ⟨rk, rb⟩ := r
  have HO := hide fun W hr => opp_at (P := P) (nc := nc) (na := na) (ms := ms) a b W hr h0 h1 h2 h3
  rw [e3] at HO
  have HR := hide h
  clear h
  go_enter Try.func41, Try.ntmps41
  go_wp2_with fail
  refine (HI.out _).mono ?_
  rintro e w' ⟨rfl, rfl⟩
  go_wp2_with fail
  refine (HT.out _).mono ?_
  rintro e w' ⟨rfl, rfl⟩
  go_wp2_with fail
  refine (HI.out _).mono ?_
  rintro e w' ⟨rfl, rfl⟩
  go_wp2_with fail
  refine (HI.out _).mono ?_
  rintro e w' ⟨rfl, rfl⟩
  go_wp2_with fail
  refine (HO.out _ HR.out).mono ?_
  rintro e w' ⟨rfl, hb⟩
  have HB := hide hb
  have HRb := hide (HR.out.below hb)
  clear hb HO HR
  go_wp2_with fail
  refine (HX.out _ HRb.out).mono ?_
  rintro e w' ⟨rfl, hb2⟩
  have HB2 := hide (Below.step HB.out hb2)
  clear hb2 HX
  go_wp2_with fail
  go_ret2
  exact ⟨rfl, HB2.out⟩

set_option maxRecDepth 100000 in
set_option maxHeartbeats 3200000 in
theorem free_5 {P nc : Nat} {na : Option Addr} {ms : List Nd} (op a b d fl : Int) (w : World) (h : RowAt w P na nc ms) (h0 : 0 ≤ a) (h1 : a < ms.length) (h2 : 0 ≤ b) (h3 : b < ms.length) (HI : Hid (∀ W, Calls Try.prog 43 #[.int .i64 op] W fun e w' => e = .returned (.int .i64 d) ∧ w' = W)) (HT : Hid (∀ W, Calls Try.prog 39 #[.int .i64 d] W fun e w' => e = .returned (.int .i64 fl) ∧ w' = W)) (e1 : (a == d) = false) (e2 : (b == d) = false) (e3 : oppM ms a b = false) (e4 : (op == 7) = false) (e5 : (a == fl) = true) :
    Calls Try.prog 41 #[.pointer (some ⟨P, 0, none⟩), .int .i64 op, .int .i64 a, .int .i64 b] w fun e w' => e = .returned (.tuple #[.int .i64 (fl, true).1, .bool (fl, true).2]) ∧ Below w.heap.size w w' := by
  have HO := hide fun W hr => opp_at (P := P) (nc := nc) (na := na) (ms := ms) a b W hr h0 h1 h2 h3
  rw [e3] at HO
  have HR := hide h
  clear h
  go_enter Try.func41, Try.ntmps41
  go_wp2_with fail
  refine (HI.out _).mono ?_
  rintro e w' ⟨rfl, rfl⟩
  go_wp2_with fail
  refine (HT.out _).mono ?_
  rintro e w' ⟨rfl, rfl⟩
  go_wp2_with fail
  refine (HI.out _).mono ?_
  rintro e w' ⟨rfl, rfl⟩
  go_wp2_with fail
  refine (HI.out _).mono ?_
  rintro e w' ⟨rfl, rfl⟩
  go_wp2_with fail
  refine (HO.out _ HR.out).mono ?_
  rintro e w' ⟨rfl, hb⟩
  have HB := hide hb
  have HRb := hide (HR.out.below hb)
  clear hb HO HR
  go_wp2_with fail
  go_ret2
  exact ⟨rfl, HB.out⟩

set_option maxRecDepth 100000 in
set_option maxHeartbeats 3200000 in
theorem free_6 {P nc : Nat} {na : Option Addr} {ms : List Nd} (op a b d fl : Int) (w : World) (h : RowAt w P na nc ms) (h0 : 0 ≤ a) (h1 : a < ms.length) (h2 : 0 ≤ b) (h3 : b < ms.length) (HI : Hid (∀ W, Calls Try.prog 43 #[.int .i64 op] W fun e w' => e = .returned (.int .i64 d) ∧ w' = W)) (HT : Hid (∀ W, Calls Try.prog 39 #[.int .i64 d] W fun e w' => e = .returned (.int .i64 fl) ∧ w' = W)) (e1 : (a == d) = false) (e2 : (b == d) = false) (e3 : oppM ms a b = false) (e4 : (op == 7) = false) (e5 : (a == fl) = false) (e6 : (b == fl) = true) :
    Calls Try.prog 41 #[.pointer (some ⟨P, 0, none⟩), .int .i64 op, .int .i64 a, .int .i64 b] w fun e w' => e = .returned (.tuple #[.int .i64 (fl, true).1, .bool (fl, true).2]) ∧ Below w.heap.size w w' := by
  have HO := hide fun W hr => opp_at (P := P) (nc := nc) (na := na) (ms := ms) a b W hr h0 h1 h2 h3
  rw [e3] at HO
  have HR := hide h
  clear h
  go_enter Try.func41, Try.ntmps41
  go_wp2_with fail
  refine (HI.out _).mono ?_
  rintro e w' ⟨rfl, rfl⟩
  go_wp2_with fail
  refine (HT.out _).mono ?_
  rintro e w' ⟨rfl, rfl⟩
  go_wp2_with fail
  refine (HI.out _).mono ?_
  rintro e w' ⟨rfl, rfl⟩
  go_wp2_with fail
  refine (HI.out _).mono ?_
  rintro e w' ⟨rfl, rfl⟩
  go_wp2_with fail
  refine (HO.out _ HR.out).mono ?_
  rintro e w' ⟨rfl, hb⟩
  have HB := hide hb
  have HRb := hide (HR.out.below hb)
  clear hb HO HR
  go_wp2_with fail
  go_ret2
  exact ⟨rfl, HB.out⟩

set_option maxRecDepth 100000 in
set_option maxHeartbeats 3200000 in
theorem free_7 {P nc : Nat} {na : Option Addr} {ms : List Nd} (op a b d fl : Int) (w : World) (h : RowAt w P na nc ms) (h0 : 0 ≤ a) (h1 : a < ms.length) (h2 : 0 ≤ b) (h3 : b < ms.length) (HI : Hid (∀ W, Calls Try.prog 43 #[.int .i64 op] W fun e w' => e = .returned (.int .i64 d) ∧ w' = W)) (HT : Hid (∀ W, Calls Try.prog 39 #[.int .i64 d] W fun e w' => e = .returned (.int .i64 fl) ∧ w' = W)) (e1 : (a == d) = false) (e2 : (b == d) = false) (e3 : oppM ms a b = false) (e4 : (op == 7) = false) (e5 : (a == fl) = false) (e6 : (b == fl) = false) :
    Calls Try.prog 41 #[.pointer (some ⟨P, 0, none⟩), .int .i64 op, .int .i64 a, .int .i64 b] w fun e w' => e = .returned (.tuple #[.int .i64 (a, (a == b)).1, .bool (a, (a == b)).2]) ∧ Below w.heap.size w w' := by
  have HO := hide fun W hr => opp_at (P := P) (nc := nc) (na := na) (ms := ms) a b W hr h0 h1 h2 h3
  rw [e3] at HO
  have HR := hide h
  clear h
  go_enter Try.func41, Try.ntmps41
  go_wp2_with fail
  refine (HI.out _).mono ?_
  rintro e w' ⟨rfl, rfl⟩
  go_wp2_with fail
  refine (HT.out _).mono ?_
  rintro e w' ⟨rfl, rfl⟩
  go_wp2_with fail
  refine (HI.out _).mono ?_
  rintro e w' ⟨rfl, rfl⟩
  go_wp2_with fail
  refine (HI.out _).mono ?_
  rintro e w' ⟨rfl, rfl⟩
  go_wp2_with fail
  refine (HO.out _ HR.out).mono ?_
  rintro e w' ⟨rfl, hb⟩
  have HB := hide hb
  have HRb := hide (HR.out.below hb)
  clear hb HO HR
  go_wp2_with fail
  go_ret2
  exact ⟨rfl, HB.out⟩

theorem free_at {P nc : Nat} {na : Option Addr} {ms : List Nd} (op a b : Int) (w : World) (h : RowAt w P na nc ms) (h0 : 0 ≤ a) (h1 : a < ms.length) (h2 : 0 ≤ b) (h3 : b < ms.length) :
    Calls Try.prog 41 #[.pointer (some ⟨P, 0, none⟩), .int .i64 op, .int .i64 a, .int .i64 b] w fun e w' => e = .returned (.tuple #[.int .i64 (freeM ms op a b).1, .bool (freeM ms op a b).2]) ∧ Below w.heap.size w w' := by
  have hid := idle_le op
  have HI := hide fun W => idle_at op W
  have HT := hide fun W => turned_at (idle op) ⟨hid.1, by omega⟩ W
  have ne {x y : Int} (c : ¬ x = y) : (x == y) = false := by simp [c]
  have eq {x y : Int} (c : x = y) : (x == y) = true := by simp [c]
  unfold freeM
  by_cases c1 : a = idle op
  · rw [if_pos c1]
    exact free_1 op a b _ _ w h h0 h1 h2 h3 HI HT (eq c1)
  rw [if_neg c1]
  by_cases c2 : b = idle op
  · rw [if_pos c2]
    exact free_2 op a b _ _ w h h0 h1 h2 h3 HI HT (ne c1) (eq c2)
  rw [if_neg c2]
  cases c3 : oppM ms a b
  · rw [if_neg (by simp)]
    by_cases c4 : op = 7
    · rw [if_pos c4]
      exact free_4 op a b _ _ w h h0 h1 h2 h3 HI HT (ne c1) (ne c2) c3 (eq c4)
    rw [if_neg c4]
    by_cases c5 : a = turnK (idle op)
    · rw [if_pos c5]
      exact free_5 op a b _ _ w h h0 h1 h2 h3 HI HT (ne c1) (ne c2) c3 (ne c4) (eq c5)
    rw [if_neg c5]
    by_cases c6 : b = turnK (idle op)
    · rw [if_pos c6]
      exact free_6 op a b _ _ w h h0 h1 h2 h3 HI HT (ne c1) (ne c2) c3 (ne c4) (ne c5) (eq c6)
    rw [if_neg c6]
    exact free_7 op a b _ _ w h h0 h1 h2 h3 HI HT (ne c1) (ne c2) c3 (ne c4) (ne c5) (ne c6)
  · rw [if_pos rfl]
    exact free_3 op a b _ _ w h h0 h1 h2 h3 HI HT (ne c1) (ne c2) c3
end Go.Proofs.Ytlnmemeejgnbeaa
