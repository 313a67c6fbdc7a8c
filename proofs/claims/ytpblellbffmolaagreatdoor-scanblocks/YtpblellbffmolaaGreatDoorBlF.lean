/-
  PLAIN: the program that ScanBlocks goes through, at each of its twenty numbers.
-/
import Derived.Test.YtpblellbffmolaaGreatDoorSc9
set_option linter.unusedSimpArgs false
set_option linter.unusedVariables false
namespace Go.Proofs.YtpblellbffmolaaGreatDoor
open Go.RowKit

def bA : List UInt8 := [105, 110, 32, 97, 58, 32, 98, 111, 111, 108, 59, 32, 105, 110, 32, 114, 58, 32, 98, 111, 111, 108, 59, 32, 111, 117, 116, 32, 113, 58, 32, 98, 111, 111, 108, 59, 32, 111, 117, 116, 32, 101, 49, 58, 32, 98, 111, 111, 108, 59, 32, 111, 117, 116, 32, 99, 49, 58, 32, 98, 121, 116, 101, 59, 32, 111, 117, 116, 32, 99, 113, 58, 32, 98, 111, 111, 108, 59, 32, 116, 105, 109, 101, 114, 32, 116, 59, 32, 101, 100, 103, 101, 32, 101, 59, 32, 99, 111, 117, 110, 116, 101, 114, 32, 99, 59, 32, 98, 101, 103, 105, 110, 32, 116, 40, 97, 44, 32]
def bB : List UInt8 := [41, 59, 32, 101, 40, 97, 41, 59, 32, 99, 40, 97, 44, 32, 114, 44, 32]
def bC : List UInt8 := [41, 59, 32, 113, 32, 58, 61, 32, 116, 46, 113, 59, 32, 101, 49, 32, 58, 61, 32, 101, 46, 113, 59, 32, 99, 49, 32, 58, 61, 32, 99, 46, 99, 118, 59, 32, 99, 113, 32, 58, 61, 32, 99, 46, 113, 59, 32, 101, 110, 100]
def bTxt (n : Nat) : List UInt8 := bA ++ Lib.decDigits n ++ bB ++ Lib.decDigits n ++ bC
def bPr (n : Nat) : List De × List St := match parse2 ⟨(bTxt n).toArray⟩ with | .ok p _ => p | _ => ([], [])
def bKk (n : Nat) : Nat := match parse2 ⟨(bTxt n).toArray⟩ with | .ok _ k => k | _ => 0
abbrev ba (l : List UInt8) : ByteArray := ⟨l.toArray⟩
def bDs : List De := [⟨ba [97], 1, 1, 0⟩, ⟨ba [114], 1, 1, 0⟩, ⟨ba [113], 2, 1, 0⟩, ⟨ba [101, 49], 2, 1, 0⟩, ⟨ba [99, 49], 2, 2, 0⟩, ⟨ba [99, 113], 2, 1, 0⟩, ⟨ba [116], 3, 3, 0⟩, ⟨ba [101], 3, 5, 0⟩, ⟨ba [99], 3, 4, 0⟩]
def bBody (n : Nat) : List St := [.call 0 (ba [116]) [.name 0 (ba [97])] n, .call 0 (ba [101]) [.name 0 (ba [97])] 0, .call 0 (ba [99]) [.name 0 (ba [97]), .name 0 (ba [114])] n,
  .set 0 (ba [113]) (.field 0 (ba [116]) (ba [113])), .set 0 (ba [101, 49]) (.field 0 (ba [101]) (ba [113])), .set 0 (ba [99, 49]) (.field 0 (ba [99]) (ba [99, 118])), .set 0 (ba [99, 113]) (.field 0 (ba [99]) (ba [113]))]
def bAll (n : Nat) : Prop := parse2 ⟨(bTxt n).toArray⟩ = .ok (bPr n) (bKk n) ∧ checkC (bPr n) = .ok () ∧ (bPr n).1 = bDs ∧ erL (bPr n).2 = bBody n ∧ (bTxt n).length ≤ 1000
theorem ball_0 : bAll 0 := ⟨by kernel_rfl, by kernel_rfl, by kernel_rfl, by kernel_rfl, Nat.le_of_ble_eq_true (by kernel_rfl)⟩
theorem ball_1 : bAll 1 := ⟨by kernel_rfl, by kernel_rfl, by kernel_rfl, by kernel_rfl, Nat.le_of_ble_eq_true (by kernel_rfl)⟩
theorem ball_2 : bAll 2 := ⟨by kernel_rfl, by kernel_rfl, by kernel_rfl, by kernel_rfl, Nat.le_of_ble_eq_true (by kernel_rfl)⟩
theorem ball_3 : bAll 3 := ⟨by kernel_rfl, by kernel_rfl, by kernel_rfl, by kernel_rfl, Nat.le_of_ble_eq_true (by kernel_rfl)⟩
theorem ball_4 : bAll 4 := ⟨by kernel_rfl, by kernel_rfl, by kernel_rfl, by kernel_rfl, Nat.le_of_ble_eq_true (by kernel_rfl)⟩
theorem ball_5 : bAll 5 := ⟨by kernel_rfl, by kernel_rfl, by kernel_rfl, by kernel_rfl, Nat.le_of_ble_eq_true (by kernel_rfl)⟩
theorem ball_6 : bAll 6 := ⟨by kernel_rfl, by kernel_rfl, by kernel_rfl, by kernel_rfl, Nat.le_of_ble_eq_true (by kernel_rfl)⟩
theorem ball_7 : bAll 7 := ⟨by kernel_rfl, by kernel_rfl, by kernel_rfl, by kernel_rfl, Nat.le_of_ble_eq_true (by kernel_rfl)⟩
theorem ball_8 : bAll 8 := ⟨by kernel_rfl, by kernel_rfl, by kernel_rfl, by kernel_rfl, Nat.le_of_ble_eq_true (by kernel_rfl)⟩
theorem ball_9 : bAll 9 := ⟨by kernel_rfl, by kernel_rfl, by kernel_rfl, by kernel_rfl, Nat.le_of_ble_eq_true (by kernel_rfl)⟩
theorem ball_10 : bAll 10 := ⟨by kernel_rfl, by kernel_rfl, by kernel_rfl, by kernel_rfl, Nat.le_of_ble_eq_true (by kernel_rfl)⟩
theorem ball_11 : bAll 11 := ⟨by kernel_rfl, by kernel_rfl, by kernel_rfl, by kernel_rfl, Nat.le_of_ble_eq_true (by kernel_rfl)⟩
theorem ball_12 : bAll 12 := ⟨by kernel_rfl, by kernel_rfl, by kernel_rfl, by kernel_rfl, Nat.le_of_ble_eq_true (by kernel_rfl)⟩
theorem ball_13 : bAll 13 := ⟨by kernel_rfl, by kernel_rfl, by kernel_rfl, by kernel_rfl, Nat.le_of_ble_eq_true (by kernel_rfl)⟩
theorem ball_14 : bAll 14 := ⟨by kernel_rfl, by kernel_rfl, by kernel_rfl, by kernel_rfl, Nat.le_of_ble_eq_true (by kernel_rfl)⟩
theorem ball_15 : bAll 15 := ⟨by kernel_rfl, by kernel_rfl, by kernel_rfl, by kernel_rfl, Nat.le_of_ble_eq_true (by kernel_rfl)⟩
theorem ball_16 : bAll 16 := ⟨by kernel_rfl, by kernel_rfl, by kernel_rfl, by kernel_rfl, Nat.le_of_ble_eq_true (by kernel_rfl)⟩
theorem ball_17 : bAll 17 := ⟨by kernel_rfl, by kernel_rfl, by kernel_rfl, by kernel_rfl, Nat.le_of_ble_eq_true (by kernel_rfl)⟩
theorem ball_18 : bAll 18 := ⟨by kernel_rfl, by kernel_rfl, by kernel_rfl, by kernel_rfl, Nat.le_of_ble_eq_true (by kernel_rfl)⟩
theorem ball_19 : bAll 19 := ⟨by kernel_rfl, by kernel_rfl, by kernel_rfl, by kernel_rfl, Nat.le_of_ble_eq_true (by kernel_rfl)⟩
theorem ball (n : Nat) (h : n < 20) : bAll n := by
  rcases (show n = 0 ∨ n = 1 ∨ n = 2 ∨ n = 3 ∨ n = 4 ∨ n = 5 ∨ n = 6 ∨ n = 7 ∨ n = 8 ∨ n = 9 ∨ n = 10 ∨ n = 11 ∨ n = 12 ∨ n = 13 ∨ n = 14 ∨ n = 15 ∨ n = 16 ∨ n = 17 ∨ n = 18 ∨ n = 19 by omega) with rfl | rfl | rfl | rfl | rfl | rfl | rfl | rfl | rfl | rfl | rfl | rfl | rfl | rfl | rfl | rfl | rfl | rfl | rfl | rfl
  · exact ball_0
  · exact ball_1
  · exact ball_2
  · exact ball_3
  · exact ball_4
  · exact ball_5
  · exact ball_6
  · exact ball_7
  · exact ball_8
  · exact ball_9
  · exact ball_10
  · exact ball_11
  · exact ball_12
  · exact ball_13
  · exact ball_14
  · exact ball_15
  · exact ball_16
  · exact ball_17
  · exact ball_18
  · exact ball_19
end Go.Proofs.YtpblellbffmolaaGreatDoor
