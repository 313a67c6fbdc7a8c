/-
  CONTRACTS of the leaves of package value: Width, Cut, Not, bit, ofBytes, holds, Result, Two: for every argument, each returns its plain function and leaves the world as it was.
-/
import Derived.Test.YtmoakccnjahfeaaRows
import Derived.WalkKit
import Derived.WalkSpells
import Derived.WalkLawsBesides
import Derived.Test.YtmoakccnjahfeaaPlain
namespace Go.Proofs.Ytmoakccnjahfeaa
open Go.RowKit

theorem ret_int {k : IntKind} {a b : Int} (h : a = b) : Ending.returned (.int k a) = .returned (.int k b) := by rw [h]
theorem ret_bool {a b : Bool} (h : a = b) : Ending.returned (.bool a) = .returned (.bool b) := by rw [h]

set_option maxHeartbeats 400000 in
theorem width_any (k : Int) (w : World) :
    Calls Try.prog 6 #[.int .i64 k] w fun e w' => e = .returned (.int .i64 (wid k)) ∧ w' = w := by
  rcases mod_cases k with ⟨rfl, _⟩ | ⟨rfl, _⟩ | ⟨e1, e2, _⟩
  · go_enter Try.func6, Try.ntmps6
    go_wp2
    go_ret
    exact ⟨rfl, rfl⟩
  · go_enter Try.func6, Try.ntmps6
    go_wp2
    go_ret
    exact ⟨rfl, rfl⟩
  · have ev : wid k = 0 := by simp at e1 e2; simp [wid, e1, e2]
    rw [ev]
    go_enter Try.func6, Try.ntmps6
    go_wp2
    go_ret
    exact ⟨rfl, rfl⟩

set_option maxHeartbeats 400000 in
theorem cut_any (k n : Int) (w : World) :
    Calls Try.prog 8 #[.int .i64 k, .int .i64 n] w fun e w' => e = .returned (.int .i64 (cutI k n)) ∧ w' = w := by
  unfold cutI
  rcases mod_cases k with ⟨rfl, hm⟩ | ⟨rfl, hm⟩ | ⟨e1, e2, hm⟩
  · rw [hm]; clear hm
    go_enter Try.func8, Try.ntmps8
    go_wp2
    go_ret
    exact ⟨ret_int (i64_mask1 n), rfl⟩
  · rw [hm]; clear hm
    go_enter Try.func8, Try.ntmps8
    go_wp2
    go_ret
    exact ⟨ret_int (i64_mask8 n), rfl⟩
  · rw [hm]; clear hm
    go_enter Try.func8, Try.ntmps8
    go_wp2
    go_ret
    exact ⟨ret_int ((i64_mask0 n).trans (by omega)), rfl⟩

set_option maxHeartbeats 400000 in
theorem not_any (k n : Int) (w : World) (h1 : -9223372036854775808 ≤ n) (h2 : n ≤ 9223372036854775807) :
    Calls Try.prog 19 #[.int .i64 k, .int .i64 n] w fun e w' => e = .returned (.int .i64 (cutI k (-1 - n))) ∧ w' = w := by
  rw [← i64_not_all n h1 h2]
  clear h1 h2
  go_enter Try.func19, Try.ntmps19
  go_wp2_with (first | (go_at_call 8; refine (cut_any _ _ _).mono ?_; rintro e w' ⟨rfl, rfl⟩))
  go_ret
  exact ⟨rfl, rfl⟩

set_option maxHeartbeats 400000 in
theorem bit_any (b : Bool) (w : World) :
    Calls Try.prog 27 #[.bool b] w fun e w' => e = .returned (.int .i64 (bitI b)) ∧ w' = w := by
  cases b
  · go_enter Try.func27, Try.ntmps27
    go_wp2
    go_ret
    exact ⟨rfl, rfl⟩
  · go_enter Try.func27, Try.ntmps27
    go_wp2
    go_ret
    exact ⟨rfl, rfl⟩

/-- a text is one of the eleven marks, or none -/
def Marks (op : ByteArray) : Prop :=
  op = ⟨#[97, 110, 100]⟩ ∨ op = ⟨#[111, 114]⟩ ∨ op = ⟨#[120, 111, 114]⟩ ∨ op = ⟨#[61]⟩ ∨ op = ⟨#[60, 62]⟩ ∨ op = ⟨#[60]⟩ ∨ op = ⟨#[60, 61]⟩ ∨ op = ⟨#[62]⟩ ∨ op = ⟨#[62, 61]⟩ ∨ op = ⟨#[43]⟩ ∨ op = ⟨#[45]⟩
theorem ba_eq {op : ByteArray} {l : List UInt8} (h : op.data.toList = l) : op = ⟨l.toArray⟩ := by
  cases op; subst h; rfl
theorem op_cases (op : ByteArray) : Marks op ∨ ((op.toList == [97, 110, 100]) = false ∧ (op.toList == [111, 114]) = false ∧ (op.toList == [120, 111, 114]) = false ∧ (op.toList == [61]) = false ∧ (op.toList == [60, 62]) = false ∧ (op.toList == [60]) = false ∧ (op.toList == [60, 61]) = false ∧ (op.toList == [62]) = false ∧ (op.toList == [62, 61]) = false ∧ (op.toList == [43]) = false ∧ (op.toList == [45]) = false) := by
  rw [ByteArray.toList_eq]
  by_cases h : Marks op
  · exact .inl h
  · refine .inr ?_
    unfold Marks at h
    simp only [not_or] at h
    obtain ⟨h1, h2, h3, h4, h5, h6, h7, h8, h9, h10, h11⟩ := h
    refine ⟨?_, ?_, ?_, ?_, ?_, ?_, ?_, ?_, ?_, ?_, ?_⟩ <;> rw [beq_eq_false_iff_ne] <;> intro e
    · exact h1 (ba_eq e)
    · exact h2 (ba_eq e)
    · exact h3 (ba_eq e)
    · exact h4 (ba_eq e)
    · exact h5 (ba_eq e)
    · exact h6 (ba_eq e)
    · exact h7 (ba_eq e)
    · exact h8 (ba_eq e)
    · exact h9 (ba_eq e)
    · exact h10 (ba_eq e)
    · exact h11 (ba_eq e)

/-- what is of bytes alone -/
def ofBytesI (op : List UInt8) : Int := if op = [60] ∨ op = [60, 61] ∨ op = [62] ∨ op = [62, 61] then 1 else if op = [43] ∨ op = [45] then 2 else 0

set_option maxHeartbeats 1000000 in
theorem ofBytes_any (op : ByteArray) (w : World) :
    Calls Try.prog 28 #[.string op] w fun e w' => e = .returned (.int .i64 (ofBytesI op.data.toList)) ∧ w' = w := by
  rcases op_cases op with hm | ⟨h1, h2, h3, h4, h5, h6, h7, h8, h9, h10, h11⟩
  · rcases hm with rfl | rfl | rfl | rfl | rfl | rfl | rfl | rfl | rfl | rfl | rfl
    all_goals
      go_enter Try.func28, Try.ntmps28
      go_wp2
      go_ret
      exact ⟨rfl, rfl⟩
  · have ev : ofBytesI op.data.toList = 0 := by
      rw [← ByteArray.toList_eq]
      rw [beq_eq_false_iff_ne] at h6 h7 h8 h9 h10 h11
      simp [ofBytesI, h6, h7, h8, h9, h10, h11]
    rw [ev]; clear ev
    go_enter Try.func28, Try.ntmps28
    go_wp2
    go_ret
    exact ⟨rfl, rfl⟩

set_option maxHeartbeats 1000000 in
theorem holds_any (op : ByteArray) (a b : Int) (w : World) :
    Calls Try.prog 31 #[.string op, .int .i64 a, .int .i64 b] w fun e w' => e = .returned (.bool (holdsB op.data.toList a b)) ∧ w' = w := by
  rcases op_cases op with hm | ⟨h1, h2, h3, h4, h5, h6, h7, h8, h9, h10, h11⟩
  · rcases hm with rfl | rfl | rfl | rfl | rfl | rfl | rfl | rfl | rfl | rfl | rfl
    all_goals
      go_enter Try.func31, Try.ntmps31
      go_wp2
      go_ret
      exact ⟨rfl, rfl⟩
  · have ev : holdsB op.data.toList a b = false := by
      rw [← ByteArray.toList_eq]
      rw [beq_eq_false_iff_ne] at h4 h5 h6 h7 h8 h9
      simp [holdsB, h4, h5, h6, h7, h8, h9]
    rw [ev]; clear ev
    go_enter Try.func31, Try.ntmps31
    go_wp2
    go_ret
    exact ⟨rfl, rfl⟩
end Go.Proofs.Ytmoakccnjahfeaa
