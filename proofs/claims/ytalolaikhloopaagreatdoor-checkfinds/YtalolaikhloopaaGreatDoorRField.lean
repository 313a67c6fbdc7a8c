/-
 CONTRACTS of Field of the reference and of check, and of check.Args, at whatever number.
-/
import Derived.Test.YtalolaikhloopaaGreatDoorJChk
namespace Go.Proofs.YtalolaikhloopaaGreatDoor
open Go.RowKit
set_option linter.unusedSimpArgs false
set_option linter.unusedVariables false

/-- of which type a block's field is, by its type's number, whatever it is -/
def fieldI (kind : Int) (s : List UInt8) : Int :=
 if s == [113] then (if 3 ≤ kind ∧ kind ≤ 5 then 1 else 0)
 else if s == [101, 116] then (if kind = 3 then 2 else 0)
 else if s == [99, 118] then (if kind = 4 then 2 else 0) else 0

set_option maxRecDepth 100000 in
set_option maxHeartbeats 3200000 in
theorem rin_at (n a b : Int) (w : World) : Calls Tryz.prog 70 #[.int .i64 n, .int .i64 a, .int .i64 b] w fun e w' => e = .returned (.bool (decide (a ≤ n) && decide (n ≤ b))) ∧ w' = w := by
 by_cases h : a ≤ n
 ·have e : (decide (a ≤ n) && decide (n ≤ b)) = decide (n ≤ b) := by simp [h]
  rw [e]
  go_enter Tryz.func70, Tryz.ntmps70
  go_wp2_with fail
  go_ret
  exact ⟨rfl, rfl⟩
 ·have e : (decide (a ≤ n) && decide (n ≤ b)) = false := by simp [h]
  rw [e]
  go_enter Tryz.func70, Tryz.ntmps70
  go_wp2_with fail
  go_ret
  exact ⟨rfl, rfl⟩

set_option maxRecDepth 100000 in
set_option maxHeartbeats 3200000 in
theorem rfield_at (kind : Int) (s : ByteArray) (w : World) : Calls Tryz.prog 23 #[.int .i64 kind, .string s] w fun e w' => e = .returned (.int .i64 (fieldI kind s.toList)) ∧ w' = w := by
 have HI := hide (rin_at kind 3 5 w)
 cases h1 : (s.toList == [113]) with
 | true =>
  have e : fieldI kind s.toList = if 3 ≤ kind ∧ kind ≤ 5 then 1 else 0 := by simp only [fieldI, h1, if_true]
  rw [e]
  by_cases hk : 3 ≤ kind ∧ kind ≤ 5
  ·rw [if_pos hk]
   have HK : Hid ((decide (3 ≤ kind) && decide (kind ≤ 5)) = true) := hide (by simp [hk])
   go_enter Tryz.func23, Tryz.ntmps23
   go_wp2_with fail
   refine HI.out.mono ?_
   rintro e w1 ⟨rfl, rfl⟩
   rw [HK.out]
   go_wp2_with fail
   go_ret
   exact ⟨rfl, rfl⟩
  ·rw [if_neg hk]
   have HK : Hid ((decide (3 ≤ kind) && decide (kind ≤ 5)) = false) := hide (by simp; omega)
   go_enter Tryz.func23, Tryz.ntmps23
   go_wp2_with fail
   refine HI.out.mono ?_
   rintro e w1 ⟨rfl, rfl⟩
   rw [HK.out]
   go_wp2_with fail
   go_ret
   exact ⟨rfl, rfl⟩
 | false =>
  cases h2 : (s.toList == [101, 116]) with
  | true =>
   by_cases hk : kind = 3
   ·subst hk
    have e : fieldI 3 s.toList = 2 := by simp [fieldI, h1, h2]
    rw [e]
    go_enter Tryz.func23, Tryz.ntmps23
    go_wp2_with fail
    go_ret
    exact ⟨rfl, rfl⟩
   ·have e : fieldI kind s.toList = 0 := by simp [fieldI, h1, h2, hk]
    have hq : (kind == 3) = false := by rw [beq_eq_false_iff_ne]; exact hk
    rw [e]
    go_enter Tryz.func23, Tryz.ntmps23
    go_wp2_with fail
    go_ret
    exact ⟨rfl, rfl⟩
  | false =>
   cases h3 : (s.toList == [99, 118]) with
   | true =>
    by_cases hk : kind = 4
    ·subst hk
     have e : fieldI 4 s.toList = 2 := by simp [fieldI, h1, h2, h3]
     rw [e]
     go_enter Tryz.func23, Tryz.ntmps23
     go_wp2_with fail
     go_ret
     exact ⟨rfl, rfl⟩
    ·have e : fieldI kind s.toList = 0 := by simp [fieldI, h1, h2, h3, hk]
     have hq : (kind == 4) = false := by rw [beq_eq_false_iff_ne]; exact hk
     rw [e]
     go_enter Tryz.func23, Tryz.ntmps23
     go_wp2_with fail
     go_ret
     exact ⟨rfl, rfl⟩
   | false =>
    have e : fieldI kind s.toList = 0 := by simp [fieldI, h1, h2, h3]
    rw [e]
    go_enter Tryz.func23, Tryz.ntmps23
    go_wp2_with fail
    go_ret
    exact ⟨rfl, rfl⟩

/-- how many a block is called with, and whether a number, by its type's number, whatever it is -/
def argsI (kind : Int) : Int × Bool := if kind = 3 then (1, true) else if kind = 4 then (2, true) else if kind = 5 then (1, false) else (0, false)
set_option maxRecDepth 100000 in
set_option maxHeartbeats 3200000 in
theorem cargs_at (kind : Int) (w : World) : Calls Tryz.prog 24 #[.int .i64 kind] w fun e w' => e = .returned (.tuple #[.int .i64 (argsI kind).1, .bool (argsI kind).2]) ∧ w' = w := by
 rcases (show kind = 3 ∨ kind = 4 ∨ kind = 5 ∨ (kind ≠ 3 ∧ kind ≠ 4 ∧ kind ≠ 5) by omega) with rfl | rfl | rfl | ⟨h3, h4, h5⟩
 ·go_enter Tryz.func24, Tryz.ntmps24
  go_wp2
  go_ret2
  exact ⟨rfl, rfl⟩
 ·go_enter Tryz.func24, Tryz.ntmps24
  go_wp2
  go_ret2
  exact ⟨rfl, rfl⟩
 ·go_enter Tryz.func24, Tryz.ntmps24
  go_wp2
  go_ret2
  exact ⟨rfl, rfl⟩
 ·have q3 : (kind == 3) = false := by rw [beq_eq_false_iff_ne]; exact h3
  have q4 : (kind == 4) = false := by rw [beq_eq_false_iff_ne]; exact h4
  have q5 : (kind == 5) = false := by rw [beq_eq_false_iff_ne]; exact h5
  have e : argsI kind = (0, false) := by simp [argsI, h3, h4, h5]
  rw [e]
  go_enter Tryz.func24, Tryz.ntmps24
  go_wp2
  go_ret2
  exact ⟨rfl, rfl⟩

set_option maxRecDepth 100000 in
set_option maxHeartbeats 3200000 in
theorem cfield_at (kind : Int) (s : ByteArray) (w : World) : Calls Tryz.prog 22 #[.int .i64 kind, .string s] w fun e w' => e = .returned (.int .i64 (fieldI kind s.toList)) ∧ w' = w := by
 have HI := hide (cargs_at kind w)
 cases h1 : (s.toList == [113]) with
 | true =>
  have h2 : (s.toList == [101, 116]) = false := by rw [beq_iff_eq] at h1; rw [h1]; rfl
  have h3 : (s.toList == [99, 118]) = false := by rw [beq_iff_eq] at h1; rw [h1]; rfl
  by_cases hk : 3 ≤ kind ∧ kind ≤ 5
  ·have e : fieldI kind s.toList = 1 := by simp only [fieldI, h1, if_true, if_pos hk]
   have ha : (0 : Int) < (argsI kind).1 := by
    rcases (show kind = 3 ∨ kind = 4 ∨ kind = 5 by omega) with rfl | rfl | rfl <;> decide
   rw [e]
   generalize argsI kind = q at *
   obtain ⟨q1, q2⟩ := q
   go_enter Tryz.func22, Tryz.ntmps22
   go_wp2_with fail
   refine HI.out.mono ?_
   rintro e w1 ⟨rfl, rfl⟩
   go_wp2_with fail
   go_ret
   exact ⟨rfl, rfl⟩
  ·have e : fieldI kind s.toList = 0 := by simp only [fieldI, h1, if_true, if_neg hk]
   have ha : argsI kind = (0, false) := by simp only [argsI, if_neg (show ¬ kind = 3 by omega), if_neg (show ¬ kind = 4 by omega), if_neg (show ¬ kind = 5 by omega)]
   rw [e]
   rw [ha] at HI
   clear ha
   go_enter Tryz.func22, Tryz.ntmps22
   go_wp2_with fail
   refine HI.out.mono ?_
   rintro e w1 ⟨rfl, rfl⟩
   go_wp2_with fail
   go_ret
   exact ⟨rfl, rfl⟩
 | false =>
  generalize argsI kind = q at *
  obtain ⟨q1, q2⟩ := q
  cases h2 : (s.toList == [101, 116]) with
  | true =>
   have h3 : (s.toList == [99, 118]) = false := by rw [beq_iff_eq] at h2; rw [h2]; rfl
   by_cases hk : kind = 3
   ·subst hk
    have e : fieldI 3 s.toList = 2 := by simp [fieldI, h1, h2]
    rw [e]
    go_enter Tryz.func22, Tryz.ntmps22
    go_wp2_with fail
    refine HI.out.mono ?_
    rintro e w1 ⟨rfl, rfl⟩
    go_wp2_with fail
    go_ret
    exact ⟨rfl, rfl⟩
   ·have e : fieldI kind s.toList = 0 := by simp [fieldI, h1, h2, hk]
    have hq : (kind == 3) = false := by rw [beq_eq_false_iff_ne]; exact hk
    rw [e]
    go_enter Tryz.func22, Tryz.ntmps22
    go_wp2_with fail
    refine HI.out.mono ?_
    rintro e w1 ⟨rfl, rfl⟩
    go_wp2_with fail
    go_ret
    exact ⟨rfl, rfl⟩
  | false =>
   cases h3 : (s.toList == [99, 118]) with
   | true =>
    by_cases hk : kind = 4
    ·subst hk
     have e : fieldI 4 s.toList = 2 := by simp [fieldI, h1, h2, h3]
     rw [e]
     go_enter Tryz.func22, Tryz.ntmps22
     go_wp2_with fail
     refine HI.out.mono ?_
     rintro e w1 ⟨rfl, rfl⟩
     go_wp2_with fail
     go_ret
     exact ⟨rfl, rfl⟩
    ·have e : fieldI kind s.toList = 0 := by simp [fieldI, h1, h2, h3, hk]
     have hq : (kind == 4) = false := by rw [beq_eq_false_iff_ne]; exact hk
     rw [e]
     go_enter Tryz.func22, Tryz.ntmps22
     go_wp2_with fail
     refine HI.out.mono ?_
     rintro e w1 ⟨rfl, rfl⟩
     go_wp2_with fail
     go_ret
     exact ⟨rfl, rfl⟩
   | false =>
    have e : fieldI kind s.toList = 0 := by simp [fieldI, h1, h2, h3]
    rw [e]
    go_enter Tryz.func22, Tryz.ntmps22
    go_wp2_with fail
    refine HI.out.mono ?_
    rintro e w1 ⟨rfl, rfl⟩
    go_wp2_with fail
    go_ret
    exact ⟨rfl, rfl⟩
end Go.Proofs.YtalolaikhloopaaGreatDoor
