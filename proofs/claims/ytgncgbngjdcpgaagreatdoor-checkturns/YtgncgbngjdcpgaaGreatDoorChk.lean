/-
  PLAIN: what is found of a program; CONTRACTS of check's smallest functions.
-/
import Derived.Test.YtgncgbngjdcpgaaGreatDoorWords
import Derived.Test.YtgncgbngjdcpgaaGreatDoorOne
set_option linter.unusedSimpArgs false
set_option linter.unusedVariables false
namespace Go.Proofs.YtgncgbngjdcpgaaGreatDoor
open Go.RowKit

def widthN (ty : Nat) : Nat := if ty = 1 then 1 else if ty = 2 then 8 else 0
def argsN (ty : Nat) : Nat × Bool := if ty = 3 then (1, true) else if ty = 4 then (2, true) else if ty = 5 then (1, false) else (0, false)
def fieldN (ty : Nat) (s : List UInt8) : Nat := if (s == [113]) = true ∧ 0 < (argsN ty).1 then 1 else if ((s == [101, 116]) = true ∧ ty = 3) ∨ ((s == [99, 118]) = true ∧ ty = 4) then 2 else 0
def resN (op : List UInt8) (a b : Nat) : Nat :=
  if a ≠ b ∨ widthN a = 0 then 0
  else if op == [97, 110, 100] || op == [111, 114] || op == [120, 111, 114] then a
  else if op == [61] || op == [60, 62] then 1
  else if a = 2 then (if op == [60] || op == [60, 61] || op == [62] || op == [62, 61] then 1 else if op == [43] || op == [45] then 2 else 0)
  else 0

/-- what is wrong, and where; or an answer -/
inductive Ck (α : Type) where
  | bad (e : Int) (p : Nat)
  | ok (a : α)
def Ck.bind {α β : Type} (r : Ck α) (f : α → Ck β) : Ck β :=
  match r with
  | .bad e p => .bad e p
  | .ok a => f a
abbrev Find := ByteArray → Option De
def declC (f : Find) (s : ByteArray) (p : Nat) : Ck De := match f s with | none => .bad 7 p | some d => .ok d
def posE : Ex → Nat
  | .num p _ _ => p
  | .name p _ => p
  | .field p _ _ => p
  | .not p _ => p
  | .bin p _ _ _ => p
def kindC (f : Find) : Ex → Ck Nat
  | .num _ _ ty => .ok ty
  | .name p s => (declC f s p).bind fun d => if widthN d.ty = 0 then .bad 1 p else .ok d.ty
  | .field p s g => (declC f s p).bind fun d => if fieldN d.ty g.toList = 0 then .bad 5 p else .ok (fieldN d.ty g.toList)
  | .not _ x => kindC f x
  | .bin p op x y => (kindC f x).bind fun a => (kindC f y).bind fun b => if resN op.toList a b = 0 then .bad 1 p else .ok (resN op.toList a b)
def wantC (f : Find) (x : Ex) (ty : Nat) : Ck Unit := (kindC f x).bind fun t => if t = ty then .ok () else .bad 1 (posE x)
def setC (f : Find) (p : Nat) (s : ByteArray) (x : Ex) : Ck Unit := (declC f s p).bind fun d => if widthN d.ty = 0 then .bad 1 p else if d.way = 1 then .bad 6 p else wantC f x d.ty
def argsC (f : Find) : List Ex → Ck Unit
  | [] => .ok ()
  | x :: l => (wantC f x 1).bind fun _ => argsC f l
def callC (f : Find) (p : Nat) (s : ByteArray) (l : List Ex) (n : Nat) : Ck Unit := (declC f s p).bind fun d => if (argsN d.ty).1 = 0 then .bad 1 p else if l.length ≠ (argsN d.ty).1 ∨ (n ≠ 0 ∧ (argsN d.ty).2 = false) then .bad 2 p else argsC f l
mutual
def stC (f : Find) : St → Ck Unit
  | .set p s x => setC f p s x
  | .call p s l n => callC f p s l n
  | .cond _ x th el => (wantC f x 1).bind fun _ => (stsC f th).bind fun _ => stsC f el
def stsC (f : Find) : List St → Ck Unit
  | [] => .ok ()
  | s :: l => (stC f s).bind fun _ => stsC f l
end
/-- the first that is called as one ahead -/
def dupC : Nat → List De → List De → Option Nat
  | _, _, [] => none
  | i, seen, d :: l => if seen.any (fun e => e.name.toList == d.name.toList) then some i else dupC (i + 1) (seen ++ [d]) l
def findC (ds : List De) : Find := fun s => ds.find? fun d => d.name.toList == s.toList
def checkC (p : List De × List St) : Ck Unit := match dupC 0 [] p.1 with | some i => .bad 9 i | none => stsC (findC p.1) p.2

set_option maxRecDepth 100000 in
set_option maxHeartbeats 3200000 in
theorem width_at (ty : Nat) (w : World) : Calls Tryz.prog 135 #[.int .i64 ty] w fun e w' => e = .returned (.int .i64 (widthN ty : Nat)) ∧ w' = w := by
  rcases (show ty = 1 ∨ ty = 2 ∨ (ty ≠ 1 ∧ ty ≠ 2) by omega) with rfl | rfl | ⟨h1, h2⟩
  · go_enter Tryz.func135, Tryz.ntmps135
    go_wp2
    go_ret
    exact ⟨rfl, rfl⟩
  · go_enter Tryz.func135, Tryz.ntmps135
    go_wp2
    go_ret
    exact ⟨rfl, rfl⟩
  · have q1 : ((ty : Int) == 1) = false := by simp; omega
    have q2 : ((ty : Int) == 2) = false := by simp; omega
    have e : widthN ty = 0 := by simp [widthN, h1, h2]
    rw [e]
    go_enter Tryz.func135, Tryz.ntmps135
    go_wp2
    go_ret
    exact ⟨rfl, rfl⟩

theorem ret_pair {a b : Int} {x y : Bool} (h : a = b) (h2 : x = y) : Ending.returned (.tuple #[.int .i64 a, .bool x]) = .returned (.tuple #[.int .i64 b, .bool y]) := by rw [h, h2]
set_option maxRecDepth 100000 in
set_option maxHeartbeats 3200000 in
theorem args_kind_at (ty : Nat) (w : World) : Calls Tryz.prog 22 #[.int .i64 ty] w fun e w' => e = .returned (.tuple #[.int .i64 ((argsN ty).1 : Nat), .bool (argsN ty).2]) ∧ w' = w := by
  rcases (show ty = 3 ∨ ty = 4 ∨ ty = 5 ∨ (ty ≠ 3 ∧ ty ≠ 4 ∧ ty ≠ 5) by omega) with rfl | rfl | rfl | ⟨h3, h4, h5⟩
  · go_enter Tryz.func22, Tryz.ntmps22
    go_wp2
    go_ret2
    exact ⟨rfl, rfl⟩
  · go_enter Tryz.func22, Tryz.ntmps22
    go_wp2
    go_ret2
    exact ⟨rfl, rfl⟩
  · go_enter Tryz.func22, Tryz.ntmps22
    go_wp2
    go_ret2
    exact ⟨rfl, rfl⟩
  · have q3 : ((ty : Int) == 3) = false := by simp; omega
    have q4 : ((ty : Int) == 4) = false := by simp; omega
    have q5 : ((ty : Int) == 5) = false := by simp; omega
    have e : argsN ty = (0, false) := by simp [argsN, h3, h4, h5]
    rw [e]
    go_enter Tryz.func22, Tryz.ntmps22
    go_wp2
    go_ret2
    exact ⟨rfl, rfl⟩

set_option maxRecDepth 100000 in
set_option maxHeartbeats 3200000 in
theorem ofBytes_at (op : ByteArray) (w : World) : Calls Tryz.prog 195 #[.string op] w fun e w' => e = .returned (.int .i64 ((if op.toList == [60] || op.toList == [60, 61] || op.toList == [62] || op.toList == [62, 61] then 1 else if op.toList == [43] || op.toList == [45] then 2 else 0 : Nat) : Int)) ∧ w' = w := by
  go_enter Tryz.func195, Tryz.ntmps195
  go_wp2
  all_goals (go_ret; refine ⟨ret_int ?_, rfl⟩; simp_all)

set_option maxRecDepth 100000 in
set_option maxHeartbeats 3200000 in
theorem result_at (op : ByteArray) (a b : Nat) (w : World) : Calls Tryz.prog 175 #[.string op, .int .i64 a, .int .i64 b] w fun e w' => e = .returned (.int .i64 (resN op.toList a b : Nat)) ∧ w' = w := by
  have HW := hide (width_at a w)
  have HO := hide (ofBytes_at op w)
  by_cases hab : a = b
  · subst hab
    by_cases hw : widthN a = 0
    · have e : resN op.toList a a = 0 := by simp [resN, hw]
      rw [e]
      rw [hw] at HW
      go_enter Tryz.func175, Tryz.ntmps175
      go_wp2_with fail
      refine HW.out.mono ?_
      rintro e w' ⟨rfl, rfl⟩
      go_wp2_with fail
      go_ret
      exact ⟨rfl, rfl⟩
    · have hwi : (((widthN a : Nat) : Int) == 0) = false := by simp; omega
      have HE : Hid (resN op.toList a a = if op.toList == [97, 110, 100] || op.toList == [111, 114] || op.toList == [120, 111, 114] then a
        else if op.toList == [61] || op.toList == [60, 62] then 1
        else if a = 2 then (if op.toList == [60] || op.toList == [60, 61] || op.toList == [62] || op.toList == [62, 61] then 1 else if op.toList == [43] || op.toList == [45] then 2 else 0) else 0) := by show _ = _; simp [resN, hw]
      generalize widthN a = wa at *
      by_cases a2 : a = 2
      · subst a2
        go_enter Tryz.func175, Tryz.ntmps175
        go_wp2_with fail
        refine HW.out.mono ?_
        rintro e w' ⟨rfl, rfl⟩
        clear HW
        go_wp2_with (go_at_call 195; refine HO.out.mono ?_; rintro e w' ⟨rfl, rfl⟩)
        all_goals (go_ret; refine ⟨ret_int ?_, rfl⟩; rw [HE.out]; simp_all)
      · have q2 : ((a : Int) == 2) = false := by simp; omega
        go_enter Tryz.func175, Tryz.ntmps175
        go_wp2_with fail
        refine HW.out.mono ?_
        rintro e w' ⟨rfl, rfl⟩
        clear HW HO
        go_wp2_with fail
        all_goals (go_ret; refine ⟨ret_int ?_, rfl⟩; rw [HE.out]; simp_all)
  · have e : resN op.toList a b = 0 := by simp [resN, hab]
    have hne : ((a : Int) != (b : Int)) = true := by simp; omega
    rw [e]
    go_enter Tryz.func175, Tryz.ntmps175
    go_wp2_with fail
    go_ret
    exact ⟨rfl, rfl⟩
end Go.Proofs.YtgncgbngjdcpgaaGreatDoor
