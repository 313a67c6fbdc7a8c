/-
  PLAIN: what is found of a program; CONTRACTS of check's smallest functions.
  CONTRACTS of Field, throw, finder and what it makes: names are looked for.
  CONTRACTS of finder, of the look that it makes, and of decl.
  CONTRACT of sameDecls of the laws: two rows of the same declarations are the same.
  CONTRACTS of repeat of the laws, and of Width of the reference.
-/
import Derived.Test.YtiimnnancblbkaaDoorJWords
import Derived.Test.YtiimnnancblbkaaDoorOne
import Derived.Test.YtiimnnancblbkaaDoorDecls
set_option linter.unusedSimpArgs false
set_option linter.unusedVariables false
namespace Go.Proofs.YtiimnnancblbkaaDoor
open Go.RowKit

def widthN (ty : Nat) : Nat := if ty = 1 then 1 else if ty = 2 then 8 else 0
def argsN (ty : Nat) : Nat × Bool := if ty = 3 then (1, true) else if ty = 4 then (2, true) else if ty = 5 then (1, false) else (0, false)
def fieldN (ty : Nat) (s : List UInt8) : Nat := if (s == [113]) = true ∧ 0 < (argsN ty).1 then 1 else if ((s == [101, 116]) = true ∧ ty = 3) ∨ ((s == [99, 118]) = true ∧ ty = 4) then 2 else 0
def resN (op : List UInt8) (a b : Nat) : Nat :=
  if a ≠ b ∨ widthN a = 0 then 0
  else if op == [97, 110, 100] || op == [111, 114] || op == [120, 111, 114] then a
  else if op == [61] || op == [60, 62] then 1
  else if a = 2 then (if op == [60] || op == [60, 61] || op == [62] || op == [62, 61] then 1 else if op == [43] || op == [45] then 2 else 0)
  else 0

/-- what is wrong, and where; or an answer -/
inductive Ck (α : Type) where
  | bad (e : Int) (p : Nat)
  | ok (a : α)
def Ck.bind {α β : Type} (r : Ck α) (f : α → Ck β) : Ck β :=
  match r with
  | .bad e p => .bad e p
  | .ok a => f a
abbrev Find := ByteArray → Option De
def declC (f : Find) (s : ByteArray) (p : Nat) : Ck De := match f s with | none => .bad 7 p | some d => .ok d
def posE : Ex → Nat
  | .num p _ _ => p
  | .name p _ => p
  | .field p _ _ => p
  | .not p _ => p
  | .bin p _ _ _ => p
def kindC (f : Find) : Ex → Ck Nat
  | .num _ _ ty => .ok ty
  | .name p s => (declC f s p).bind fun d => if widthN d.ty = 0 then .bad 1 p else .ok d.ty
  | .field p s g => (declC f s p).bind fun d => if fieldN d.ty g.toList = 0 then .bad 5 p else .ok (fieldN d.ty g.toList)
  | .not _ x => kindC f x
  | .bin p op x y => (kindC f x).bind fun a => (kindC f y).bind fun b => if resN op.toList a b = 0 then .bad 1 p else .ok (resN op.toList a b)
def wantC (f : Find) (x : Ex) (ty : Nat) : Ck Unit := (kindC f x).bind fun t => if t = ty then .ok () else .bad 1 (posE x)
def setC (f : Find) (p : Nat) (s : ByteArray) (x : Ex) : Ck Unit := (declC f s p).bind fun d => if widthN d.ty = 0 then .bad 1 p else if d.way = 1 then .bad 6 p else wantC f x d.ty
def argsC (f : Find) : List Ex → Ck Unit
  | [] => .ok ()
  | x :: l => (wantC f x 1).bind fun _ => argsC f l
def callC (f : Find) (p : Nat) (s : ByteArray) (l : List Ex) (n : Nat) : Ck Unit := (declC f s p).bind fun d => if (argsN d.ty).1 = 0 then .bad 1 p else if l.length ≠ (argsN d.ty).1 ∨ (n ≠ 0 ∧ (argsN d.ty).2 = false) then .bad 2 p else argsC f l
mutual
def stC (f : Find) : St → Ck Unit
  | .set p s x => setC f p s x
  | .call p s l n => callC f p s l n
  | .cond _ x th el => (wantC f x 1).bind fun _ => (stsC f th).bind fun _ => stsC f el
def stsC (f : Find) : List St → Ck Unit
  | [] => .ok ()
  | s :: l => (stC f s).bind fun _ => stsC f l
end
/-- the first that is called as one ahead -/
def dupC : Nat → List De → List De → Option Nat
  | _, _, [] => none
  | i, seen, d :: l => if seen.any (fun e => e.name.toList == d.name.toList) then some i else dupC (i + 1) (seen ++ [d]) l
def findC (ds : List De) : Find := fun s => ds.find? fun d => d.name.toList == s.toList
def checkC (p : List De × List St) : Ck Unit := match dupC 0 [] p.1 with | some i => .bad 9 i | none => stsC (findC p.1) p.2

set_option maxRecDepth 100000 in
set_option maxHeartbeats 3200000 in
theorem width_at (ty : Nat) (w : World) : Calls Tryd.prog 22 #[.int .i64 ty] w fun e w' => e = .returned (.int .i64 (widthN ty : Nat)) ∧ w' = w := by
  rcases (show ty = 1 ∨ ty = 2 ∨ (ty ≠ 1 ∧ ty ≠ 2) by omega) with rfl | rfl | ⟨h1, h2⟩
  · go_enter Tryd.func22, Tryd.ntmps22
    go_wp2
    go_ret
    exact ⟨rfl, rfl⟩
  · go_enter Tryd.func22, Tryd.ntmps22
    go_wp2
    go_ret
    exact ⟨rfl, rfl⟩
  · have q1 : ((ty : Int) == 1) = false := by simp; omega
    have q2 : ((ty : Int) == 2) = false := by simp; omega
    have e : widthN ty = 0 := by simp [widthN, h1, h2]
    rw [e]
    go_enter Tryd.func22, Tryd.ntmps22
    go_wp2
    go_ret
    exact ⟨rfl, rfl⟩

theorem ret_pair {a b : Int} {x y : Bool} (h : a = b) (h2 : x = y) : Ending.returned (.tuple #[.int .i64 a, .bool x]) = .returned (.tuple #[.int .i64 b, .bool y]) := by rw [h, h2]
set_option maxRecDepth 100000 in
set_option maxHeartbeats 3200000 in
theorem args_kind_at (ty : Nat) (w : World) : Calls Tryd.prog 59 #[.int .i64 ty] w fun e w' => e = .returned (.tuple #[.int .i64 ((argsN ty).1 : Nat), .bool (argsN ty).2]) ∧ w' = w := by
  rcases (show ty = 3 ∨ ty = 4 ∨ ty = 5 ∨ (ty ≠ 3 ∧ ty ≠ 4 ∧ ty ≠ 5) by omega) with rfl | rfl | rfl | ⟨h3, h4, h5⟩
  · go_enter Tryd.func59, Tryd.ntmps59
    go_wp2
    go_ret2
    exact ⟨rfl, rfl⟩
  · go_enter Tryd.func59, Tryd.ntmps59
    go_wp2
    go_ret2
    exact ⟨rfl, rfl⟩
  · go_enter Tryd.func59, Tryd.ntmps59
    go_wp2
    go_ret2
    exact ⟨rfl, rfl⟩
  · have q3 : ((ty : Int) == 3) = false := by simp; omega
    have q4 : ((ty : Int) == 4) = false := by simp; omega
    have q5 : ((ty : Int) == 5) = false := by simp; omega
    have e : argsN ty = (0, false) := by simp [argsN, h3, h4, h5]
    rw [e]
    go_enter Tryd.func59, Tryd.ntmps59
    go_wp2
    go_ret2
    exact ⟨rfl, rfl⟩

set_option maxRecDepth 100000 in
set_option maxHeartbeats 3200000 in
theorem ofBytes_at (op : ByteArray) (w : World) : Calls Tryd.prog 63 #[.string op] w fun e w' => e = .returned (.int .i64 ((if op.toList == [60] || op.toList == [60, 61] || op.toList == [62] || op.toList == [62, 61] then 1 else if op.toList == [43] || op.toList == [45] then 2 else 0 : Nat) : Int)) ∧ w' = w := by
  go_enter Tryd.func63, Tryd.ntmps63
  go_wp2
  all_goals (go_ret; refine ⟨ret_int ?_, rfl⟩; simp_all)

set_option maxRecDepth 100000 in
set_option maxHeartbeats 3200000 in
theorem result_at (op : ByteArray) (a b : Nat) (w : World) : Calls Tryd.prog 43 #[.string op, .int .i64 a, .int .i64 b] w fun e w' => e = .returned (.int .i64 (resN op.toList a b : Nat)) ∧ w' = w := by
  have HW := hide (width_at a w)
  have HO := hide (ofBytes_at op w)
  by_cases hab : a = b
  · subst hab
    by_cases hw : widthN a = 0
    · have e : resN op.toList a a = 0 := by simp [resN, hw]
      rw [e]
      rw [hw] at HW
      go_enter Tryd.func43, Tryd.ntmps43
      go_wp2_with fail
      refine HW.out.mono ?_
      rintro e w' ⟨rfl, rfl⟩
      go_wp2_with fail
      go_ret
      exact ⟨rfl, rfl⟩
    · have hwi : (((widthN a : Nat) : Int) == 0) = false := by simp; omega
      have HE : Hid (resN op.toList a a = if op.toList == [97, 110, 100] || op.toList == [111, 114] || op.toList == [120, 111, 114] then a
        else if op.toList == [61] || op.toList == [60, 62] then 1
        else if a = 2 then (if op.toList == [60] || op.toList == [60, 61] || op.toList == [62] || op.toList == [62, 61] then 1 else if op.toList == [43] || op.toList == [45] then 2 else 0) else 0) := by show _ = _; simp [resN, hw]
      generalize widthN a = wa at *
      by_cases a2 : a = 2
      · subst a2
        go_enter Tryd.func43, Tryd.ntmps43
        go_wp2_with fail
        refine HW.out.mono ?_
        rintro e w' ⟨rfl, rfl⟩
        clear HW
        go_wp2_with (go_at_call 63; refine HO.out.mono ?_; rintro e w' ⟨rfl, rfl⟩)
        all_goals (go_ret; refine ⟨ret_int ?_, rfl⟩; rw [HE.out]; simp_all)
      · have q2 : ((a : Int) == 2) = false := by simp; omega
        go_enter Tryd.func43, Tryd.ntmps43
        go_wp2_with fail
        refine HW.out.mono ?_
        rintro e w' ⟨rfl, rfl⟩
        clear HW HO
        go_wp2_with fail
        all_goals (go_ret; refine ⟨ret_int ?_, rfl⟩; rw [HE.out]; simp_all)
  · have e : resN op.toList a b = 0 := by simp [resN, hab]
    have hne : ((a : Int) != (b : Int)) = true := by simp; omega
    rw [e]
    go_enter Tryd.func43, Tryd.ntmps43
    go_wp2_with fail
    go_ret
    exact ⟨rfl, rfl⟩
end Go.Proofs.YtiimnnancblbkaaDoor
set_option linter.unusedSimpArgs false
set_option linter.unusedVariables false
namespace Go.Proofs.YtiimnnancblbkaaDoor
open Go.RowKit

set_option maxRecDepth 100000 in
set_option maxHeartbeats 3200000 in
theorem fieldK_A (ty m : Nat) (nb : Bool) (s : ByteArray) (w : World) (HA : Hid (Calls Tryd.prog 59 #[.int .i64 ty] w fun e w' => e = .returned (.tuple #[.int .i64 m, .bool nb]) ∧ w' = w)) (c1 : (s.toList == [113]) = true) (h : (0 : Int) < (m : Int)) : Calls Tryd.prog 61 #[.int .i64 ty, .string s] w fun e w' => e = .returned (.int .i64 1) ∧ w' = w := by
  go_enter Tryd.func61, Tryd.ntmps61
  go_wp2_with fail
  refine HA.out.mono ?_
  rintro e w' ⟨rfl, rfl⟩
  go_wp2_with fail
  go_ret
  exact ⟨rfl, rfl⟩

set_option maxRecDepth 100000 in
set_option maxHeartbeats 3200000 in
theorem fieldK_B (ty m : Nat) (nb : Bool) (s : ByteArray) (w : World) (HA : Hid (Calls Tryd.prog 59 #[.int .i64 ty] w fun e w' => e = .returned (.tuple #[.int .i64 m, .bool nb]) ∧ w' = w)) (c1 : (s.toList == [113]) = true) (h : (m : Int) ≤ 0) (c2 : (s.toList == [101, 116]) = false) (c3 : (s.toList == [99, 118]) = false) : Calls Tryd.prog 61 #[.int .i64 ty, .string s] w fun e w' => e = .returned (.int .i64 0) ∧ w' = w := by
  go_enter Tryd.func61, Tryd.ntmps61
  go_wp2_with fail
  refine HA.out.mono ?_
  rintro e w' ⟨rfl, rfl⟩
  go_wp2_with fail
  go_ret
  exact ⟨rfl, rfl⟩

set_option maxRecDepth 100000 in
set_option maxHeartbeats 3200000 in
theorem fieldK_C (ty m : Nat) (nb : Bool) (s : ByteArray) (w : World) (HA : Hid (Calls Tryd.prog 59 #[.int .i64 ty] w fun e w' => e = .returned (.tuple #[.int .i64 m, .bool nb]) ∧ w' = w)) (c1 : (s.toList == [113]) = false) (c2 : (s.toList == [101, 116]) = true) (h : ((ty : Int) == 3) = true) : Calls Tryd.prog 61 #[.int .i64 ty, .string s] w fun e w' => e = .returned (.int .i64 2) ∧ w' = w := by
  go_enter Tryd.func61, Tryd.ntmps61
  go_wp2_with fail
  refine HA.out.mono ?_
  rintro e w' ⟨rfl, rfl⟩
  go_wp2_with fail
  go_ret
  exact ⟨rfl, rfl⟩

set_option maxRecDepth 100000 in
set_option maxHeartbeats 3200000 in
theorem fieldK_D (ty m : Nat) (nb : Bool) (s : ByteArray) (w : World) (HA : Hid (Calls Tryd.prog 59 #[.int .i64 ty] w fun e w' => e = .returned (.tuple #[.int .i64 m, .bool nb]) ∧ w' = w)) (c1 : (s.toList == [113]) = false) (c2 : (s.toList == [101, 116]) = true) (h : ((ty : Int) == 3) = false) (c3 : (s.toList == [99, 118]) = false) : Calls Tryd.prog 61 #[.int .i64 ty, .string s] w fun e w' => e = .returned (.int .i64 0) ∧ w' = w := by
  go_enter Tryd.func61, Tryd.ntmps61
  go_wp2_with fail
  refine HA.out.mono ?_
  rintro e w' ⟨rfl, rfl⟩
  go_wp2_with fail
  go_ret
  exact ⟨rfl, rfl⟩

set_option maxRecDepth 100000 in
set_option maxHeartbeats 3200000 in
theorem fieldK_E (ty m : Nat) (nb : Bool) (s : ByteArray) (w : World) (HA : Hid (Calls Tryd.prog 59 #[.int .i64 ty] w fun e w' => e = .returned (.tuple #[.int .i64 m, .bool nb]) ∧ w' = w)) (c1 : (s.toList == [113]) = false) (c2 : (s.toList == [101, 116]) = false) (c3 : (s.toList == [99, 118]) = true) (h : ((ty : Int) == 4) = true) : Calls Tryd.prog 61 #[.int .i64 ty, .string s] w fun e w' => e = .returned (.int .i64 2) ∧ w' = w := by
  go_enter Tryd.func61, Tryd.ntmps61
  go_wp2_with fail
  refine HA.out.mono ?_
  rintro e w' ⟨rfl, rfl⟩
  go_wp2_with fail
  go_ret
  exact ⟨rfl, rfl⟩

set_option maxRecDepth 100000 in
set_option maxHeartbeats 3200000 in
theorem fieldK_F (ty m : Nat) (nb : Bool) (s : ByteArray) (w : World) (HA : Hid (Calls Tryd.prog 59 #[.int .i64 ty] w fun e w' => e = .returned (.tuple #[.int .i64 m, .bool nb]) ∧ w' = w)) (c1 : (s.toList == [113]) = false) (c2 : (s.toList == [101, 116]) = false) (c3 : (s.toList == [99, 118]) = true) (h : ((ty : Int) == 4) = false) : Calls Tryd.prog 61 #[.int .i64 ty, .string s] w fun e w' => e = .returned (.int .i64 0) ∧ w' = w := by
  go_enter Tryd.func61, Tryd.ntmps61
  go_wp2_with fail
  refine HA.out.mono ?_
  rintro e w' ⟨rfl, rfl⟩
  go_wp2_with fail
  go_ret
  exact ⟨rfl, rfl⟩

set_option maxRecDepth 100000 in
set_option maxHeartbeats 3200000 in
theorem fieldK_G (ty m : Nat) (nb : Bool) (s : ByteArray) (w : World) (HA : Hid (Calls Tryd.prog 59 #[.int .i64 ty] w fun e w' => e = .returned (.tuple #[.int .i64 m, .bool nb]) ∧ w' = w)) (c1 : (s.toList == [113]) = false) (c2 : (s.toList == [101, 116]) = false) (c3 : (s.toList == [99, 118]) = false) : Calls Tryd.prog 61 #[.int .i64 ty, .string s] w fun e w' => e = .returned (.int .i64 0) ∧ w' = w := by
  go_enter Tryd.func61, Tryd.ntmps61
  go_wp2_with fail
  refine HA.out.mono ?_
  rintro e w' ⟨rfl, rfl⟩
  go_wp2_with fail
  go_ret
  exact ⟨rfl, rfl⟩

theorem fieldK_split (l : List UInt8) : (l == [113]) = true ∧ (l == [101, 116]) = false ∧ (l == [99, 118]) = false ∨ (l == [113]) = false ∧ (l == [101, 116]) = true ∧ (l == [99, 118]) = false ∨ (l == [113]) = false ∧ (l == [101, 116]) = false ∧ (l == [99, 118]) = true ∨ (l == [113]) = false ∧ (l == [101, 116]) = false ∧ (l == [99, 118]) = false := by
  by_cases h1 : l = [113]
  · subst h1; exact .inl ⟨rfl, rfl, rfl⟩
  · by_cases h2 : l = [101, 116]
    · subst h2; exact .inr (.inl ⟨rfl, rfl, rfl⟩)
    · by_cases h3 : l = [99, 118]
      · subst h3; exact .inr (.inr (.inl ⟨rfl, rfl, rfl⟩))
      · exact .inr (.inr (.inr ⟨beq_eq_false_iff_ne.2 h1, beq_eq_false_iff_ne.2 h2, beq_eq_false_iff_ne.2 h3⟩))
theorem fieldK_at (ty : Nat) (s : ByteArray) (w : World) : Calls Tryd.prog 61 #[.int .i64 ty, .string s] w fun e w' => e = .returned (.int .i64 (fieldN ty s.toList : Nat)) ∧ w' = w := by
  have HA := hide (args_kind_at ty w)
  rcases fieldK_split s.toList with ⟨c1, c2, c3⟩ | ⟨c1, c2, c3⟩ | ⟨c1, c2, c3⟩ | ⟨c1, c2, c3⟩
  · by_cases hm : 0 < (argsN ty).1
    · rw [show fieldN ty s.toList = 1 by simp [fieldN, c1, hm]]
      exact fieldK_A ty _ _ s w HA c1 (by omega)
    · rw [show fieldN ty s.toList = 0 by simp [fieldN, c1, c2, c3, hm]]
      exact fieldK_B ty _ _ s w HA c1 (by omega) c2 c3
  · by_cases hm : ty = 3
    · rw [show fieldN ty s.toList = 2 by simp [fieldN, c1, c2, c3, hm]]
      exact fieldK_C ty _ _ s w HA c1 c2 (by simp; omega)
    · rw [show fieldN ty s.toList = 0 by simp [fieldN, c1, c2, c3, hm]]
      exact fieldK_D ty _ _ s w HA c1 c2 (by simp; omega) c3
  · by_cases hm : ty = 4
    · rw [show fieldN ty s.toList = 2 by simp [fieldN, c1, c2, c3, hm]]
      exact fieldK_E ty _ _ s w HA c1 c2 c3 (by simp; omega)
    · rw [show fieldN ty s.toList = 0 by simp [fieldN, c1, c2, c3, hm]]
      exact fieldK_F ty _ _ s w HA c1 c2 c3 (by simp; omega)
  · rw [show fieldN ty s.toList = 0 by simp [fieldN, c1, c2, c3]]
    exact fieldK_G ty _ _ s w HA c1 c2 c3

set_option maxRecDepth 100000 in
set_option maxHeartbeats 3200000 in
theorem throw_at (er : Int) (p : Nat) (w : World) : Calls Tryd.prog 36 #[.int .i64 er, .int .i64 p] w fun e w' => Thrown er p e w' ∧ Below w.heap.size w w' := by
  go_enter Tryd.func36, Tryd.ntmps36
  go_wp2_with fail
  exact ⟨rfl, ⟨w.heap.size, rfl, blk_new w _⟩, below_alloc w _⟩

/-! the map of places -/
def ents : Nat → List De → List MapEntry
  | _, [] => []
  | i, d :: l => ⟨.string d.name, .int .i64 i, i⟩ :: ents (i + 1) l
theorem ents_snoc : ∀ (i : Nat) (l : List De) (d : De), ents i (l ++ [d]) = ents i l ++ [⟨.string d.name, .int .i64 ((i + l.length : Nat) : Int), i + l.length⟩]
  | i, [], d => by simp [ents]
  | i, e :: l, d => by
    simp only [List.cons_append, ents, ents_snoc (i + 1) l d, List.length_cons]
    rw [show i + 1 + l.length = i + (l.length + 1) by omega]
theorem find_ents (s : ByteArray) : ∀ (l : List De) (i j : Nat), Instr.findNow .string (.string s) (ents i l) j = some ((l.findIdx? fun d => d.name.toList == s.toList).map fun k => (j + k, .int .i64 ((i + k : Nat) : Int)))
  | [], i, j => rfl
  | d :: l, i, j => by
    have e : (s == d.name) = (d.name.toList == s.toList) := by
      rw [beq_toListBytes]
      rw [Bool.eq_iff_iff, beq_iff_eq, beq_iff_eq]; exact eq_comm
    simp only [ents, Instr.findNow, Instr.sameNow, e, List.findIdx?_cons]
    cases hc : (d.name.toList == s.toList) with
    | true => simp
    | false =>
      simp only [Bool.false_eq_true, if_false]
      rw [find_ents s l (i + 1) (j + 1)]
      cases l.findIdx? fun d => d.name.toList == s.toList with
      | none => rfl
      | some k => simp; omega
def putObj (W : World) (M : Nat) (o : Obj) : World := { W with heap := W.heap.setIfInBounds M o }
theorem putObj_same {W : World} {M : Nat} {o : Obj} (h : M < W.heap.size) : (putObj W M o).heap[M]? = some o := by simp [putObj, h]
theorem putObj_other {W : World} {M k : Nat} {o : Obj} (h : k ≠ M) : (putObj W M o).heap[k]? = W.heap[k]? := by
  simp only [putObj, Array.getElem?_setIfInBounds]
  rw [if_neg (fun e => h e.symm)]
theorem putObj_below {B : Nat} {W W' : World} (h : Below B W W') {M : Nat} {o : Obj} (hM : B ≤ M) : Below B W (putObj W' M o) :=
  ⟨h.os, h.tape, h.output, by simp [putObj]; exact h.size, fun k hk => (putObj_other (by omega)).trans (h.block k hk)⟩
theorem ins_any {W : World} {M : Nat} {es : Array MapEntry} {c : Nat} (h0 : W.heap[M]? = some (.map es c)) (k : ByteArray) (v : Value) (hf : Instr.findNow .string (.string k) es.toList 0 = some none) :
    (Instr.mapUpdate 92 (.map (some M)) (.string k) v).run Tryd.prog W = .ok () (putObj W M (.map (es.push ⟨.string k, v, c⟩) (c + 1))) := by
  have h1 := key_ok' false k
  have h2 : (getObj M).run Tryd.prog W = .ok (.map es c) W := by simp only [getObj, Sem.run, h0]
  have h3 : ∀ o, (setObj M o).run Tryd.prog W = .ok () (putObj W M o) := fun o => by simp only [setObj, Sem.run, h0, putObj]
  simp [Instr.mapUpdate, go_sem, Instr.findKey, h1, hf, h2, h3]
theorem look_yes {W : World} {M : Nat} {es : Array MapEntry} {c : Nat} (h0 : W.heap[M]? = some (.map es c)) (k : ByteArray) (n : Nat) (v : Value) (hf : Instr.findNow .string (.string k) es.toList 0 = some (some (n, v))) :
    (Instr.lookup 92 (.map (some M)) (.string k) true).run Tryd.prog W = .ok (.tuple #[v, .bool true]) W := by
  have h1 := fun b => key_ok' b k
  have h2 : (getObj M).run Tryd.prog W = .ok (.map es c) W := by simp only [getObj, Sem.run, h0]
  simp [Instr.lookup, go_sem, Instr.findKey, h1, h2, hf]
theorem look_no {W : World} {M : Nat} {es : Array MapEntry} {c : Nat} (h0 : W.heap[M]? = some (.map es c)) (k : ByteArray) (hf : Instr.findNow .string (.string k) es.toList 0 = some none) :
    (Instr.lookup 92 (.map (some M)) (.string k) true).run Tryd.prog W = .ok (.tuple #[.int .i64 0, .bool false]) W := by
  have h1 := fun b => key_ok' b k
  have h2 : (getObj M).run Tryd.prog W = .ok (.map es c) W := by simp only [getObj, Sem.run, h0]
  simp [Instr.lookup, go_sem, Instr.findKey, h1, h2, hf]
end Go.Proofs.YtiimnnancblbkaaDoor
set_option linter.unusedSimpArgs false
set_option linter.unusedVariables false
namespace Go.Proofs.YtiimnnancblbkaaDoor
open Go.RowKit

/-- a look for names -/
def Fd (w : World) (LV : Value) (ds : List De) : Prop := ∃ (P1 P3 M g cap : Nat) (ao : Option Addr) (S : Nat → Prop), LV = .func (.func 37) #[] #[.pointer (some ⟨P3, 0, none⟩), .pointer (some ⟨P1, 0, none⟩)] ∧ w.heap[P3]? = some (.cells #[.map (some M)] 92 (0, 0)) ∧ w.heap[M]? = some (.map (ents 0 ds).toArray ds.length) ∧ w.heap[P1]? = some (.cells #[.slice ao ds.length cap] 24 (0, 0)) ∧ IsDes S w ds (.slice ao ds.length cap)
theorem Fd.below {w w' : World} {LV : Value} {ds : List De} (h : Fd w LV ds) (hb : Below w.heap.size w w') : Fd w' LV ds := by
  obtain ⟨P1, P3, M, g, cap, ao, S, e, h1, h2, h3, h4⟩ := h
  exact ⟨P1, P3, M, g, cap, ao, S, e, Below.blk hb h1, Below.blk hb h2, Below.blk hb h3, IsRow.same h4 fun c _ h => hb.block c h⟩

theorem de_cell {S : Nat → Prop} {w : World} {l : List De} {v : Value} (h : IsDes S w l v) {g cap m : Nat} (hv : v = .slice (some ⟨g, 0, none⟩) m cap) {j : Nat} (hj : j < l.length) {k : Nat} {u : Value} (hk : (deCells l[j])[k]? = some u) (h4 : k < 4) : w.cell? ⟨g, j * 4 + k, none⟩ = some u := by
  have flat4 : ∀ (cs : List De) (i k : Nat) (hi : i < cs.length), k < 4 → (cs.flatMap deCells)[i * 4 + k]? = (deCells cs[i])[k]? := by
    intro cs
    induction cs with
    | nil => intro i k hi; simp at hi
    | cons d cs ih =>
      intro i k hi hk
      have hd : (deCells d).length = 4 := rfl
      rw [List.flatMap_cons]
      cases i with
      | zero => rw [List.getElem?_append_left (by omega)]; simp
      | succ i =>
        rw [show (i + 1) * 4 + k = (deCells d).length + (i * 4 + k) by rw [hd]; omega, List.getElem?_append_right (by omega), Nat.add_sub_cancel_left, ih i k (by simpa using hi) hk]
        simp
  subst hv
  have := h.1.cells (g := g) rfl (j * 4 + k) u (by rw [flat4 l j k hj h4]; exact hk)
  unfold Addr.add at this
  split at this
  · rename_i e; rw [e]; exact this
  · simpa using this
theorem de_addr {S : Nat → Prop} {w : World} {l : List De} {v : Value} (h : IsDes S w l v) (hn : 0 < l.length) : ∃ g cap : Nat, v = .slice (some ⟨g, 0, none⟩) l.length cap ∧ S g := by
  rcases h.1.2 with ⟨rfl, h0⟩ | ⟨g, cap, cur, rfl, _⟩
  · omega
  · exact ⟨g, cap, rfl, h.2 g rfl⟩

theorem dup_step {ds : List De} {j : Nat} (h : j < ds.length) : dupC j (ds.take j) (ds.drop j) = if (ds.take j).any (fun e => e.name.toList == ds[j].name.toList) then some j else dupC (j + 1) (ds.take (j + 1)) (ds.drop (j + 1)) := by
  rw [List.drop_eq_getElem_cons h, dupC, List.take_succ_eq_append_getElem h]
theorem any_idx (l : List De) (s : List UInt8) : (l.any fun e => e.name.toList == s) = true ↔ ∃ k, (l.findIdx? fun e => e.name.toList == s) = some k := by
  constructor
  · intro h
    cases hf : l.findIdx? fun e => e.name.toList == s with
    | some k => exact ⟨k, rfl⟩
    | none =>
      rw [List.findIdx?_eq_none_iff] at hf
      obtain ⟨x, hx, hp⟩ := List.any_eq_true.1 h
      rw [hf x hx] at hp; cases hp
  · rintro ⟨k, hk⟩
    obtain ⟨hlt, hp, _⟩ := List.findIdx?_eq_some_iff_getElem.1 hk
    exact List.any_eq_true.2 ⟨_, List.getElem_mem hlt, hp⟩

/-- what finder comes to -/
def Found (w : World) (ds : List De) (r : Option Nat) (e : Ending) (w' : World) : Prop := Below w.heap.size w w' ∧ match r with | some i => Thrown 9 i e w' | none => ∃ LV, e = .returned LV ∧ Fd w' LV ds

set_option maxRecDepth 100000 in
set_option maxHeartbeats 6400000 in
theorem finder_at (ds : List De) (hl : ds.length ≤ 30) (S : Nat → Prop) (w : World) (v : Value) (hd : IsDes S w ds v) :
    Calls Tryd.prog 20 #[v] w (Found w ds (dupC 0 [] ds)) := by
  obtain ⟨ao, cap, rfl⟩ := hd.val
  have HD := hide hd
  have HB3 : Hid (Below w.heap.size w (((w.alloc (.cells #[.slice ao ds.length cap] 24)).alloc (.map #[] 0)).alloc (.cells #[.map (some (w.heap.size + 1))] 92))) := hide (((below_alloc w _).alloc (by simp) _).alloc (by simp; omega) _)
  have HP1 : Hid ((((w.alloc (.cells #[.slice ao ds.length cap] 24)).alloc (.map #[] 0)).alloc (.cells #[.map (some (w.heap.size + 1))] 92)).heap[w.heap.size]? = some (.cells #[.slice ao ds.length cap] 24 (0, 0))) := hide (Below.blk (below_alloc _ _) (Below.blk (below_alloc _ _) (blk_new w _)))
  have HM : Hid ((((w.alloc (.cells #[.slice ao ds.length cap] 24)).alloc (.map #[] 0)).alloc (.cells #[.map (some (w.heap.size + 1))] 92)).heap[w.heap.size + 1]? = some (.map (ents 0 []).toArray 0)) := hide (Below.blk (below_alloc _ _) (by have h := blk_new (w.alloc (.cells #[.slice ao ds.length cap] 24)) (.map #[] 0); rw [show (w.alloc (.cells #[.slice ao ds.length cap] 24)).heap.size = w.heap.size + 1 by simp] at h; exact h))
  have HP3 : Hid ((((w.alloc (.cells #[.slice ao ds.length cap] 24)).alloc (.map #[] 0)).alloc (.cells #[.map (some (w.heap.size + 1))] 92)).heap[w.heap.size + 1 + 1]? = some (.cells #[.map (some (w.heap.size + 1))] 92 (0, 0))) := hide (by
    have h := blk_new ((w.alloc (.cells #[.slice ao ds.length cap] 24)).alloc (.map #[] 0)) (.cells #[.map (some (w.heap.size + 1))] 92)
    have e : ((w.alloc (.cells #[.slice ao ds.length cap] 24)).alloc (.map #[] 0)).heap.size = w.heap.size + 1 + 1 := by simp
    rw [e] at h
    exact h)
  have hmm := @run_makeMap Tryd.prog
  clear hd
  go_enter Tryd.func20, Tryd.ntmps20
  go_wp2_with fail
  generalize (((w.alloc (.cells #[.slice ao ds.length cap] 24)).alloc (.map #[] 0)).alloc (.cells #[.map (some (w.heap.size + 1))] 92)) = w0 at *
  generalize hM : w.heap.size + 1 = M at *
  have HWM : Hid (w.heap.size < M) := hide (by omega)
  clear hM hmm
  go_loopw [5, 11] (fun _ i wr => ∃ j : Nat, j ≤ ds.length ∧ i = .int .i64 j ∧ Hid (Below w.heap.size w wr) ∧ Hid (dupC 0 [] ds = dupC j (ds.take j) (ds.drop j)) ∧ Hid (wr.heap[w.heap.size]? = some (.cells #[.slice ao ds.length cap] 24 (0, 0))) ∧ Hid (wr.heap[M]? = some (.map (ents 0 (ds.take j)).toArray j)) ∧ Hid (wr.heap[M + 1]? = some (.cells #[.map (some M)] 92 (0, 0)))) (fun _ i _ => ds.length - (intOf i).toNat)
  case atStart => exact ⟨0, Nat.zero_le _, rfl, HB3, hide (by simp), HP1, HM, HP3⟩
  case round =>
    obtain ⟨j, hj, rfl, hb, hdup, hp1, hm, hp3⟩ := hrel
    by_cases hlt : j < ds.length
    · have hji : (j : Int) < (ds.length : Int) := by omega
      obtain ⟨g, cap', hv, hSg⟩ := de_addr HD.out (by omega)
      obtain ⟨rfl, rfl⟩ : ao = some ⟨g, 0, none⟩ ∧ cap = cap' := by cases hv; exact ⟨rfl, rfl⟩
      have HDW : Hid (IsDes S wr ds (.slice (some ⟨g, 0, none⟩) ds.length cap)) := hide (IsRow.same HD.out fun c h1 h2 => hb.out.block c h2)
      have r0 : wr.cell? ⟨g, j * 4, none⟩ = some (.string ds[j].name) := de_cell HDW.out rfl hlt (k := 0) rfl (by decide)
      have r1 : wr.cell? ⟨g, j * 4 + 1, none⟩ = some (.int .i64 ds[j].way) := de_cell HDW.out rfl hlt (k := 1) rfl (by decide)
      have r2 : wr.cell? ⟨g, j * 4 + 2, none⟩ = some (.int .i64 ds[j].ty) := de_cell HDW.out rfl hlt (k := 2) rfl (by decide)
      have r3 : wr.cell? ⟨g, j * 4 + 3, none⟩ = some (.int .i64 ds[j].init) := de_cell HDW.out rfl hlt (k := 3) rfl (by decide)
      have HST := hide (dup_step hlt)
      have HTK := hide (List.take_succ_eq_append_getElem hlt)
      generalize ds[j] = d at *
      obtain ⟨nm, way, ty, init⟩ := d
      simp only at r0 r1 r2 r3
      have HO := hide (below_alloc wr (.cells #[.string nm, .int .i64 way, .int .i64 ty, .int .i64 init] 32))
      have HN := hide (blk_new wr (.cells #[.string nm, .int .i64 way, .int .i64 ty, .int .i64 init] 32))
      have HM1 := hide (Below.blk HO.out hm.out)
      have HP31 := hide (Below.blk HO.out hp3.out)
      have HP11 := hide (Below.blk HO.out hp1.out)
      have HLE : Hid ((ds.take j).length = j) := hide (by simp; omega)
      have HFE := hide (find_ents nm (ds.take j) 0 0)
      have HBO := hide (Below.step hb.out HO.out)
      have c3 : (wr.alloc (.cells #[.string nm, .int .i64 way, .int .i64 ty, .int .i64 init] 32)).cell? ⟨M + 1, 0, none⟩ = some (.map (some M)) := by rw [blk_cell HP31.out]; rfl
      clear hv
      cases hf : (ds.take j).findIdx? fun e => e.name.toList == nm.toList with
      | some k =>
        have HF : Hid (Instr.findNow .string (.string nm) (ents 0 (ds.take j)).toArray.toList 0 = some (some (0 + k, .int .i64 ((0 + k : Nat) : Int)))) := hide (by have := HFE.out; rw [hf] at this; exact this)
        have hlk := look_yes HM1.out nm _ _ HF.out
        have HDU : Hid (dupC 0 [] ds = some j) := hide (by rw [hdup.out, HST.out, if_pos ((any_idx _ _).2 ⟨k, hf⟩)])
        clear hf
        rw [HDU.out]
        go_wp2_with fail
        refine (throw_at 9 j _).mono ?_
        rintro e w4 ⟨⟨A, rfl, hA⟩, hb4⟩
        have HA := hide hA
        have HB4 := hide (Below.step HBO.out hb4)
        clear hA hb4
        go_wp2_with fail
        exact ⟨rfl, HB4.out, A, rfl, HA.out⟩
      | none =>
        have HF : Hid (Instr.findNow .string (.string nm) (ents 0 (ds.take j)).toArray.toList 0 = some none) := hide (by have := HFE.out; rw [hf] at this; exact this)
        have hlk := look_no HM1.out nm HF.out
        have hin := ins_any HM1.out nm (.int .i64 j) HF.out
        have HNA : Hid (¬ ((ds.take j).any fun e => e.name.toList == nm.toList) = true) := hide (fun h => by obtain ⟨k, hk⟩ := (any_idx _ _).1 h; rw [hf] at hk; cases hk)
        have HML := hide (blk_lt HM1.out)
        clear hf
        have c0 : (wr.alloc (.cells #[.string nm, .int .i64 way, .int .i64 ty, .int .i64 init] 32)).cell? ⟨wr.heap.size, 0, none⟩ = some (.string nm) := by rw [blk_cell HN.out]; rfl
        go_wp2_with fail
        refine ⟨⟨j + 1, by omega, by go_num, hide (putObj_below HBO.out (Nat.le_of_lt HWM.out)), hide (by rw [hdup.out, HST.out, if_neg HNA.out]), hide ((putObj_other (by have := HWM.out; omega)).trans HP11.out), hide ?_, hide ((putObj_other (by omega)).trans HP31.out)⟩, by simp [intOf]; omega⟩
        rw [putObj_same HML.out, HTK.out, ents_snoc, HLE.out]
        simp
    · have HJ : Hid (j = ds.length) := (by omega : j = ds.length)
      have HDU : Hid (dupC 0 [] ds = none) := hide (by rw [hdup.out, HJ.out, List.drop_length, dupC])
      go_wp2_with fail
      go_ret
      show Found w ds (dupC 0 [] ds) _ _
      rw [HDU.out]
      refine ⟨hb.out, _, rfl, w.heap.size, M + 1, M, 0, cap, ao, S, rfl, hp3.out, ?_, hp1.out, IsRow.same HD.out fun c h1 h2 => hb.out.block c h2⟩
      have := hm.out
      rw [HJ.out, List.take_length] at this
      exact this
end Go.Proofs.YtiimnnancblbkaaDoor
