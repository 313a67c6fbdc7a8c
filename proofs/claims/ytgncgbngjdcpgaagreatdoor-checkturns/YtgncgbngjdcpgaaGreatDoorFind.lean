/-
  CONTRACTS of Field, throw, finder and what it makes: names are looked for.
-/
import Derived.Test.YtgncgbngjdcpgaaGreatDoorChk
import Derived.Test.YtgncgbngjdcpgaaGreatDoorBlocks
import Derived.Test.YtgncgbngjdcpgaaGreatDoorDecls
set_option linter.unusedSimpArgs false
set_option linter.unusedVariables false
namespace Go.Proofs.YtgncgbngjdcpgaaGreatDoor
open Go.RowKit

set_option maxRecDepth 100000 in
set_option maxHeartbeats 3200000 in
theorem fieldK_A (ty m : Nat) (nb : Bool) (s : ByteArray) (w : World) (HA : Hid (Calls Tryz.prog 22 #[.int .i64 ty] w fun e w' => e = .returned (.tuple #[.int .i64 m, .bool nb]) ∧ w' = w)) (c1 : (s.toList == [113]) = true) (h : (0 : Int) < (m : Int)) : Calls Tryz.prog 20 #[.int .i64 ty, .string s] w fun e w' => e = .returned (.int .i64 1) ∧ w' = w := by
  go_enter Tryz.func20, Tryz.ntmps20
  go_wp2_with fail
  refine HA.out.mono ?_
  rintro e w' ⟨rfl, rfl⟩
  go_wp2_with fail
  go_ret
  exact ⟨rfl, rfl⟩

set_option maxRecDepth 100000 in
set_option maxHeartbeats 3200000 in
theorem fieldK_B (ty m : Nat) (nb : Bool) (s : ByteArray) (w : World) (HA : Hid (Calls Tryz.prog 22 #[.int .i64 ty] w fun e w' => e = .returned (.tuple #[.int .i64 m, .bool nb]) ∧ w' = w)) (c1 : (s.toList == [113]) = true) (h : (m : Int) ≤ 0) (c2 : (s.toList == [101, 116]) = false) (c3 : (s.toList == [99, 118]) = false) : Calls Tryz.prog 20 #[.int .i64 ty, .string s] w fun e w' => e = .returned (.int .i64 0) ∧ w' = w := by
  go_enter Tryz.func20, Tryz.ntmps20
  go_wp2_with fail
  refine HA.out.mono ?_
  rintro e w' ⟨rfl, rfl⟩
  go_wp2_with fail
  go_ret
  exact ⟨rfl, rfl⟩

set_option maxRecDepth 100000 in
set_option maxHeartbeats 3200000 in
theorem fieldK_C (ty m : Nat) (nb : Bool) (s : ByteArray) (w : World) (HA : Hid (Calls Tryz.prog 22 #[.int .i64 ty] w fun e w' => e = .returned (.tuple #[.int .i64 m, .bool nb]) ∧ w' = w)) (c1 : (s.toList == [113]) = false) (c2 : (s.toList == [101, 116]) = true) (h : ((ty : Int) == 3) = true) : Calls Tryz.prog 20 #[.int .i64 ty, .string s] w fun e w' => e = .returned (.int .i64 2) ∧ w' = w := by
  go_enter Tryz.func20, Tryz.ntmps20
  go_wp2_with fail
  refine HA.out.mono ?_
  rintro e w' ⟨rfl, rfl⟩
  go_wp2_with fail
  go_ret
  exact ⟨rfl, rfl⟩

set_option maxRecDepth 100000 in
set_option maxHeartbeats 3200000 in
theorem fieldK_D (ty m : Nat) (nb : Bool) (s : ByteArray) (w : World) (HA : Hid (Calls Tryz.prog 22 #[.int .i64 ty] w fun e w' => e = .returned (.tuple #[.int .i64 m, .bool nb]) ∧ w' = w)) (c1 : (s.toList == [113]) = false) (c2 : (s.toList == [101, 116]) = true) (h : ((ty : Int) == 3) = false) (c3 : (s.toList == [99, 118]) = false) : Calls Tryz.prog 20 #[.int .i64 ty, .string s] w fun e w' => e = .returned (.int .i64 0) ∧ w' = w := by
  go_enter Tryz.func20, Tryz.ntmps20
  go_wp2_with fail
  refine HA.out.mono ?_
  rintro e w' ⟨rfl, rfl⟩
  go_wp2_with fail
  go_ret
  exact ⟨rfl, rfl⟩

set_option maxRecDepth 100000 in
set_option maxHeartbeats 3200000 in
theorem fieldK_E (ty m : Nat) (nb : Bool) (s : ByteArray) (w : World) (HA : Hid (Calls Tryz.prog 22 #[.int .i64 ty] w fun e w' => e = .returned (.tuple #[.int .i64 m, .bool nb]) ∧ w' = w)) (c1 : (s.toList == [113]) = false) (c2 : (s.toList == [101, 116]) = false) (c3 : (s.toList == [99, 118]) = true) (h : ((ty : Int) == 4) = true) : Calls Tryz.prog 20 #[.int .i64 ty, .string s] w fun e w' => e = .returned (.int .i64 2) ∧ w' = w := by
  go_enter Tryz.func20, Tryz.ntmps20
  go_wp2_with fail
  refine HA.out.mono ?_
  rintro e w' ⟨rfl, rfl⟩
  go_wp2_with fail
  go_ret
  exact ⟨rfl, rfl⟩

set_option maxRecDepth 100000 in
set_option maxHeartbeats 3200000 in
theorem fieldK_F (ty m : Nat) (nb : Bool) (s : ByteArray) (w : World) (HA : Hid (Calls Tryz.prog 22 #[.int .i64 ty] w fun e w' => e = .returned (.tuple #[.int .i64 m, .bool nb]) ∧ w' = w)) (c1 : (s.toList == [113]) = false) (c2 : (s.toList == [101, 116]) = false) (c3 : (s.toList == [99, 118]) = true) (h : ((ty : Int) == 4) = false) : Calls Tryz.prog 20 #[.int .i64 ty, .string s] w fun e w' => e = .returned (.int .i64 0) ∧ w' = w := by
  go_enter Tryz.func20, Tryz.ntmps20
  go_wp2_with fail
  refine HA.out.mono ?_
  rintro e w' ⟨rfl, rfl⟩
  go_wp2_with fail
  go_ret
  exact ⟨rfl, rfl⟩

set_option maxRecDepth 100000 in
set_option maxHeartbeats 3200000 in
theorem fieldK_G (ty m : Nat) (nb : Bool) (s : ByteArray) (w : World) (HA : Hid (Calls Tryz.prog 22 #[.int .i64 ty] w fun e w' => e = .returned (.tuple #[.int .i64 m, .bool nb]) ∧ w' = w)) (c1 : (s.toList == [113]) = false) (c2 : (s.toList == [101, 116]) = false) (c3 : (s.toList == [99, 118]) = false) : Calls Tryz.prog 20 #[.int .i64 ty, .string s] w fun e w' => e = .returned (.int .i64 0) ∧ w' = w := by
  go_enter Tryz.func20, Tryz.ntmps20
  go_wp2_with fail
  refine HA.out.mono ?_
  rintro e w' ⟨rfl, rfl⟩
  go_wp2_with fail
  go_ret
  exact ⟨rfl, rfl⟩

theorem fieldK_split (l : List UInt8) : (l == [113]) = true ∧ (l == [101, 116]) = false ∧ (l == [99, 118]) = false ∨ (l == [113]) = false ∧ (l == [101, 116]) = true ∧ (l == [99, 118]) = false ∨ (l == [113]) = false ∧ (l == [101, 116]) = false ∧ (l == [99, 118]) = true ∨ (l == [113]) = false ∧ (l == [101, 116]) = false ∧ (l == [99, 118]) = false := by
  by_cases h1 : l = [113]
  · subst h1; exact .inl ⟨rfl, rfl, rfl⟩
  · by_cases h2 : l = [101, 116]
    · subst h2; exact .inr (.inl ⟨rfl, rfl, rfl⟩)
    · by_cases h3 : l = [99, 118]
      · subst h3; exact .inr (.inr (.inl ⟨rfl, rfl, rfl⟩))
      · exact .inr (.inr (.inr ⟨beq_eq_false_iff_ne.2 h1, beq_eq_false_iff_ne.2 h2, beq_eq_false_iff_ne.2 h3⟩))
theorem fieldK_at (ty : Nat) (s : ByteArray) (w : World) : Calls Tryz.prog 20 #[.int .i64 ty, .string s] w fun e w' => e = .returned (.int .i64 (fieldN ty s.toList : Nat)) ∧ w' = w := by
  have HA := hide (args_kind_at ty w)
  rcases fieldK_split s.toList with ⟨c1, c2, c3⟩ | ⟨c1, c2, c3⟩ | ⟨c1, c2, c3⟩ | ⟨c1, c2, c3⟩
  · by_cases hm : 0 < (argsN ty).1
    · rw [show fieldN ty s.toList = 1 by simp [fieldN, c1, hm]]
      exact fieldK_A ty _ _ s w HA c1 (by omega)
    · rw [show fieldN ty s.toList = 0 by simp [fieldN, c1, c2, c3, hm]]
      exact fieldK_B ty _ _ s w HA c1 (by omega) c2 c3
  · by_cases hm : ty = 3
    · rw [show fieldN ty s.toList = 2 by simp [fieldN, c1, c2, c3, hm]]
      exact fieldK_C ty _ _ s w HA c1 c2 (by simp; omega)
    · rw [show fieldN ty s.toList = 0 by simp [fieldN, c1, c2, c3, hm]]
      exact fieldK_D ty _ _ s w HA c1 c2 (by simp; omega) c3
  · by_cases hm : ty = 4
    · rw [show fieldN ty s.toList = 2 by simp [fieldN, c1, c2, c3, hm]]
      exact fieldK_E ty _ _ s w HA c1 c2 c3 (by simp; omega)
    · rw [show fieldN ty s.toList = 0 by simp [fieldN, c1, c2, c3, hm]]
      exact fieldK_F ty _ _ s w HA c1 c2 c3 (by simp; omega)
  · rw [show fieldN ty s.toList = 0 by simp [fieldN, c1, c2, c3]]
    exact fieldK_G ty _ _ s w HA c1 c2 c3

set_option maxRecDepth 100000 in
set_option maxHeartbeats 3200000 in
theorem throw_at (er : Int) (p : Nat) (w : World) : Calls Tryz.prog 101 #[.int .i64 er, .int .i64 p] w fun e w' => Thrown er p e w' ∧ Below w.heap.size w w' := by
  go_enter Tryz.func101, Tryz.ntmps101
  go_wp2_with fail
  exact ⟨rfl, ⟨w.heap.size, rfl, blk_new w _⟩, below_alloc w _⟩

/-! the map of places -/
def ents : Nat → List De → List MapEntry
  | _, [] => []
  | i, d :: l => ⟨.string d.name, .int .i64 i, i⟩ :: ents (i + 1) l
theorem ents_snoc : ∀ (i : Nat) (l : List De) (d : De), ents i (l ++ [d]) = ents i l ++ [⟨.string d.name, .int .i64 ((i + l.length : Nat) : Int), i + l.length⟩]
  | i, [], d => by simp [ents]
  | i, e :: l, d => by
    simp only [List.cons_append, ents, ents_snoc (i + 1) l d, List.length_cons]
    rw [show i + 1 + l.length = i + (l.length + 1) by omega]
theorem find_ents (s : ByteArray) : ∀ (l : List De) (i j : Nat), Instr.findNow .string (.string s) (ents i l) j = some ((l.findIdx? fun d => d.name.toList == s.toList).map fun k => (j + k, .int .i64 ((i + k : Nat) : Int)))
  | [], i, j => rfl
  | d :: l, i, j => by
    have e : (s == d.name) = (d.name.toList == s.toList) := by
      rw [beq_toListBytes]
      rw [Bool.eq_iff_iff, beq_iff_eq, beq_iff_eq]; exact eq_comm
    simp only [ents, Instr.findNow, Instr.sameNow, e, List.findIdx?_cons]
    cases hc : (d.name.toList == s.toList) with
    | true => simp
    | false =>
      simp only [Bool.false_eq_true, if_false]
      rw [find_ents s l (i + 1) (j + 1)]
      cases l.findIdx? fun d => d.name.toList == s.toList with
      | none => rfl
      | some k => simp; omega
def putObj (W : World) (M : Nat) (o : Obj) : World := { W with heap := W.heap.setIfInBounds M o }
theorem putObj_same {W : World} {M : Nat} {o : Obj} (h : M < W.heap.size) : (putObj W M o).heap[M]? = some o := by simp [putObj, h]
theorem putObj_other {W : World} {M k : Nat} {o : Obj} (h : k ≠ M) : (putObj W M o).heap[k]? = W.heap[k]? := by
  simp only [putObj, Array.getElem?_setIfInBounds]
  rw [if_neg (fun e => h e.symm)]
theorem putObj_below {B : Nat} {W W' : World} (h : Below B W W') {M : Nat} {o : Obj} (hM : B ≤ M) : Below B W (putObj W' M o) :=
  ⟨h.os, h.tape, h.output, by simp [putObj]; exact h.size, fun k hk => (putObj_other (by omega)).trans (h.block k hk)⟩
theorem ins_any {W : World} {M : Nat} {es : Array MapEntry} {c : Nat} (h0 : W.heap[M]? = some (.map es c)) (k : ByteArray) (v : Value) (hf : Instr.findNow .string (.string k) es.toList 0 = some none) :
    (Instr.mapUpdate 132 (.map (some M)) (.string k) v).run Tryz.prog W = .ok () (putObj W M (.map (es.push ⟨.string k, v, c⟩) (c + 1))) := by
  have h1 := key_ok' false k
  have h2 : (getObj M).run Tryz.prog W = .ok (.map es c) W := by simp only [getObj, Sem.run, h0]
  have h3 : ∀ o, (setObj M o).run Tryz.prog W = .ok () (putObj W M o) := fun o => by simp only [setObj, Sem.run, h0, putObj]
  simp [Instr.mapUpdate, go_sem, Instr.findKey, h1, hf, h2, h3]
theorem look_yes {W : World} {M : Nat} {es : Array MapEntry} {c : Nat} (h0 : W.heap[M]? = some (.map es c)) (k : ByteArray) (n : Nat) (v : Value) (hf : Instr.findNow .string (.string k) es.toList 0 = some (some (n, v))) :
    (Instr.lookup 132 (.map (some M)) (.string k) true).run Tryz.prog W = .ok (.tuple #[v, .bool true]) W := by
  have h1 := fun b => key_ok' b k
  have h2 : (getObj M).run Tryz.prog W = .ok (.map es c) W := by simp only [getObj, Sem.run, h0]
  simp [Instr.lookup, go_sem, Instr.findKey, h1, h2, hf]
theorem look_no {W : World} {M : Nat} {es : Array MapEntry} {c : Nat} (h0 : W.heap[M]? = some (.map es c)) (k : ByteArray) (hf : Instr.findNow .string (.string k) es.toList 0 = some none) :
    (Instr.lookup 132 (.map (some M)) (.string k) true).run Tryz.prog W = .ok (.tuple #[.int .i64 0, .bool false]) W := by
  have h1 := fun b => key_ok' b k
  have h2 : (getObj M).run Tryz.prog W = .ok (.map es c) W := by simp only [getObj, Sem.run, h0]
  simp [Instr.lookup, go_sem, Instr.findKey, h1, h2, hf]
end Go.Proofs.YtgncgbngjdcpgaaGreatDoor
