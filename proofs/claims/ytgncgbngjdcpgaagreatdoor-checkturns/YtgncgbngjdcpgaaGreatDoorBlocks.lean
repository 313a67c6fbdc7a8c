/-
  CONTRACT of blocks, and what is found in the map that it makes.
-/
import Derived.MapKept
import Derived.Carry
import Derived.Laws.StructEq
import Derived.Test.YtgncgbngjdcpgaaGreatDoorWords
namespace Go.Proofs.YtgncgbngjdcpgaaGreatDoor
open Go.RowKit
/-! the map of blocks -/
theorem key_ok (b : Bool) (n : Nat) (k : ByteArray) (w : World) : (Instr.checkKey b (n + 1) 9 (.string k)).run Tryz.prog w = .ok () w := by
  unfold Instr.checkKey
  simp [go_sem]
theorem key_ok' (b : Bool) (k : ByteArray) (w : World) : (Instr.checkKey b 10000 9 (.string k)).run Tryz.prog w = .ok () w := key_ok b 9999 k w
theorem set_last (h : Array Obj) (a b : Obj) : (h.push a).setIfInBounds h.size b = h.push b := by
  apply Array.ext
  · simp
  · intro i h1 h2
    simp only [Array.size_setIfInBounds, Array.size_push] at h1
    rw [Array.getElem_setIfInBounds (by simpa using h1)]
    by_cases hi : h.size = i
    · subst hi; simp
    · have hl : i < h.size := by omega
      rw [if_neg hi, Array.getElem_push, Array.getElem_push, dif_pos hl, dif_pos hl]
theorem ins_at (W : World) (es : Array MapEntry) (c : Nat) (k : ByteArray) (v : Value) (hf : Instr.findNow .string (.string k) es.toList 0 = some none) :
    (Instr.mapUpdate 132 (.map (some W.heap.size)) (.string k) v).run Tryz.prog (W.alloc (.map es c)).drew = .ok () (W.alloc (.map (es.push ⟨.string k, v, c⟩) (c + 1))).drew := by
  have h0 : (W.alloc (.map es c)).drew.heap[W.heap.size]? = some (.map es c) := blk_new W _
  have h1 := key_ok' false k
  have h2 : (getObj W.heap.size).run Tryz.prog (W.alloc (.map es c)).drew = .ok (.map es c) (W.alloc (.map es c)).drew := by simp only [getObj, Sem.run, h0]
  have h3 : ∀ o, (setObj W.heap.size o).run Tryz.prog (W.alloc (.map es c)).drew = .ok () { (W.alloc (.map es c)).drew with heap := (W.alloc (.map es c)).drew.heap.setIfInBounds W.heap.size o } := fun o => by simp only [setObj, Sem.run, h0]
  simp [Instr.mapUpdate, go_sem, Instr.findKey, h1, hf, h2, h3]
  show _ = World.drew _
  unfold World.drew World.alloc
  simp only [set_last]
/-- a map in which the blocks are found, and nothing else -/
def IsBlk (es : Array MapEntry) : Prop := ∀ s : ByteArray, (match Instr.findNow .string (.string s) es.toList 0 with | some (some x) => some x.2 | some none => some (.int .i64 0) | none => none) = some (Value.int .i64 (blkN s.toList))

theorem blk_cases (s : ByteArray) : (s.toList == [116, 105, 109, 101, 114]) = true ∧ (s.toList == [99, 111, 117, 110, 116, 101, 114]) = false ∧ (s.toList == [101, 100, 103, 101]) = false ∨ (s.toList == [116, 105, 109, 101, 114]) = false ∧ (s.toList == [99, 111, 117, 110, 116, 101, 114]) = true ∧ (s.toList == [101, 100, 103, 101]) = false ∨ (s.toList == [116, 105, 109, 101, 114]) = false ∧ (s.toList == [99, 111, 117, 110, 116, 101, 114]) = false ∧ (s.toList == [101, 100, 103, 101]) = true ∨ (s.toList == [116, 105, 109, 101, 114]) = false ∧ (s.toList == [99, 111, 117, 110, 116, 101, 114]) = false ∧ (s.toList == [101, 100, 103, 101]) = false := by
  cases c1 : (s.toList == [116, 105, 109, 101, 114]) with
  | true => rw [beq_iff_eq] at c1; rw [c1]; exact .inl ⟨rfl, rfl, rfl⟩
  | false =>
    cases c2 : (s.toList == [99, 111, 117, 110, 116, 101, 114]) with
    | true => rw [beq_iff_eq] at c2; rw [c2]; exact .inr (.inl ⟨rfl, rfl, rfl⟩)
    | false =>
      cases c3 : (s.toList == [101, 100, 103, 101]) with
      | true => exact .inr (.inr (.inl ⟨rfl, rfl, rfl⟩))
      | false => exact .inr (.inr (.inr ⟨rfl, rfl, rfl⟩))
theorem beq_lit (s : ByteArray) (l : List UInt8) : (s == ⟨l.toArray⟩) = (s.toList == l) := by
  rw [beq_toListBytes]; congr 1; rw [ByteArray.toList_eq]
theorem blk_tce : IsBlk #[⟨.string ⟨#[116, 105, 109, 101, 114]⟩, .int .i64 3, 0⟩, ⟨.string ⟨#[99, 111, 117, 110, 116, 101, 114]⟩, .int .i64 4, 1⟩, ⟨.string ⟨#[101, 100, 103, 101]⟩, .int .i64 5, 2⟩] := by
  intro s
  have e1 := beq_lit s [116, 105, 109, 101, 114]
  have e2 := beq_lit s [99, 111, 117, 110, 116, 101, 114]
  have e3 := beq_lit s [101, 100, 103, 101]
  rcases blk_cases s with ⟨c1, c2, c3⟩ | ⟨c1, c2, c3⟩ | ⟨c1, c2, c3⟩ | ⟨c1, c2, c3⟩ <;> rw [c1] at e1 <;> rw [c2] at e2 <;> rw [c3] at e3 <;> simp [Instr.findNow, Instr.sameNow, e1, e2, e3, blkN, c1, c2, c3]
theorem blk_tec : IsBlk #[⟨.string ⟨#[116, 105, 109, 101, 114]⟩, .int .i64 3, 0⟩, ⟨.string ⟨#[101, 100, 103, 101]⟩, .int .i64 5, 1⟩, ⟨.string ⟨#[99, 111, 117, 110, 116, 101, 114]⟩, .int .i64 4, 2⟩] := by
  intro s
  have e1 := beq_lit s [116, 105, 109, 101, 114]
  have e2 := beq_lit s [99, 111, 117, 110, 116, 101, 114]
  have e3 := beq_lit s [101, 100, 103, 101]
  rcases blk_cases s with ⟨c1, c2, c3⟩ | ⟨c1, c2, c3⟩ | ⟨c1, c2, c3⟩ | ⟨c1, c2, c3⟩ <;> rw [c1] at e1 <;> rw [c2] at e2 <;> rw [c3] at e3 <;> simp [Instr.findNow, Instr.sameNow, e1, e2, e3, blkN, c1, c2, c3]
theorem blk_cte : IsBlk #[⟨.string ⟨#[99, 111, 117, 110, 116, 101, 114]⟩, .int .i64 4, 0⟩, ⟨.string ⟨#[116, 105, 109, 101, 114]⟩, .int .i64 3, 1⟩, ⟨.string ⟨#[101, 100, 103, 101]⟩, .int .i64 5, 2⟩] := by
  intro s
  have e1 := beq_lit s [116, 105, 109, 101, 114]
  have e2 := beq_lit s [99, 111, 117, 110, 116, 101, 114]
  have e3 := beq_lit s [101, 100, 103, 101]
  rcases blk_cases s with ⟨c1, c2, c3⟩ | ⟨c1, c2, c3⟩ | ⟨c1, c2, c3⟩ | ⟨c1, c2, c3⟩ <;> rw [c1] at e1 <;> rw [c2] at e2 <;> rw [c3] at e3 <;> simp [Instr.findNow, Instr.sameNow, e1, e2, e3, blkN, c1, c2, c3]
theorem blk_cet : IsBlk #[⟨.string ⟨#[99, 111, 117, 110, 116, 101, 114]⟩, .int .i64 4, 0⟩, ⟨.string ⟨#[101, 100, 103, 101]⟩, .int .i64 5, 1⟩, ⟨.string ⟨#[116, 105, 109, 101, 114]⟩, .int .i64 3, 2⟩] := by
  intro s
  have e1 := beq_lit s [116, 105, 109, 101, 114]
  have e2 := beq_lit s [99, 111, 117, 110, 116, 101, 114]
  have e3 := beq_lit s [101, 100, 103, 101]
  rcases blk_cases s with ⟨c1, c2, c3⟩ | ⟨c1, c2, c3⟩ | ⟨c1, c2, c3⟩ | ⟨c1, c2, c3⟩ <;> rw [c1] at e1 <;> rw [c2] at e2 <;> rw [c3] at e3 <;> simp [Instr.findNow, Instr.sameNow, e1, e2, e3, blkN, c1, c2, c3]
theorem blk_etc : IsBlk #[⟨.string ⟨#[101, 100, 103, 101]⟩, .int .i64 5, 0⟩, ⟨.string ⟨#[116, 105, 109, 101, 114]⟩, .int .i64 3, 1⟩, ⟨.string ⟨#[99, 111, 117, 110, 116, 101, 114]⟩, .int .i64 4, 2⟩] := by
  intro s
  have e1 := beq_lit s [116, 105, 109, 101, 114]
  have e2 := beq_lit s [99, 111, 117, 110, 116, 101, 114]
  have e3 := beq_lit s [101, 100, 103, 101]
  rcases blk_cases s with ⟨c1, c2, c3⟩ | ⟨c1, c2, c3⟩ | ⟨c1, c2, c3⟩ | ⟨c1, c2, c3⟩ <;> rw [c1] at e1 <;> rw [c2] at e2 <;> rw [c3] at e3 <;> simp [Instr.findNow, Instr.sameNow, e1, e2, e3, blkN, c1, c2, c3]
theorem blk_ect : IsBlk #[⟨.string ⟨#[101, 100, 103, 101]⟩, .int .i64 5, 0⟩, ⟨.string ⟨#[99, 111, 117, 110, 116, 101, 114]⟩, .int .i64 4, 1⟩, ⟨.string ⟨#[116, 105, 109, 101, 114]⟩, .int .i64 3, 2⟩] := by
  intro s
  have e1 := beq_lit s [116, 105, 109, 101, 114]
  have e2 := beq_lit s [99, 111, 117, 110, 116, 101, 114]
  have e3 := beq_lit s [101, 100, 103, 101]
  rcases blk_cases s with ⟨c1, c2, c3⟩ | ⟨c1, c2, c3⟩ | ⟨c1, c2, c3⟩ | ⟨c1, c2, c3⟩ <;> rw [c1] at e1 <;> rw [c2] at e2 <;> rw [c3] at e3 <;> simp [Instr.findNow, Instr.sameNow, e1, e2, e3, blkN, c1, c2, c3]
theorem found (M : Nat) (w : World) (s : ByteArray) (es : Array MapEntry) (c : Nat) (h : w.heap[M]? = some (.map es c)) (hb : IsBlk es) : (Instr.lookup 132 (.map (some M)) (.string s) false).run Tryz.prog w = .ok (.int .i64 (blkN s.toList)) w := by
  have h1 := fun b => key_ok' b s
  have h2 : (getObj M).run Tryz.prog w = .ok (.map es c) w := by simp only [getObj, Sem.run, h]
  have hs := hb s
  cases hr : Instr.findNow .string (.string s) es.toList 0 with
  | none => rw [hr] at hs; cases hs
  | some r =>
    rw [hr] at hs
    cases r with
    | none => simp [Instr.lookup, go_sem, Instr.findKey, h1, h2, hr]; simpa using hs
    | some x => simp [Instr.lookup, go_sem, Instr.findKey, h1, h2, hr]; simpa using hs

set_option maxRecDepth 100000 in
set_option maxHeartbeats 3200000 in
theorem blocks_at (w : World) (hv : Vars w) :
    Calls Tryz.prog 98 #[] w fun e w' => ∃ (M : Nat) (es : Array MapEntry) (c : Nat), e = .returned (.map (some M)) ∧ w'.heap[M]? = some (.map es c) ∧ IsBlk es ∧ Below w.heap.size w w' := by
  have c3 : ∀ o, (w.alloc o).cell? ⟨4, 3, none⟩ = some (.string ⟨#[116, 105, 109, 101, 114]⟩) := fun o => cell_alloc (by rw [blk_cell hv.types]; rfl) o
  have c4 : ∀ o, (w.alloc o).cell? ⟨4, 4, none⟩ = some (.string ⟨#[99, 111, 117, 110, 116, 101, 114]⟩) := fun o => cell_alloc (by rw [blk_cell hv.types]; rfl) o
  have c5 : ∀ o, (w.alloc o).cell? ⟨4, 5, none⟩ = some (.string ⟨#[101, 100, 103, 101]⟩) := fun o => cell_alloc (by rw [blk_cell hv.types]; rfl) o
  have d3 : w.cell? ⟨4, 3, none⟩ = some (.string ⟨#[116, 105, 109, 101, 114]⟩) := by rw [blk_cell hv.types]; rfl
  have d4 : w.cell? ⟨4, 4, none⟩ = some (.string ⟨#[99, 111, 117, 110, 116, 101, 114]⟩) := by rw [blk_cell hv.types]; rfl
  have d5 : w.cell? ⟨4, 5, none⟩ = some (.string ⟨#[101, 100, 103, 101]⟩) := by rw [blk_cell hv.types]; rfl
  have hmm := @run_makeMap Tryz.prog
  have i1 : ∀ W : World, (Instr.mapUpdate 132 (.map (some W.heap.size)) (.string ⟨#[116, 105, 109, 101, 114]⟩) (.int .i64 3)).run Tryz.prog (W.alloc (.map #[] 0)).drew = .ok () (W.alloc (.map #[⟨.string ⟨#[116, 105, 109, 101, 114]⟩, .int .i64 3, 0⟩] 1)).drew := fun W => ins_at W _ 0 _ _ rfl
  have i2 : ∀ W : World, (Instr.mapUpdate 132 (.map (some W.heap.size)) (.string ⟨#[99, 111, 117, 110, 116, 101, 114]⟩) (.int .i64 4)).run Tryz.prog (W.alloc (.map #[] 0)).drew = .ok () (W.alloc (.map #[⟨.string ⟨#[99, 111, 117, 110, 116, 101, 114]⟩, .int .i64 4, 0⟩] 1)).drew := fun W => ins_at W _ 0 _ _ rfl
  have i3 : ∀ W : World, (Instr.mapUpdate 132 (.map (some W.heap.size)) (.string ⟨#[101, 100, 103, 101]⟩) (.int .i64 5)).run Tryz.prog (W.alloc (.map #[] 0)).drew = .ok () (W.alloc (.map #[⟨.string ⟨#[101, 100, 103, 101]⟩, .int .i64 5, 0⟩] 1)).drew := fun W => ins_at W _ 0 _ _ rfl
  have i4 : ∀ W : World, (Instr.mapUpdate 132 (.map (some W.heap.size)) (.string ⟨#[99, 111, 117, 110, 116, 101, 114]⟩) (.int .i64 4)).run Tryz.prog (W.alloc (.map #[⟨.string ⟨#[116, 105, 109, 101, 114]⟩, .int .i64 3, 0⟩] 1)).drew = .ok () (W.alloc (.map #[⟨.string ⟨#[116, 105, 109, 101, 114]⟩, .int .i64 3, 0⟩, ⟨.string ⟨#[99, 111, 117, 110, 116, 101, 114]⟩, .int .i64 4, 1⟩] 2)).drew := fun W => ins_at W _ 1 _ _ rfl
  have i5 : ∀ W : World, (Instr.mapUpdate 132 (.map (some W.heap.size)) (.string ⟨#[101, 100, 103, 101]⟩) (.int .i64 5)).run Tryz.prog (W.alloc (.map #[⟨.string ⟨#[116, 105, 109, 101, 114]⟩, .int .i64 3, 0⟩] 1)).drew = .ok () (W.alloc (.map #[⟨.string ⟨#[116, 105, 109, 101, 114]⟩, .int .i64 3, 0⟩, ⟨.string ⟨#[101, 100, 103, 101]⟩, .int .i64 5, 1⟩] 2)).drew := fun W => ins_at W _ 1 _ _ rfl
  have i6 : ∀ W : World, (Instr.mapUpdate 132 (.map (some W.heap.size)) (.string ⟨#[116, 105, 109, 101, 114]⟩) (.int .i64 3)).run Tryz.prog (W.alloc (.map #[⟨.string ⟨#[99, 111, 117, 110, 116, 101, 114]⟩, .int .i64 4, 0⟩] 1)).drew = .ok () (W.alloc (.map #[⟨.string ⟨#[99, 111, 117, 110, 116, 101, 114]⟩, .int .i64 4, 0⟩, ⟨.string ⟨#[116, 105, 109, 101, 114]⟩, .int .i64 3, 1⟩] 2)).drew := fun W => ins_at W _ 1 _ _ rfl
  have i7 : ∀ W : World, (Instr.mapUpdate 132 (.map (some W.heap.size)) (.string ⟨#[101, 100, 103, 101]⟩) (.int .i64 5)).run Tryz.prog (W.alloc (.map #[⟨.string ⟨#[99, 111, 117, 110, 116, 101, 114]⟩, .int .i64 4, 0⟩] 1)).drew = .ok () (W.alloc (.map #[⟨.string ⟨#[99, 111, 117, 110, 116, 101, 114]⟩, .int .i64 4, 0⟩, ⟨.string ⟨#[101, 100, 103, 101]⟩, .int .i64 5, 1⟩] 2)).drew := fun W => ins_at W _ 1 _ _ rfl
  have i8 : ∀ W : World, (Instr.mapUpdate 132 (.map (some W.heap.size)) (.string ⟨#[116, 105, 109, 101, 114]⟩) (.int .i64 3)).run Tryz.prog (W.alloc (.map #[⟨.string ⟨#[101, 100, 103, 101]⟩, .int .i64 5, 0⟩] 1)).drew = .ok () (W.alloc (.map #[⟨.string ⟨#[101, 100, 103, 101]⟩, .int .i64 5, 0⟩, ⟨.string ⟨#[116, 105, 109, 101, 114]⟩, .int .i64 3, 1⟩] 2)).drew := fun W => ins_at W _ 1 _ _ rfl
  have i9 : ∀ W : World, (Instr.mapUpdate 132 (.map (some W.heap.size)) (.string ⟨#[99, 111, 117, 110, 116, 101, 114]⟩) (.int .i64 4)).run Tryz.prog (W.alloc (.map #[⟨.string ⟨#[101, 100, 103, 101]⟩, .int .i64 5, 0⟩] 1)).drew = .ok () (W.alloc (.map #[⟨.string ⟨#[101, 100, 103, 101]⟩, .int .i64 5, 0⟩, ⟨.string ⟨#[99, 111, 117, 110, 116, 101, 114]⟩, .int .i64 4, 1⟩] 2)).drew := fun W => ins_at W _ 1 _ _ rfl
  have i10 : ∀ W : World, (Instr.mapUpdate 132 (.map (some W.heap.size)) (.string ⟨#[101, 100, 103, 101]⟩) (.int .i64 5)).run Tryz.prog (W.alloc (.map #[⟨.string ⟨#[116, 105, 109, 101, 114]⟩, .int .i64 3, 0⟩, ⟨.string ⟨#[99, 111, 117, 110, 116, 101, 114]⟩, .int .i64 4, 1⟩] 2)).drew = .ok () (W.alloc (.map #[⟨.string ⟨#[116, 105, 109, 101, 114]⟩, .int .i64 3, 0⟩, ⟨.string ⟨#[99, 111, 117, 110, 116, 101, 114]⟩, .int .i64 4, 1⟩, ⟨.string ⟨#[101, 100, 103, 101]⟩, .int .i64 5, 2⟩] 3)).drew := fun W => ins_at W _ 2 _ _ rfl
  have i11 : ∀ W : World, (Instr.mapUpdate 132 (.map (some W.heap.size)) (.string ⟨#[99, 111, 117, 110, 116, 101, 114]⟩) (.int .i64 4)).run Tryz.prog (W.alloc (.map #[⟨.string ⟨#[116, 105, 109, 101, 114]⟩, .int .i64 3, 0⟩, ⟨.string ⟨#[101, 100, 103, 101]⟩, .int .i64 5, 1⟩] 2)).drew = .ok () (W.alloc (.map #[⟨.string ⟨#[116, 105, 109, 101, 114]⟩, .int .i64 3, 0⟩, ⟨.string ⟨#[101, 100, 103, 101]⟩, .int .i64 5, 1⟩, ⟨.string ⟨#[99, 111, 117, 110, 116, 101, 114]⟩, .int .i64 4, 2⟩] 3)).drew := fun W => ins_at W _ 2 _ _ rfl
  have i12 : ∀ W : World, (Instr.mapUpdate 132 (.map (some W.heap.size)) (.string ⟨#[101, 100, 103, 101]⟩) (.int .i64 5)).run Tryz.prog (W.alloc (.map #[⟨.string ⟨#[99, 111, 117, 110, 116, 101, 114]⟩, .int .i64 4, 0⟩, ⟨.string ⟨#[116, 105, 109, 101, 114]⟩, .int .i64 3, 1⟩] 2)).drew = .ok () (W.alloc (.map #[⟨.string ⟨#[99, 111, 117, 110, 116, 101, 114]⟩, .int .i64 4, 0⟩, ⟨.string ⟨#[116, 105, 109, 101, 114]⟩, .int .i64 3, 1⟩, ⟨.string ⟨#[101, 100, 103, 101]⟩, .int .i64 5, 2⟩] 3)).drew := fun W => ins_at W _ 2 _ _ rfl
  have i13 : ∀ W : World, (Instr.mapUpdate 132 (.map (some W.heap.size)) (.string ⟨#[116, 105, 109, 101, 114]⟩) (.int .i64 3)).run Tryz.prog (W.alloc (.map #[⟨.string ⟨#[99, 111, 117, 110, 116, 101, 114]⟩, .int .i64 4, 0⟩, ⟨.string ⟨#[101, 100, 103, 101]⟩, .int .i64 5, 1⟩] 2)).drew = .ok () (W.alloc (.map #[⟨.string ⟨#[99, 111, 117, 110, 116, 101, 114]⟩, .int .i64 4, 0⟩, ⟨.string ⟨#[101, 100, 103, 101]⟩, .int .i64 5, 1⟩, ⟨.string ⟨#[116, 105, 109, 101, 114]⟩, .int .i64 3, 2⟩] 3)).drew := fun W => ins_at W _ 2 _ _ rfl
  have i14 : ∀ W : World, (Instr.mapUpdate 132 (.map (some W.heap.size)) (.string ⟨#[99, 111, 117, 110, 116, 101, 114]⟩) (.int .i64 4)).run Tryz.prog (W.alloc (.map #[⟨.string ⟨#[101, 100, 103, 101]⟩, .int .i64 5, 0⟩, ⟨.string ⟨#[116, 105, 109, 101, 114]⟩, .int .i64 3, 1⟩] 2)).drew = .ok () (W.alloc (.map #[⟨.string ⟨#[101, 100, 103, 101]⟩, .int .i64 5, 0⟩, ⟨.string ⟨#[116, 105, 109, 101, 114]⟩, .int .i64 3, 1⟩, ⟨.string ⟨#[99, 111, 117, 110, 116, 101, 114]⟩, .int .i64 4, 2⟩] 3)).drew := fun W => ins_at W _ 2 _ _ rfl
  have i15 : ∀ W : World, (Instr.mapUpdate 132 (.map (some W.heap.size)) (.string ⟨#[116, 105, 109, 101, 114]⟩) (.int .i64 3)).run Tryz.prog (W.alloc (.map #[⟨.string ⟨#[101, 100, 103, 101]⟩, .int .i64 5, 0⟩, ⟨.string ⟨#[99, 111, 117, 110, 116, 101, 114]⟩, .int .i64 4, 1⟩] 2)).drew = .ok () (W.alloc (.map #[⟨.string ⟨#[101, 100, 103, 101]⟩, .int .i64 5, 0⟩, ⟨.string ⟨#[99, 111, 117, 110, 116, 101, 114]⟩, .int .i64 4, 1⟩, ⟨.string ⟨#[116, 105, 109, 101, 114]⟩, .int .i64 3, 2⟩] 3)).drew := fun W => ins_at W _ 2 _ _ rfl
  clear hv
  go_enter Tryz.func98, Tryz.ntmps98
  go_wp2
  go_region
  all_goals (try go_wp2)
  all_goals go_ret
  all_goals refine ⟨_, _, _, rfl, blk_new w _, ?_, (below_alloc w _).drew⟩
  all_goals (first | exact blk_tce | exact blk_tec | exact blk_cte | exact blk_cet | exact blk_etc | exact blk_ect)
end Go.Proofs.YtgncgbngjdcpgaaGreatDoor
