/-
  CONTRACT of decl of the reference's reader.
-/
import Derived.Test.YtlbgdoajaplabaaGreatDoorJRBody
import Derived.Test.YtlbgdoajaplabaaGreatDoorDecls
import Derived.Test.YtlbgdoajaplabaaGreatDoorJPrt
namespace Go.Proofs.YtlbgdoajaplabaaGreatDoor
open Go.RowKit
set_option linter.unusedSimpArgs false
set_option linter.unusedVariables false

theorem ins_now (W : World) (es : Array MapEntry) (c : Nat) (k : ByteArray) (v : Value) (hf : Instr.findNow .string (.string k) es.toList 0 = some none) :
    (Instr.mapUpdate 124 (.map (some W.heap.size)) (.string k) v).run Tryz.prog (W.alloc (.map es c)) = .ok () (W.alloc (.map (es.push ⟨.string k, v, c⟩) (c + 1))) := by
  have h0 : (W.alloc (.map es c)).heap[W.heap.size]? = some (.map es c) := blk_new W _
  have h1 := key_ok' false k
  have h2 : (getObj W.heap.size).run Tryz.prog (W.alloc (.map es c)) = .ok (.map es c) (W.alloc (.map es c)) := by simp only [getObj, Sem.run, h0]
  have h3 : ∀ o, (setObj W.heap.size o).run Tryz.prog (W.alloc (.map es c)) = .ok () { (W.alloc (.map es c)) with heap := (W.alloc (.map es c)).heap.setIfInBounds W.heap.size o } := fun o => by simp only [setObj, Sem.run, h0]
  simp [Instr.mapUpdate, go_sem, Instr.findKey, h1, hf, h2, h3]
  unfold World.alloc
  simp only [set_last]
/-- a map in which the ways are found, and nothing else -/
def IsWy (es : Array MapEntry) : Prop := ∀ s : ByteArray, (match Instr.findNow .string (.string s) es.toList 0 with | some (some x) => some x.2 | some none => some (.int .i64 0) | none => none) = some (Value.int .i64 (wayN s.toList))
theorem way_iov : IsWy #[⟨.string ⟨#[105, 110]⟩, .int .i64 1, 0⟩, ⟨.string ⟨#[111, 117, 116]⟩, .int .i64 2, 1⟩, ⟨.string ⟨#[118, 97, 114]⟩, .int .i64 3, 2⟩] := by
  intro s
  have e1 := beq_lit s [105, 110]
  have e2 := beq_lit s [111, 117, 116]
  have e3 := beq_lit s [118, 97, 114]
  cases c1 : (s.toList == [105, 110]) <;> cases c2 : (s.toList == [111, 117, 116]) <;> cases c3 : (s.toList == [118, 97, 114]) <;> rw [c1] at e1 <;> rw [c2] at e2 <;> rw [c3] at e3 <;> simp [Instr.findNow, Instr.sameNow, e1, e2, e3, wayN, c1, c2, c3]
theorem wfound (M : Nat) (w : World) (s : ByteArray) (es : Array MapEntry) (c : Nat) (h : w.heap[M]? = some (.map es c)) (hb : IsWy es) : (Instr.lookup 124 (.map (some M)) (.string s) false).run Tryz.prog w = .ok (.int .i64 (wayN s.toList)) w := by
  have h1 := fun b => key_ok' b s
  have h2 : (getObj M).run Tryz.prog w = .ok (.map es c) w := by simp only [getObj, Sem.run, h]
  have hs := hb s
  cases hr : Instr.findNow .string (.string s) es.toList 0 with
  | none => rw [hr] at hs; cases hs
  | some r =>
    rw [hr] at hs
    cases r with
    | none => simp [Instr.lookup, go_sem, Instr.findKey, h1, h2, hr]; simpa using hs
    | some x => simp [Instr.lookup, go_sem, Instr.findKey, h1, h2, hr]; simpa using hs
theorem wayput (W : World) : (Instr.mapUpdate 124 (.map (some W.heap.size)) (.string ⟨#[105, 110]⟩) (.int .i64 1)).run Tryz.prog (W.alloc (.map #[] 0)) = .ok () (W.alloc (.map #[⟨.string ⟨#[105, 110]⟩, .int .i64 1, 0⟩] 1)) ∧
    (Instr.mapUpdate 124 (.map (some W.heap.size)) (.string ⟨#[111, 117, 116]⟩) (.int .i64 2)).run Tryz.prog (W.alloc (.map #[⟨.string ⟨#[105, 110]⟩, .int .i64 1, 0⟩] 1)) = .ok () (W.alloc (.map #[⟨.string ⟨#[105, 110]⟩, .int .i64 1, 0⟩, ⟨.string ⟨#[111, 117, 116]⟩, .int .i64 2, 1⟩] 2)) ∧
    (Instr.mapUpdate 124 (.map (some W.heap.size)) (.string ⟨#[118, 97, 114]⟩) (.int .i64 3)).run Tryz.prog (W.alloc (.map #[⟨.string ⟨#[105, 110]⟩, .int .i64 1, 0⟩, ⟨.string ⟨#[111, 117, 116]⟩, .int .i64 2, 1⟩] 2)) = .ok () (W.alloc (.map #[⟨.string ⟨#[105, 110]⟩, .int .i64 1, 0⟩, ⟨.string ⟨#[111, 117, 116]⟩, .int .i64 2, 1⟩, ⟨.string ⟨#[118, 97, 114]⟩, .int .i64 3, 2⟩] 3)) :=
  ⟨ins_now W _ 0 _ _ rfl, ins_now W _ 1 _ _ rfl, ins_now W _ 2 _ _ rfl⟩
theorem blkput (W : World) : (Instr.mapUpdate 124 (.map (some W.heap.size)) (.string ⟨#[116, 105, 109, 101, 114]⟩) (.int .i64 3)).run Tryz.prog (W.alloc (.map #[] 0)) = .ok () (W.alloc (.map #[⟨.string ⟨#[116, 105, 109, 101, 114]⟩, .int .i64 3, 0⟩] 1)) ∧
    (Instr.mapUpdate 124 (.map (some W.heap.size)) (.string ⟨#[99, 111, 117, 110, 116, 101, 114]⟩) (.int .i64 4)).run Tryz.prog (W.alloc (.map #[⟨.string ⟨#[116, 105, 109, 101, 114]⟩, .int .i64 3, 0⟩] 1)) = .ok () (W.alloc (.map #[⟨.string ⟨#[116, 105, 109, 101, 114]⟩, .int .i64 3, 0⟩, ⟨.string ⟨#[99, 111, 117, 110, 116, 101, 114]⟩, .int .i64 4, 1⟩] 2)) ∧
    (Instr.mapUpdate 124 (.map (some W.heap.size)) (.string ⟨#[101, 100, 103, 101]⟩) (.int .i64 5)).run Tryz.prog (W.alloc (.map #[⟨.string ⟨#[116, 105, 109, 101, 114]⟩, .int .i64 3, 0⟩, ⟨.string ⟨#[99, 111, 117, 110, 116, 101, 114]⟩, .int .i64 4, 1⟩] 2)) = .ok () (W.alloc (.map #[⟨.string ⟨#[116, 105, 109, 101, 114]⟩, .int .i64 3, 0⟩, ⟨.string ⟨#[99, 111, 117, 110, 116, 101, 114]⟩, .int .i64 4, 1⟩, ⟨.string ⟨#[101, 100, 103, 101]⟩, .int .i64 5, 2⟩] 3)) :=
  ⟨ins_now W _ 0 _ _ rfl, ins_now W _ 1 _ _ rfl, ins_now W _ 2 _ _ rfl⟩

abbrev isD (v : Value) : Prop := ∃ (s : ByteArray) (a b c : Int), v = .agg #[.string s, .int .i64 a, .int .i64 b, .int .i64 c]
theorem un_unit : ∀ r : Res Unit, r.un = r
  | .out => rfl
  | .bad _ _ => rfl
  | .ok _ _ => rfl
/-- the two maps of a declaration -/
theorem decl_maps (w0 : World) : 
    (Instr.mapUpdate 124 (.map (some (w0.heap.size + 1))) (.string ⟨#[116, 105, 109, 101, 114]⟩) (.int .i64 3)).run Tryz.prog ((w0.alloc (.map #[⟨.string ⟨#[105, 110]⟩, .int .i64 1, 0⟩, ⟨.string ⟨#[111, 117, 116]⟩, .int .i64 2, 1⟩, ⟨.string ⟨#[118, 97, 114]⟩, .int .i64 3, 2⟩] 3)).alloc (.map #[] 0)) = .ok () ((w0.alloc (.map #[⟨.string ⟨#[105, 110]⟩, .int .i64 1, 0⟩, ⟨.string ⟨#[111, 117, 116]⟩, .int .i64 2, 1⟩, ⟨.string ⟨#[118, 97, 114]⟩, .int .i64 3, 2⟩] 3)).alloc (.map #[⟨.string ⟨#[116, 105, 109, 101, 114]⟩, .int .i64 3, 0⟩] 1)) ∧
    (Instr.mapUpdate 124 (.map (some (w0.heap.size + 1))) (.string ⟨#[99, 111, 117, 110, 116, 101, 114]⟩) (.int .i64 4)).run Tryz.prog ((w0.alloc (.map #[⟨.string ⟨#[105, 110]⟩, .int .i64 1, 0⟩, ⟨.string ⟨#[111, 117, 116]⟩, .int .i64 2, 1⟩, ⟨.string ⟨#[118, 97, 114]⟩, .int .i64 3, 2⟩] 3)).alloc (.map #[⟨.string ⟨#[116, 105, 109, 101, 114]⟩, .int .i64 3, 0⟩] 1)) = .ok () ((w0.alloc (.map #[⟨.string ⟨#[105, 110]⟩, .int .i64 1, 0⟩, ⟨.string ⟨#[111, 117, 116]⟩, .int .i64 2, 1⟩, ⟨.string ⟨#[118, 97, 114]⟩, .int .i64 3, 2⟩] 3)).alloc (.map #[⟨.string ⟨#[116, 105, 109, 101, 114]⟩, .int .i64 3, 0⟩, ⟨.string ⟨#[99, 111, 117, 110, 116, 101, 114]⟩, .int .i64 4, 1⟩] 2)) ∧
    (Instr.mapUpdate 124 (.map (some (w0.heap.size + 1))) (.string ⟨#[101, 100, 103, 101]⟩) (.int .i64 5)).run Tryz.prog ((w0.alloc (.map #[⟨.string ⟨#[105, 110]⟩, .int .i64 1, 0⟩, ⟨.string ⟨#[111, 117, 116]⟩, .int .i64 2, 1⟩, ⟨.string ⟨#[118, 97, 114]⟩, .int .i64 3, 2⟩] 3)).alloc (.map #[⟨.string ⟨#[116, 105, 109, 101, 114]⟩, .int .i64 3, 0⟩, ⟨.string ⟨#[99, 111, 117, 110, 116, 101, 114]⟩, .int .i64 4, 1⟩] 2)) = .ok () ((w0.alloc (.map #[⟨.string ⟨#[105, 110]⟩, .int .i64 1, 0⟩, ⟨.string ⟨#[111, 117, 116]⟩, .int .i64 2, 1⟩, ⟨.string ⟨#[118, 97, 114]⟩, .int .i64 3, 2⟩] 3)).alloc (.map #[⟨.string ⟨#[116, 105, 109, 101, 114]⟩, .int .i64 3, 0⟩, ⟨.string ⟨#[99, 111, 117, 110, 116, 101, 114]⟩, .int .i64 4, 1⟩, ⟨.string ⟨#[101, 100, 103, 101]⟩, .int .i64 5, 2⟩] 3)) ∧
    (∀ s : ByteArray, (Instr.lookup 124 (.map (some w0.heap.size)) (.string s) false).run Tryz.prog (w0.alloc (.map #[⟨.string ⟨#[105, 110]⟩, .int .i64 1, 0⟩, ⟨.string ⟨#[111, 117, 116]⟩, .int .i64 2, 1⟩, ⟨.string ⟨#[118, 97, 114]⟩, .int .i64 3, 2⟩] 3)) = .ok (.int .i64 (wayN s.toList)) (w0.alloc (.map #[⟨.string ⟨#[105, 110]⟩, .int .i64 1, 0⟩, ⟨.string ⟨#[111, 117, 116]⟩, .int .i64 2, 1⟩, ⟨.string ⟨#[118, 97, 114]⟩, .int .i64 3, 2⟩] 3))) ∧
    (∀ s : ByteArray, (Instr.lookup 124 (.map (some (w0.heap.size + 1))) (.string s) false).run Tryz.prog ((w0.alloc (.map #[⟨.string ⟨#[105, 110]⟩, .int .i64 1, 0⟩, ⟨.string ⟨#[111, 117, 116]⟩, .int .i64 2, 1⟩, ⟨.string ⟨#[118, 97, 114]⟩, .int .i64 3, 2⟩] 3)).alloc (.map #[⟨.string ⟨#[116, 105, 109, 101, 114]⟩, .int .i64 3, 0⟩, ⟨.string ⟨#[99, 111, 117, 110, 116, 101, 114]⟩, .int .i64 4, 1⟩, ⟨.string ⟨#[101, 100, 103, 101]⟩, .int .i64 5, 2⟩] 3)) = .ok (.int .i64 (blkN s.toList)) ((w0.alloc (.map #[⟨.string ⟨#[105, 110]⟩, .int .i64 1, 0⟩, ⟨.string ⟨#[111, 117, 116]⟩, .int .i64 2, 1⟩, ⟨.string ⟨#[118, 97, 114]⟩, .int .i64 3, 2⟩] 3)).alloc (.map #[⟨.string ⟨#[116, 105, 109, 101, 114]⟩, .int .i64 3, 0⟩, ⟨.string ⟨#[99, 111, 117, 110, 116, 101, 114]⟩, .int .i64 4, 1⟩, ⟨.string ⟨#[101, 100, 103, 101]⟩, .int .i64 5, 2⟩] 3))) := by
  have e : (w0.alloc (.map #[⟨.string ⟨#[105, 110]⟩, .int .i64 1, 0⟩, ⟨.string ⟨#[111, 117, 116]⟩, .int .i64 2, 1⟩, ⟨.string ⟨#[118, 97, 114]⟩, .int .i64 3, 2⟩] 3)).heap.size = w0.heap.size + 1 := by simp
  obtain ⟨j1, j2, j3⟩ := blkput (w0.alloc (.map #[⟨.string ⟨#[105, 110]⟩, .int .i64 1, 0⟩, ⟨.string ⟨#[111, 117, 116]⟩, .int .i64 2, 1⟩, ⟨.string ⟨#[118, 97, 114]⟩, .int .i64 3, 2⟩] 3))
  have f2 := fun s => found (w0.alloc (.map #[⟨.string ⟨#[105, 110]⟩, .int .i64 1, 0⟩, ⟨.string ⟨#[111, 117, 116]⟩, .int .i64 2, 1⟩, ⟨.string ⟨#[118, 97, 114]⟩, .int .i64 3, 2⟩] 3)).heap.size ((w0.alloc (.map #[⟨.string ⟨#[105, 110]⟩, .int .i64 1, 0⟩, ⟨.string ⟨#[111, 117, 116]⟩, .int .i64 2, 1⟩, ⟨.string ⟨#[118, 97, 114]⟩, .int .i64 3, 2⟩] 3)).alloc (.map #[⟨.string ⟨#[116, 105, 109, 101, 114]⟩, .int .i64 3, 0⟩, ⟨.string ⟨#[99, 111, 117, 110, 116, 101, 114]⟩, .int .i64 4, 1⟩, ⟨.string ⟨#[101, 100, 103, 101]⟩, .int .i64 5, 2⟩] 3)) s _ _ (blk_new _ _) blk_tce
  rw [e] at j1 j2 j3 f2
  exact ⟨j1, j2, j3, fun s => wfound w0.heap.size _ s _ _ (blk_new w0 _) way_iov, f2⟩

abbrev deObj (name : ByteArray) (way ty n : Int) : Obj := .cells #[.string name, .int .i64 way, .int .i64 ty, .int .i64 n] 64 (0, 0)
theorem de_cells {w : World} {B : Nat} {name : ByteArray} {way ty n : Int} (h : w.heap[B]? = some (deObj name way ty n)) :
    w.cell? ⟨B, 0, none⟩ = some (.string name) ∧ w.cell? ⟨B, 1, none⟩ = some (.int .i64 way) ∧ w.cell? ⟨B, 2, none⟩ = some (.int .i64 ty) ∧ w.cell? ⟨B, 3, none⟩ = some (.int .i64 n) :=
  ⟨by rw [blk_cell h]; rfl, by rw [blk_cell h]; rfl, by rw [blk_cell h]; rfl, by rw [blk_cell h]; rfl⟩

set_option maxRecDepth 100000 in
set_option maxHeartbeats 3200000 in
theorem rdecl_none {w : World} {R T : Nat} {ts : List Tok} {k : Nat} (h : Rr w R T ts k 0 (-1)) (hw0 : wayN (tx ts k) = 0) (hk0 : blkN (tx ts k) = 0) :
    Calls Tryz.prog 41 #[.pointer (some ⟨R, 0, none⟩)] w (fun e w' => e = .returned (.tuple #[.agg #[.string ⟨#[]⟩, .int .i64 0, .int .i64 0, .int .i64 0], .bool false]) ∧ Below w.heap.size w w') := by
  have hmm := @run_makeMap Tryz.prog
  have hb0 := below_alloc w (deObj ⟨#[]⟩ 0 0 0)
  have HQ0 := hide (blk_new w (deObj ⟨#[]⟩ 0 0 0))
  obtain ⟨n, c, h0, _, _, r0, c0, c1, c2, _, _⟩ := (h.below hb0).cells
  obtain ⟨i1, i2, i3⟩ := wayput (w.alloc (deObj ⟨#[]⟩ 0 0 0))
  obtain ⟨j1, j2, j3, f1, f2⟩ := decl_maps (w.alloc (deObj ⟨#[]⟩ 0 0 0))
  specialize f1 (tk ts k).text
  specialize f2 (tk ts k).text
  have hbA := Below.step hb0 (Below.step (below_alloc (w.alloc (deObj ⟨#[]⟩ 0 0 0)) (.map #[⟨.string ⟨#[105, 110]⟩, .int .i64 1, 0⟩, ⟨.string ⟨#[111, 117, 116]⟩, .int .i64 2, 1⟩, ⟨.string ⟨#[118, 97, 114]⟩, .int .i64 3, 2⟩] 3)) (below_alloc _ (.map #[⟨.string ⟨#[116, 105, 109, 101, 114]⟩, .int .i64 3, 0⟩, ⟨.string ⟨#[99, 111, 117, 110, 116, 101, 114]⟩, .int .i64 4, 1⟩, ⟨.string ⟨#[101, 100, 103, 101]⟩, .int .i64 5, 2⟩] 3)))
  have HA := hide hbA
  have HQA := hide (Below.blk (Below.step (below_alloc (w.alloc (deObj ⟨#[]⟩ 0 0 0)) (.map #[⟨.string ⟨#[105, 110]⟩, .int .i64 1, 0⟩, ⟨.string ⟨#[111, 117, 116]⟩, .int .i64 2, 1⟩, ⟨.string ⟨#[118, 97, 114]⟩, .int .i64 3, 2⟩] 3)) (below_alloc _ (.map #[⟨.string ⟨#[116, 105, 109, 101, 114]⟩, .int .i64 3, 0⟩, ⟨.string ⟨#[99, 111, 117, 110, 116, 101, 114]⟩, .int .i64 4, 1⟩, ⟨.string ⟨#[101, 100, 103, 101]⟩, .int .i64 5, 2⟩] 3))) HQ0.out)
  have HS0 : Hid ((w.alloc (deObj ⟨#[]⟩ 0 0 0)).heap.size = w.heap.size + 1) := hide (by simp)
  have HR := hide h
  have hlt := h.Rlt
  have htl := h.Tlt
  have hbig := h.big
  have hz1 : wayN (tk ts k).text.toList = 0 := hw0
  have hz2 : blkN (tk ts k).text.toList = 0 := hk0
  rw [hz1] at f1
  rw [hz2] at f2
  obtain ⟨q0, q1, q2, q3⟩ := de_cells HQA.out
  have qf := blk_frozen HQA.out
  clear h hb0 hbA
  generalize hww : w.alloc (.cells #[.string ⟨#[]⟩, .int .i64 0, .int .i64 0, .int .i64 0] 64) = w0 at *
  go_enter Tryz.func41, Tryz.ntmps41
  go_wp2_with fail
  refine bodyPost_ret (v := .tuple #[.agg #[.string ⟨#[]⟩, .int .i64 0, .int .i64 0, .int .i64 0], .bool false]) (by simp [results, Tryz.results41, go_sem, q0, q1, q2, q3]) rfl ?_
  exact ⟨rfl, (((HA.out.setCell (Nat.le_refl _) _).setCell (Nat.le_refl _) _).setCell (Nat.le_refl _) _).setCell (Nat.le_refl _) _⟩

set_option maxRecDepth 100000 in
set_option maxHeartbeats 3200000 in
theorem rdecl_blk {w : World} {R T : Nat} {ts : List Tok} {k : Nat} (h : Rr w R T ts k 0 (-1)) (hw0 : wayN (tx ts k) = 0) (hk0 : blkN (tx ts k) ≠ 0) :
    Calls Tryz.prog 41 #[.pointer (some ⟨R, 0, none⟩)] w (fun e w' => ∃ v, e = .returned (.tuple #[v, .bool true]) ∧ Rfs w R T ts (fun w' v (d : De) => v = .agg #[.string d.name, .int .i64 d.way, .int .i64 d.ty, .int .i64 d.init]) isD (declP ts k) (.returned v) w') := by
  have hmm := @run_makeMap Tryz.prog
  have hb0 := below_alloc w (deObj ⟨#[]⟩ 0 0 0)
  have HQ0 := hide (blk_new w (deObj ⟨#[]⟩ 0 0 0))
  obtain ⟨n, c, h0, _, _, r0, c0, c1, c2, _, _⟩ := (h.below hb0).cells
  obtain ⟨i1, i2, i3⟩ := wayput (w.alloc (deObj ⟨#[]⟩ 0 0 0))
  obtain ⟨j1, j2, j3, f1, f2⟩ := decl_maps (w.alloc (deObj ⟨#[]⟩ 0 0 0))
  specialize f1 (tk ts k).text
  specialize f2 (tk ts k).text
  have hbA := Below.step hb0 (Below.step (below_alloc (w.alloc (deObj ⟨#[]⟩ 0 0 0)) (.map #[⟨.string ⟨#[105, 110]⟩, .int .i64 1, 0⟩, ⟨.string ⟨#[111, 117, 116]⟩, .int .i64 2, 1⟩, ⟨.string ⟨#[118, 97, 114]⟩, .int .i64 3, 2⟩] 3)) (below_alloc _ (.map #[⟨.string ⟨#[116, 105, 109, 101, 114]⟩, .int .i64 3, 0⟩, ⟨.string ⟨#[99, 111, 117, 110, 116, 101, 114]⟩, .int .i64 4, 1⟩, ⟨.string ⟨#[101, 100, 103, 101]⟩, .int .i64 5, 2⟩] 3)))
  have HA := hide hbA
  have HQA := hide (Below.blk (Below.step (below_alloc (w.alloc (deObj ⟨#[]⟩ 0 0 0)) (.map #[⟨.string ⟨#[105, 110]⟩, .int .i64 1, 0⟩, ⟨.string ⟨#[111, 117, 116]⟩, .int .i64 2, 1⟩, ⟨.string ⟨#[118, 97, 114]⟩, .int .i64 3, 2⟩] 3)) (below_alloc _ (.map #[⟨.string ⟨#[116, 105, 109, 101, 114]⟩, .int .i64 3, 0⟩, ⟨.string ⟨#[99, 111, 117, 110, 116, 101, 114]⟩, .int .i64 4, 1⟩, ⟨.string ⟨#[101, 100, 103, 101]⟩, .int .i64 5, 2⟩] 3))) HQ0.out)
  have HS0 : Hid ((w.alloc (deObj ⟨#[]⟩ 0 0 0)).heap.size = w.heap.size + 1) := hide (by simp)
  have HR := hide h
  have hlt := h.Rlt
  have htl := h.Tlt
  have hbig := h.big
  have hz1 : wayN (tk ts k).text.toList = 0 := hw0
  rw [hz1] at f1
  have hb5 : blkN (tk ts k).text.toList ≤ 5 ∧ 0 < blkN (tk ts k).text.toList := by have := blk_cases2 (s := tx ts k) hk0; have : blkN (tk ts k).text.toList = blkN (tx ts k) := rfl; omega
  have hne : (tk ts k).text.toList ≠ [] := fun e => by rw [e] at hb5; exact absurd hb5.2 (by decide)
  have HW2 : Hid (declP ts k = ((nameP ts (k + 1)).bind fun s k1 => .ok (⟨s, 3, blkN (tk ts k).text.toList, 0⟩ : De) k1).bind fun d k1 => (wantP ts [59] k1).bind fun _ k2 => .ok d k2) := hide (by simp only [declP, if_pos hk0, Res.bind_assoc, Res.bind_ok])
  generalize declP ts k = whole at *
  obtain ⟨blk, hbk⟩ : ∃ b, b = blkN (tk ts k).text.toList := ⟨_, rfl⟩
  rw [← hbk] at f2 HW2 hb5
  clear hbk hk0
  have hwr : IntKind.i64.wrap (0 + (blk : Int)) = (blk : Int) := by rw [Int.zero_add]; exact wrap_small (by omega) (by omega)
  have hq0 : ((blk : Int) == 0) = false := by rw [beq_eq_false_iff_ne]; omega
  have hq1 : (0 : Int) < (blk : Int) := by omega
  clear h hb0 hbA
  generalize hww : w.alloc (.cells #[.string ⟨#[]⟩, .int .i64 0, .int .i64 0, .int .i64 0] 64) = w0 at *
  go_enter Tryz.func41, Tryz.ntmps41
  go_wp2_with fail
  generalize (w0.alloc (.map #[⟨.string ⟨#[105, 110]⟩, .int .i64 1, 0⟩, ⟨.string ⟨#[111, 117, 116]⟩, .int .i64 2, 1⟩, ⟨.string ⟨#[118, 97, 114]⟩, .int .i64 3, 2⟩] 3)).alloc (.map #[⟨.string ⟨#[116, 105, 109, 101, 114]⟩, .int .i64 3, 0⟩, ⟨.string ⟨#[99, 111, 117, 110, 116, 101, 114]⟩, .int .i64 4, 1⟩, ⟨.string ⟨#[101, 100, 103, 101]⟩, .int .i64 5, 2⟩] 3) = w1 at *
  refine (rtake_yes (tk ts k).text hne (HR.out.below HA.out) (beq_self_eq_true _)).mono ?_
  rintro e w2 ⟨rfl, hd2, hk2⟩
  have HD2 := hide hd2
  have HK2 := hide (Kept.trans (Kept.of HA.out) hk2)
  have HQ2 := hide (hk2.blk HQA.out (show w.heap.size ≠ R by omega))
  clear hd2 hk2 r0 c0 c1 c2 i1 i2 i3 j1 j2 j3 f1 f2 hww HQ0 HQA HA
  go_wp2_with fail
  refine (rname_at HD2.out).mono ?_
  rintro e w3 ⟨hk3, hs3, v3, rfl, hv3, hp3⟩
  have hv3 : v3 = .string (tk ts (k + 1)).text := hv3
  subst hv3
  generalize hnm : (tk ts (k + 1)).text = nm at *
  have HP3 : Hid (∀ s k1, nameP ts (k + 1) = .ok s k1 → s = nm) := hide fun s k1 e => by have := hp3 s k1 e; injection this with this; exact this.symm
  have HK3 := hide (HK2.out.trans hk3)
  have hq3 := hk3.blk HQ2.out (show w.heap.size ≠ R by omega)
  have hD : w.heap.size < w3.heap.size := blk_lt hq3
  have hb4 := below_alloc w3 (deObj nm 3 blk 0)
  have HS4 := hide (Rst.below hb4 hs3)
  have HK4 := hide (HK3.out.below hb4)
  have HQ4 := hide (Below.blk hb4 hq3)
  have HD4 := hide (blk_new w3 (deObj nm 3 blk 0))
  clear hk3 hs3 hp3 hq3 hb4 HD2 HK2 HQ2 HK3
  go_wp2_with fail
  generalize hw4 : w3.alloc (.cells #[.string nm, .int .i64 3, .int .i64 blk, .int .i64 0] 64) = w4 at *
  generalize w3.heap.size = D at *
  have HS5' : Hid (Rst w4 R T ts ((nameP ts (k + 1)).bind fun s k1 => Res.ok (⟨s, 3, blk, 0⟩ : De) k1).un) := hide (by rw [un_ok]; exact HS4.out)
  refine (rneed_at [59] (by decide) HS5'.out).mono ?_
  rintro e z8 ⟨rfl, hs8, hk8⟩
  have ZS := hide hs8
  have ZK := hide (HK4.out.trans hk8)
  have zq := hk8.blk HQ4.out (show w.heap.size ≠ R by omega)
  obtain ⟨q0, q1, q2, q3⟩ := de_cells zq
  have qf := blk_frozen zq
  obtain ⟨e0, e1, e2, e3⟩ := de_cells (hk8.blk HD4.out (show D ≠ R by omega))
  clear hs8 hk8 zq
  generalize hQQ : w.heap.size = Q at *
  go_wp2_with fail
  refine bodyPost_ret (v := .tuple #[.agg #[.string nm, .int .i64 3, .int .i64 blk, .int .i64 0], .bool true]) (by simp [results, Tryz.results41, go_sem, q0, q1, q2, q3]) rfl ?_
  refine ⟨_, rfl, (((ZK.out.new 0 _ (by omega)).new 1 _ (by omega)).new 2 _ (by omega)).new 3 _ (by omega), ?_, _, rfl, ⟨_, _, _, _, rfl⟩, fun d k' e => ?_⟩
  · rw [HW2.out, un_must]
    exact (((ZS.out.set (S := Q) 0 _ (by omega) (by omega) (by omega)).set (S := Q) 1 _ (by omega) (by omega) (by omega)).set (S := Q) 2 _ (by omega) (by omega) (by omega)).set (S := Q) 3 _ (by omega) (by omega) (by omega)
  · obtain ⟨k1, hx⟩ := must_inv (HW2.out.symm.trans e)
    obtain ⟨s, hs, rfl⟩ := ok_inv hx
    rw [HP3.out s k1 hs]
    rfl

set_option maxRecDepth 100000 in
set_option maxHeartbeats 3200000 in
theorem rdecl_way {w : World} {R T : Nat} {ts : List Tok} {k : Nat} (h : Rr w R T ts k 0 (-1)) (hw0 : wayN (tx ts k) ≠ 0) (hk0 : blkN (tx ts k) = 0) :
    Calls Tryz.prog 41 #[.pointer (some ⟨R, 0, none⟩)] w (fun e w' => ∃ v, e = .returned (.tuple #[v, .bool true]) ∧ Rfs w R T ts (fun w' v (d : De) => v = .agg #[.string d.name, .int .i64 d.way, .int .i64 d.ty, .int .i64 d.init]) isD (declP ts k) (.returned v) w') := by
  have hmm := @run_makeMap Tryz.prog
  have hb0 := below_alloc w (deObj ⟨#[]⟩ 0 0 0)
  have HQ0 := hide (blk_new w (deObj ⟨#[]⟩ 0 0 0))
  obtain ⟨n, c, h0, _, _, r0, c0, c1, c2, _, _⟩ := (h.below hb0).cells
  obtain ⟨i1, i2, i3⟩ := wayput (w.alloc (deObj ⟨#[]⟩ 0 0 0))
  obtain ⟨j1, j2, j3, f1, f2⟩ := decl_maps (w.alloc (deObj ⟨#[]⟩ 0 0 0))
  specialize f1 (tk ts k).text
  specialize f2 (tk ts k).text
  have hbA := Below.step hb0 (Below.step (below_alloc (w.alloc (deObj ⟨#[]⟩ 0 0 0)) (.map #[⟨.string ⟨#[105, 110]⟩, .int .i64 1, 0⟩, ⟨.string ⟨#[111, 117, 116]⟩, .int .i64 2, 1⟩, ⟨.string ⟨#[118, 97, 114]⟩, .int .i64 3, 2⟩] 3)) (below_alloc _ (.map #[⟨.string ⟨#[116, 105, 109, 101, 114]⟩, .int .i64 3, 0⟩, ⟨.string ⟨#[99, 111, 117, 110, 116, 101, 114]⟩, .int .i64 4, 1⟩, ⟨.string ⟨#[101, 100, 103, 101]⟩, .int .i64 5, 2⟩] 3)))
  have HA := hide hbA
  have HQA := hide (Below.blk (Below.step (below_alloc (w.alloc (deObj ⟨#[]⟩ 0 0 0)) (.map #[⟨.string ⟨#[105, 110]⟩, .int .i64 1, 0⟩, ⟨.string ⟨#[111, 117, 116]⟩, .int .i64 2, 1⟩, ⟨.string ⟨#[118, 97, 114]⟩, .int .i64 3, 2⟩] 3)) (below_alloc _ (.map #[⟨.string ⟨#[116, 105, 109, 101, 114]⟩, .int .i64 3, 0⟩, ⟨.string ⟨#[99, 111, 117, 110, 116, 101, 114]⟩, .int .i64 4, 1⟩, ⟨.string ⟨#[101, 100, 103, 101]⟩, .int .i64 5, 2⟩] 3))) HQ0.out)
  have HS0 : Hid ((w.alloc (deObj ⟨#[]⟩ 0 0 0)).heap.size = w.heap.size + 1) := hide (by simp)
  have HR := hide h
  have hlt := h.Rlt
  have htl := h.Tlt
  have hbig := h.big
  have hz2 : blkN (tk ts k).text.toList = 0 := hk0
  rw [hz2] at f2
  have hb5 : wayN (tk ts k).text.toList ≤ 3 ∧ 0 < wayN (tk ts k).text.toList := by have := way_cases2 (s := tx ts k) hw0; have : wayN (tk ts k).text.toList = wayN (tx ts k) := rfl; omega
  have hne : (tk ts k).text.toList ≠ [] := fun e => by rw [e] at hb5; exact absurd hb5.2 (by decide)
  have HWY : Hid (declP ts k = ((nameP ts (k + 1)).bind fun s k1 => (wantP ts [58] k1).bind fun _ k2 => .ok s k2).bind fun s k2 => (kindP ts k2).bind fun ty k3 => (if wayN (tk ts k).text.toList ≠ 1 then firstP ts ty k3 else .ok 0 k3).bind fun n k4 => (wantP ts [59] k4).bind fun _ k5 => .ok (⟨s, wayN (tk ts k).text.toList, ty, n⟩ : De) k5) := hide (by
    have hk0' : ¬ blkN (tx ts k) ≠ 0 := by omega
    simp only [declP, if_neg hk0', Res.bind_assoc, Res.bind_ok]
    refine Res.bind_congr _ fun s k1 _ => Res.bind_congr _ fun _ k2 _ => Res.bind_congr _ fun ty k3 _ => ?_
    by_cases h1 : wayN (tk ts k).text.toList ≠ 1
    · rw [if_pos h1, if_pos h1]
    · rw [if_neg h1, if_neg h1]
      have h1 : wayN (tk ts k).text.toList = 1 := by omega
      rfl)
  obtain ⟨whole, hwhole⟩ : ∃ r, r = declP ts k := ⟨_, rfl⟩
  rw [← hwhole] at HWY ⊢
  obtain ⟨way, hbk⟩ : ∃ b, b = wayN (tk ts k).text.toList := ⟨_, rfl⟩
  rw [← hbk] at f1 HWY hb5
  clear hbk hw0 hk0 hwhole
  have hwr : IntKind.i64.wrap ((way : Int) + 0) = (way : Int) := by rw [Int.add_zero]; exact wrap_small (by omega) (by omega)
  have hq0 : ((way : Int) == 0) = false := by rw [beq_eq_false_iff_ne]; omega
  clear h hb0 hbA
  generalize hww : w.alloc (.cells #[.string ⟨#[]⟩, .int .i64 0, .int .i64 0, .int .i64 0] 64) = w0 at *
  go_enter Tryz.func41, Tryz.ntmps41
  go_wp2_with fail
  generalize (w0.alloc (.map #[⟨.string ⟨#[105, 110]⟩, .int .i64 1, 0⟩, ⟨.string ⟨#[111, 117, 116]⟩, .int .i64 2, 1⟩, ⟨.string ⟨#[118, 97, 114]⟩, .int .i64 3, 2⟩] 3)).alloc (.map #[⟨.string ⟨#[116, 105, 109, 101, 114]⟩, .int .i64 3, 0⟩, ⟨.string ⟨#[99, 111, 117, 110, 116, 101, 114]⟩, .int .i64 4, 1⟩, ⟨.string ⟨#[101, 100, 103, 101]⟩, .int .i64 5, 2⟩] 3) = w1 at *
  refine (rtake_yes (tk ts k).text hne (HR.out.below HA.out) (beq_self_eq_true _)).mono ?_
  rintro e w2 ⟨rfl, hd2, hk2⟩
  have HD2 := hide hd2
  have HK2 := hide (Kept.trans (Kept.of HA.out) hk2)
  have HQ2 := hide (hk2.blk HQA.out (show w.heap.size ≠ R by omega))
  clear hd2 hk2 r0 c0 c1 c2 i1 i2 i3 j1 j2 j3 f1 f2 hww HQ0 HQA HA
  go_wp2_with fail
  refine (rname_at HD2.out).mono ?_
  rintro e w3 ⟨hk3, hs3, v3, rfl, hv3, hp3⟩
  have hv3 : v3 = .string (tk ts (k + 1)).text := hv3
  subst hv3
  generalize hnm : (tk ts (k + 1)).text = nm at *
  have HP3 : Hid (∀ s k1, nameP ts (k + 1) = .ok s k1 → s = nm) := hide fun s k1 e => by have := hp3 s k1 e; injection this with this; exact this.symm
  have HK3 := hide (HK2.out.trans hk3)
  have hq3 := hk3.blk HQ2.out (show w.heap.size ≠ R by omega)
  have hD : w.heap.size < w3.heap.size := blk_lt hq3
  have hb4 := below_alloc w3 (deObj nm way 0 0)
  have HS4 := hide (Rst.below hb4 hs3)
  have HK4 := hide (HK3.out.below hb4)
  have HQ4 := hide (Below.blk hb4 hq3)
  have HD4 := hide (blk_new w3 (deObj nm way 0 0))
  clear hk3 hs3 hp3 hq3 hb4 HD2 HK2 HQ2 HK3
  go_wp2_with fail
  generalize hw4 : w3.alloc (.cells #[.string nm, .int .i64 way, .int .i64 0, .int .i64 0] 64) = w4 at *
  generalize w3.heap.size = D at *
  obtain ⟨Y, hY⟩ : ∃ Y, Y = ((nameP ts (k + 1)).bind fun s k1 => (wantP ts [58] k1).bind fun _ k2 => Res.ok s k2) := ⟨_, rfl⟩
  rw [← hY] at HWY
  have HYN : Hid (∀ s k2, Y = .ok s k2 → s = nm) := hide fun s k2 e => by
    rw [hY] at e
    obtain ⟨k1, h1⟩ := must_inv e
    exact HP3.out s k1 h1
  refine (rneed_at [58] (by decide) HS4.out).mono ?_
  rintro e w5 ⟨rfl, hs5, hk5⟩
  have HS5 := hide hs5
  clear hs5
  have HK5 := hide (HK4.out.trans hk5)
  have HQ5 := hide (hk5.blk HQ4.out (show w.heap.size ≠ R by omega))
  have HD5 := hide (hk5.blk HD4.out (show D ≠ R by omega))
  clear hk5
  have HS5 : Hid (Rst w5 R T ts Y.un) := hide (by rw [hY, un_must]; exact HS5.out)
  clear hY
  obtain ⟨d0, d1, d2, d3⟩ := de_cells HD5.out
  have df := blk_frozen HD5.out
  go_wp2_with fail
  have HD6 : Hid ((w5.setCell ⟨D, 2, none⟩ (.int .i64 2)).heap[D]? = some (deObj nm way 2 0)) := hide (by rw [blk_set HD5.out 2 _]; rfl)
  have HQ6 := hide ((set_other w5 2 (.int .i64 2) (show w.heap.size ≠ D by omega)).trans HQ5.out)
  have HS6 := hide (HS5.out.set (S := D) 2 (.int .i64 2) (by omega) (by omega) (by omega))
  have HK6 := hide (HK5.out.new (S := D) 2 (.int .i64 2) (by omega))
  clear d0 d1 d2 d3 df
  generalize w5.setCell ⟨D, 2, none⟩ (.int .i64 2) = w6 at *
  cases hbl : seeB ts [98, 111, 111, 108] Y.un with
  | true =>
    obtain ⟨k2, hyk, hbo⟩ := see_ok hbl
    obtain ⟨s, hys⟩ : ∃ s, Y = .ok s k2 := by
      cases Y with
      | out => cases hyk
      | bad => cases hyk
      | ok s k' => exact ⟨s, by injection hyk with h1 h2; rw [h2]⟩
    have hsn := HYN.out s k2 hys
    subst hsn
    rw [hyk] at HS6
    rw [hys] at HWY
    have HK1 : Hid (kindP ts k2 = .ok 1 (k2 + 1)) := hide (by simp only [kindP, hbo, if_true])
    have HWY : Hid (whole = (if way ≠ 1 then firstP ts 1 (k2 + 1) else .ok 0 (k2 + 1)).bind fun n k4 => (wantP ts [59] k4).bind fun _ k5 => .ok (⟨s, way, 1, n⟩ : De) k5) := hide (by rw [HWY.out, Res.bind_ok, HK1.out, Res.bind_ok])
    refine (ryes_at [98, 111, 111, 108] (by decide) HS6.out.good hbo).mono ?_
    rintro e w7 ⟨rfl, hs7, hk7⟩
    have HS7 : Hid (Rst w7 R T ts (.ok () (k2 + 1))) := hide hs7
    clear hs7
    have HK7 := hide (HK6.out.trans hk7)
    have HQ7 := hide (hk7.blk HQ6.out (show w.heap.size ≠ R by omega))
    have HD7 := hide (hk7.blk HD6.out (show D ≠ R by omega))
    clear hk7
    obtain ⟨d0, d1, d2, d3⟩ := de_cells HD7.out
    have df := blk_frozen HD7.out
    by_cases hw1 : way = 1
    · subst hw1
      go_wp2_with fail
      have HD8 : Hid ((w7.setCell ⟨D, 2, none⟩ (.int .i64 1)).heap[D]? = some (deObj s 1 1 0)) := hide (by rw [blk_set HD7.out 2 _]; rfl)
      have HQ8 := hide ((set_other w7 2 (.int .i64 1) (show w.heap.size ≠ D by omega)).trans HQ7.out)
      have HS8 := hide (HS7.out.set (S := D) 2 (.int .i64 1) (by omega) (by omega) (by omega))
      have HK8 := hide (HK7.out.new (S := D) 2 (.int .i64 1) (by omega))
      clear d0 d1 d2 d3 df
      generalize w7.setCell ⟨D, 2, none⟩ (.int .i64 1) = w8 at *
      have HW2 : Hid (whole = (Res.ok (⟨s, 1, 1, 0⟩ : De) (k2 + 1)).bind fun d k1 => (wantP ts [59] k1).bind fun _ k2 => .ok d k2) := hide (by
        rw [HWY.out, if_neg (by decide), Res.bind_ok]; rfl)
      have HSX : Hid (Rst w8 R T ts (Res.ok (⟨s, 1, 1, 0⟩ : De) (k2 + 1)).un) := hide (by
        exact HS8.out)
      refine (rneed_at [59] (by decide) HSX.out).mono ?_
      rintro e z8 ⟨rfl, hs8, hk8⟩
      have ZS := hide hs8
      have ZK := hide (HK8.out.trans hk8)
      have zq := hk8.blk HQ8.out (show w.heap.size ≠ R by omega)
      obtain ⟨q0, q1, q2, q3⟩ := de_cells zq
      have qf := blk_frozen zq
      obtain ⟨e0, e1, e2, e3⟩ := de_cells (hk8.blk HD8.out (show D ≠ R by omega))
      clear hs8 hk8 zq
      generalize hQQ : w.heap.size = Q at *
      go_wp2_with fail
      refine bodyPost_ret (v := .tuple #[.agg #[.string s, .int .i64 1, .int .i64 1, .int .i64 0], .bool true]) (by simp [results, Tryz.results41, go_sem, q0, q1, q2, q3]) rfl ?_
      refine ⟨_, rfl, (((ZK.out.new 0 _ (by omega)).new 1 _ (by omega)).new 2 _ (by omega)).new 3 _ (by omega), ?_, _, rfl, ⟨_, _, _, _, rfl⟩, fun d k' e => ?_⟩
      · rw [HW2.out, un_must]
        exact (((ZS.out.set (S := Q) 0 _ (by omega) (by omega) (by omega)).set (S := Q) 1 _ (by omega) (by omega) (by omega)).set (S := Q) 2 _ (by omega) (by omega) (by omega)).set (S := Q) 3 _ (by omega) (by omega) (by omega)
      · obtain ⟨k1, hx⟩ := must_inv (HW2.out.symm.trans e)
        cases hx
        rfl
    · have hwn : ((way : Int) != 1) = true := by rw [bne_iff_ne]; omega
      go_wp2_with fail
      have HD8 : Hid ((w7.setCell ⟨D, 2, none⟩ (.int .i64 1)).heap[D]? = some (deObj s way 1 0)) := hide (by rw [blk_set HD7.out 2 _]; rfl)
      have HQ8 := hide ((set_other w7 2 (.int .i64 1) (show w.heap.size ≠ D by omega)).trans HQ7.out)
      have HS8 := hide (HS7.out.set (S := D) 2 (.int .i64 1) (by omega) (by omega) (by omega))
      have HK8 := hide (HK7.out.new (S := D) 2 (.int .i64 1) (by omega))
      clear d0 d1 d2 d3 df
      generalize w7.setCell ⟨D, 2, none⟩ (.int .i64 1) = w8 at *
      cases heq : (tx ts (k2 + 1) == [61]) with
      | false =>
        have heq' : seeB ts [61] (.ok () (k2 + 1)) = false := heq
        refine (rno_at [61] (by decide) HS8.out heq').mono ?_
        rintro e w9 ⟨rfl, hs9, hk9⟩
        have HS9 := hide hs9
        clear hs9
        have HK9 := hide (HK8.out.trans hk9)
        have HQ9 := hide (hk9.blk HQ8.out (show w.heap.size ≠ R by omega))
        have HD9 := hide (hk9.blk HD8.out (show D ≠ R by omega))
        clear hk9
        go_wp2_with fail
        have HW2 : Hid (whole = (Res.ok (⟨s, way, 1, 0⟩ : De) (k2 + 1)).bind fun d k1 => (wantP ts [59] k1).bind fun _ k2 => .ok d k2) := hide (by
          rw [HWY.out, if_pos hw1]
          simp only [firstP, heq, Bool.false_eq_true, if_false, Res.bind_ok])
        have HSX : Hid (Rst w9 R T ts (Res.ok (⟨s, way, 1, 0⟩ : De) (k2 + 1)).un) := hide (by
          exact HS9.out)
        refine (rneed_at [59] (by decide) HSX.out).mono ?_
        rintro e z8 ⟨rfl, hs8, hk8⟩
        have ZS := hide hs8
        have ZK := hide (HK9.out.trans hk8)
        have zq := hk8.blk HQ9.out (show w.heap.size ≠ R by omega)
        obtain ⟨q0, q1, q2, q3⟩ := de_cells zq
        have qf := blk_frozen zq
        obtain ⟨e0, e1, e2, e3⟩ := de_cells (hk8.blk HD9.out (show D ≠ R by omega))
        clear hs8 hk8 zq
        generalize hQQ : w.heap.size = Q at *
        go_wp2_with fail
        refine bodyPost_ret (v := .tuple #[.agg #[.string s, .int .i64 way, .int .i64 1, .int .i64 0], .bool true]) (by simp [results, Tryz.results41, go_sem, q0, q1, q2, q3]) rfl ?_
        refine ⟨_, rfl, (((ZK.out.new 0 _ (by omega)).new 1 _ (by omega)).new 2 _ (by omega)).new 3 _ (by omega), ?_, _, rfl, ⟨_, _, _, _, rfl⟩, fun d k' e => ?_⟩
        · rw [HW2.out, un_must]
          exact (((ZS.out.set (S := Q) 0 _ (by omega) (by omega) (by omega)).set (S := Q) 1 _ (by omega) (by omega) (by omega)).set (S := Q) 2 _ (by omega) (by omega) (by omega)).set (S := Q) 3 _ (by omega) (by omega) (by omega)
        · obtain ⟨k1, hx⟩ := must_inv (HW2.out.symm.trans e)
          cases hx
          rfl
      | true =>
        refine (ryes_at [61] (by decide) HS8.out.good heq).mono ?_
        rintro e w9 ⟨rfl, hs9, hk9⟩
        have HS9 : Hid (Rst w9 R T ts (.ok () ((k2 + 1) + 1))) := hide hs9
        clear hs9
        have HK9 := hide (HK8.out.trans hk9)
        have HQ9 := hide (hk9.blk HQ8.out (show w.heap.size ≠ R by omega))
        have HD9 := hide (hk9.blk HD8.out (show D ≠ R by omega))
        clear hk9
        obtain ⟨d0, d1, d2, d3⟩ := de_cells HD9.out
        have df := blk_frozen HD9.out
        go_wp2_with fail
        cases htr : (tx ts (k2 + 1 + 1) == [116, 114, 117, 101]) with
        | true =>
          clear d0 d1 d2 d3 df
          refine (ryes_at [116, 114, 117, 101] (by decide) HS9.out.good htr).mono ?_
          rintro e w10 ⟨rfl, hs10, hk10⟩
          have HS10 : Hid (Rst w10 R T ts (.ok () ((k2 + 1 + 1) + 1))) := hide hs10
          clear hs10
          have HK10 := hide (HK9.out.trans hk10)
          have HQ10 := hide (hk10.blk HQ9.out (show w.heap.size ≠ R by omega))
          have HD10 := hide (hk10.blk HD9.out (show D ≠ R by omega))
          clear hk10
          obtain ⟨d0, d1, d2, d3⟩ := de_cells HD10.out
          have df := blk_frozen HD10.out
          go_wp2_with fail
          have HD11 : Hid ((w10.setCell ⟨D, 3, none⟩ (.int .i64 1)).heap[D]? = some (deObj s way 1 1)) := hide (by rw [blk_set HD10.out 3 _]; rfl)
          have HQ11 := hide ((set_other w10 3 (.int .i64 1) (show w.heap.size ≠ D by omega)).trans HQ10.out)
          have HS11 := hide (HS10.out.set (S := D) 3 (.int .i64 1) (by omega) (by omega) (by omega))
          have HK11 := hide (HK10.out.new (S := D) 3 (.int .i64 1) (by omega))
          clear d0 d1 d2 d3 df
          generalize w10.setCell ⟨D, 3, none⟩ (.int .i64 1) = w11 at *
          have HW2 : Hid (whole = (Res.ok (⟨s, way, 1, 1⟩ : De) (k2 + 1 + 1 + 1)).bind fun d k1 => (wantP ts [59] k1).bind fun _ k2 => .ok d k2) := hide (by
            rw [HWY.out, if_pos hw1]
            simp only [firstP, heq, htr, if_true, show ¬ (1 : Nat) = 2 by decide, if_false, Res.bind_ok])
          have HSX : Hid (Rst w11 R T ts (Res.ok (⟨s, way, 1, 1⟩ : De) (k2 + 1 + 1 + 1)).un) := hide (by
            exact HS11.out)
          refine (rneed_at [59] (by decide) HSX.out).mono ?_
          rintro e z8 ⟨rfl, hs8, hk8⟩
          have ZS := hide hs8
          have ZK := hide (HK11.out.trans hk8)
          have zq := hk8.blk HQ11.out (show w.heap.size ≠ R by omega)
          obtain ⟨q0, q1, q2, q3⟩ := de_cells zq
          have qf := blk_frozen zq
          obtain ⟨e0, e1, e2, e3⟩ := de_cells (hk8.blk HD11.out (show D ≠ R by omega))
          clear hs8 hk8 zq
          generalize hQQ : w.heap.size = Q at *
          go_wp2_with fail
          refine bodyPost_ret (v := .tuple #[.agg #[.string s, .int .i64 way, .int .i64 1, .int .i64 1], .bool true]) (by simp [results, Tryz.results41, go_sem, q0, q1, q2, q3]) rfl ?_
          refine ⟨_, rfl, (((ZK.out.new 0 _ (by omega)).new 1 _ (by omega)).new 2 _ (by omega)).new 3 _ (by omega), ?_, _, rfl, ⟨_, _, _, _, rfl⟩, fun d k' e => ?_⟩
          · rw [HW2.out, un_must]
            exact (((ZS.out.set (S := Q) 0 _ (by omega) (by omega) (by omega)).set (S := Q) 1 _ (by omega) (by omega) (by omega)).set (S := Q) 2 _ (by omega) (by omega) (by omega)).set (S := Q) 3 _ (by omega) (by omega) (by omega)
          · obtain ⟨k1, hx⟩ := must_inv (HW2.out.symm.trans e)
            cases hx
            rfl
        | false =>
          have htr' : seeB ts [116, 114, 117, 101] (.ok () (k2 + 1 + 1)) = false := htr
          clear d0 d1 d2 d3 df
          refine (rno_at [116, 114, 117, 101] (by decide) HS9.out htr').mono ?_
          rintro e w10 ⟨rfl, hs10, hk10⟩
          have HS10 := hide hs10
          clear hs10
          have HK10 := hide (HK9.out.trans hk10)
          have HQ10 := hide (hk10.blk HQ9.out (show w.heap.size ≠ R by omega))
          have HD10 := hide (hk10.blk HD9.out (show D ≠ R by omega))
          clear hk10
          go_wp2_with fail
          refine (rneed_at [102, 97, 108, 115, 101] (by decide) HS10.out).mono ?_
          rintro e w11 ⟨rfl, hs11, hk11⟩
          have HS11 := hide hs11
          clear hs11
          have HK11 := hide (HK10.out.trans hk11)
          have HQ11 := hide (hk11.blk HQ10.out (show w.heap.size ≠ R by omega))
          have HD11 := hide (hk11.blk HD10.out (show D ≠ R by omega))
          clear hk11
          go_wp2_with fail
          have HW2 : Hid (whole = ((wantP ts [102, 97, 108, 115, 101] (k2 + 1 + 1)).bind fun _ k => Res.ok (⟨s, way, 1, 0⟩ : De) k).bind fun d k1 => (wantP ts [59] k1).bind fun _ k2 => .ok d k2) := hide (by
            rw [HWY.out, if_pos hw1]
            simp only [firstP, heq, htr, if_true, show ¬ (1 : Nat) = 2 by decide, if_false, Bool.false_eq_true, Res.bind_assoc, Res.bind_ok])
          have HSX : Hid (Rst w11 R T ts ((wantP ts [102, 97, 108, 115, 101] (k2 + 1 + 1)).bind fun _ k => Res.ok (⟨s, way, 1, 0⟩ : De) k).un) := hide (by
            rw [un_ok (wantP ts [102, 97, 108, 115, 101] (k2 + 1 + 1)) (fun _ => (⟨s, way, 1, 0⟩ : De)), un_unit]
            exact HS11.out)
          refine (rneed_at [59] (by decide) HSX.out).mono ?_
          rintro e z8 ⟨rfl, hs8, hk8⟩
          have ZS := hide hs8
          have ZK := hide (HK11.out.trans hk8)
          have zq := hk8.blk HQ11.out (show w.heap.size ≠ R by omega)
          obtain ⟨q0, q1, q2, q3⟩ := de_cells zq
          have qf := blk_frozen zq
          obtain ⟨e0, e1, e2, e3⟩ := de_cells (hk8.blk HD11.out (show D ≠ R by omega))
          clear hs8 hk8 zq
          generalize hQQ : w.heap.size = Q at *
          go_wp2_with fail
          refine bodyPost_ret (v := .tuple #[.agg #[.string s, .int .i64 way, .int .i64 1, .int .i64 0], .bool true]) (by simp [results, Tryz.results41, go_sem, q0, q1, q2, q3]) rfl ?_
          refine ⟨_, rfl, (((ZK.out.new 0 _ (by omega)).new 1 _ (by omega)).new 2 _ (by omega)).new 3 _ (by omega), ?_, _, rfl, ⟨_, _, _, _, rfl⟩, fun d k' e => ?_⟩
          · rw [HW2.out, un_must]
            exact (((ZS.out.set (S := Q) 0 _ (by omega) (by omega) (by omega)).set (S := Q) 1 _ (by omega) (by omega) (by omega)).set (S := Q) 2 _ (by omega) (by omega) (by omega)).set (S := Q) 3 _ (by omega) (by omega) (by omega)
          · obtain ⟨k1, hx⟩ := must_inv (HW2.out.symm.trans e)
            obtain ⟨u, _, rfl⟩ := ok_inv (g := fun _ : Unit => (⟨s, way, 1, 0⟩ : De)) hx
            rfl
  | false =>
    refine (rno_at [98, 111, 111, 108] (by decide) HS6.out hbl).mono ?_
    rintro e w7 ⟨rfl, hs7, hk7⟩
    have HS7 := hide hs7
    clear hs7
    have HK7 := hide (HK6.out.trans hk7)
    have HQ7 := hide (hk7.blk HQ6.out (show w.heap.size ≠ R by omega))
    have HD7 := hide (hk7.blk HD6.out (show D ≠ R by omega))
    clear hk7
    go_wp2_with fail
    refine (rneed_at [98, 121, 116, 101] (by decide) HS7.out).mono ?_
    rintro e w8 ⟨rfl, hs8, hk8⟩
    have HS8 := hide hs8
    clear hs8
    have HK8 := hide (HK7.out.trans hk8)
    have HQ8 := hide (hk8.blk HQ7.out (show w.heap.size ≠ R by omega))
    have HD8 := hide (hk8.blk HD7.out (show D ≠ R by omega))
    clear hk8
    obtain ⟨Z, hZ⟩ : ∃ Z, Z = (Y.bind fun s k1 => (wantP ts [98, 121, 116, 101] k1).bind fun _ k2 => Res.ok s k2) := ⟨_, rfl⟩
    have HZN : Hid (∀ s k2, Z = .ok s k2 → s = nm) := hide fun s k2 e => by
      rw [hZ] at e
      obtain ⟨k1, h1⟩ := must_inv e
      exact HYN.out s k1 h1
    have HS8 : Hid (Rst w8 R T ts Z.un) := hide (by rw [hZ, un_must]; exact HS8.out)
    have HWY : Hid (whole = Z.bind fun s k3 => (if way ≠ 1 then firstP ts 2 k3 else .ok 0 k3).bind fun n k4 => (wantP ts [59] k4).bind fun _ k5 => .ok (⟨s, way, 2, n⟩ : De) k5) := hide (by
      rw [HWY.out, hZ, Res.bind_assoc]
      refine Res.bind_congr _ fun s k2 e => ?_
      rw [e] at hbl
      have hbl : (tx ts k2 == [98, 111, 111, 108]) = false := hbl
      simp only [kindP, hbl, Bool.false_eq_true, if_false, Res.bind_assoc, Res.bind_ok])
    clear hZ
    by_cases hw1 : way = 1
    · subst hw1
      go_wp2_with fail
      have HW2 : Hid (whole = (Z.bind fun s k3 => Res.ok (⟨s, 1, 2, 0⟩ : De) k3).bind fun d k1 => (wantP ts [59] k1).bind fun _ k2 => .ok d k2) := hide (by
        rw [HWY.out, Res.bind_assoc]
        refine Res.bind_congr _ fun s k3 e => ?_
        rw [if_neg (by decide), Res.bind_ok]
        rfl)
      have HSX : Hid (Rst w8 R T ts (Z.bind fun s k3 => Res.ok (⟨s, 1, 2, 0⟩ : De) k3).un) := hide (by
        rw [un_ok Z (fun s => (⟨s, 1, 2, 0⟩ : De))]
        exact HS8.out)
      refine (rneed_at [59] (by decide) HSX.out).mono ?_
      rintro e z8 ⟨rfl, hs8, hk8⟩
      have ZS := hide hs8
      have ZK := hide (HK8.out.trans hk8)
      have zq := hk8.blk HQ8.out (show w.heap.size ≠ R by omega)
      obtain ⟨q0, q1, q2, q3⟩ := de_cells zq
      have qf := blk_frozen zq
      obtain ⟨e0, e1, e2, e3⟩ := de_cells (hk8.blk HD8.out (show D ≠ R by omega))
      clear hs8 hk8 zq
      generalize hQQ : w.heap.size = Q at *
      go_wp2_with fail
      refine bodyPost_ret (v := .tuple #[.agg #[.string nm, .int .i64 1, .int .i64 2, .int .i64 0], .bool true]) (by simp [results, Tryz.results41, go_sem, q0, q1, q2, q3]) rfl ?_
      refine ⟨_, rfl, (((ZK.out.new 0 _ (by omega)).new 1 _ (by omega)).new 2 _ (by omega)).new 3 _ (by omega), ?_, _, rfl, ⟨_, _, _, _, rfl⟩, fun d k' e => ?_⟩
      · rw [HW2.out, un_must]
        exact (((ZS.out.set (S := Q) 0 _ (by omega) (by omega) (by omega)).set (S := Q) 1 _ (by omega) (by omega) (by omega)).set (S := Q) 2 _ (by omega) (by omega) (by omega)).set (S := Q) 3 _ (by omega) (by omega) (by omega)
      · obtain ⟨k1, hx⟩ := must_inv (HW2.out.symm.trans e)
        obtain ⟨s, hs, rfl⟩ := ok_inv (g := fun s => (⟨s, 1, 2, 0⟩ : De)) hx
        rw [HZN.out s _ hs]
        rfl
    · have hwn : ((way : Int) != 1) = true := by rw [bne_iff_ne]; omega
      go_wp2_with fail
      cases heq : seeB ts [61] Z.un with
      | false =>
        refine (rno_at [61] (by decide) HS8.out heq).mono ?_
        rintro e w9 ⟨rfl, hs9, hk9⟩
        have HS9 := hide hs9
        clear hs9
        have HK9 := hide (HK8.out.trans hk9)
        have HQ9 := hide (hk9.blk HQ8.out (show w.heap.size ≠ R by omega))
        have HD9 := hide (hk9.blk HD8.out (show D ≠ R by omega))
        clear hk9
        go_wp2_with fail
        have HW2 : Hid (whole = (Z.bind fun s k3 => Res.ok (⟨s, way, 2, 0⟩ : De) k3).bind fun d k1 => (wantP ts [59] k1).bind fun _ k2 => .ok d k2) := hide (by
          rw [HWY.out, Res.bind_assoc]
          refine Res.bind_congr _ fun s k3 e => ?_
          rw [e] at heq
          have heq : (tx ts k3 == [61]) = false := heq
          rw [if_pos hw1]
          simp only [firstP, heq, Bool.false_eq_true, if_false, Res.bind_ok])
        have HSX : Hid (Rst w9 R T ts (Z.bind fun s k3 => Res.ok (⟨s, way, 2, 0⟩ : De) k3).un) := hide (by
          rw [un_ok Z (fun s => (⟨s, way, 2, 0⟩ : De))]
          exact HS9.out)
        refine (rneed_at [59] (by decide) HSX.out).mono ?_
        rintro e z8 ⟨rfl, hs8, hk8⟩
        have ZS := hide hs8
        have ZK := hide (HK9.out.trans hk8)
        have zq := hk8.blk HQ9.out (show w.heap.size ≠ R by omega)
        obtain ⟨q0, q1, q2, q3⟩ := de_cells zq
        have qf := blk_frozen zq
        obtain ⟨e0, e1, e2, e3⟩ := de_cells (hk8.blk HD9.out (show D ≠ R by omega))
        clear hs8 hk8 zq
        generalize hQQ : w.heap.size = Q at *
        go_wp2_with fail
        refine bodyPost_ret (v := .tuple #[.agg #[.string nm, .int .i64 way, .int .i64 2, .int .i64 0], .bool true]) (by simp [results, Tryz.results41, go_sem, q0, q1, q2, q3]) rfl ?_
        refine ⟨_, rfl, (((ZK.out.new 0 _ (by omega)).new 1 _ (by omega)).new 2 _ (by omega)).new 3 _ (by omega), ?_, _, rfl, ⟨_, _, _, _, rfl⟩, fun d k' e => ?_⟩
        · rw [HW2.out, un_must]
          exact (((ZS.out.set (S := Q) 0 _ (by omega) (by omega) (by omega)).set (S := Q) 1 _ (by omega) (by omega) (by omega)).set (S := Q) 2 _ (by omega) (by omega) (by omega)).set (S := Q) 3 _ (by omega) (by omega) (by omega)
        · obtain ⟨k1, hx⟩ := must_inv (HW2.out.symm.trans e)
          obtain ⟨s, hs, rfl⟩ := ok_inv (g := fun s => (⟨s, way, 2, 0⟩ : De)) hx
          rw [HZN.out s _ hs]
          rfl
      | true =>
        obtain ⟨k3, hyk, hbo⟩ := see_ok heq
        obtain ⟨s, hys⟩ : ∃ s, Z = .ok s k3 := by
          cases Z with
          | out => cases hyk
          | bad => cases hyk
          | ok s k' => exact ⟨s, by injection hyk with h1 h2; rw [h2]⟩
        have hsn := HZN.out s k3 hys
        subst hsn
        rw [hyk] at HS8
        rw [hys] at HWY
        refine (ryes_at [61] (by decide) HS8.out.good hbo).mono ?_
        rintro e w9 ⟨rfl, hs9, hk9⟩
        have HS9 : Hid (Rst w9 R T ts (.ok () (k3 + 1))) := hide hs9
        clear hs9
        have HK9 := hide (HK8.out.trans hk9)
        have HQ9 := hide (hk9.blk HQ8.out (show w.heap.size ≠ R by omega))
        have HD9 := hide (hk9.blk HD8.out (show D ≠ R by omega))
        clear hk9
        obtain ⟨d0, d1, d2, d3⟩ := de_cells HD9.out
        have df := blk_frozen HD9.out
        go_wp2_with fail
        refine (rbyte_at HS9.out.good).mono ?_
        rintro e w10 ⟨hk10, hs10, v10, rfl, ⟨n10, rfl⟩, hp10⟩
        have HS10 := hide hs10
        have HP10 := hide hp10
        clear hs10 hp10 d0 d1 d2 d3 df
        have HK10 := hide (HK9.out.trans hk10)
        have HQ10 := hide (hk10.blk HQ9.out (show w.heap.size ≠ R by omega))
        have HD10 := hide (hk10.blk HD9.out (show D ≠ R by omega))
        clear hk10
        obtain ⟨d0, d1, d2, d3⟩ := de_cells HD10.out
        have df := blk_frozen HD10.out
        go_wp2_with fail
        have HD11 : Hid ((w10.setCell ⟨D, 3, none⟩ (.int .i64 n10)).heap[D]? = some (deObj s way 2 n10)) := hide (by rw [blk_set HD10.out 3 _]; rfl)
        have HQ11 := hide ((set_other w10 3 (.int .i64 n10) (show w.heap.size ≠ D by omega)).trans HQ10.out)
        have HS11 := hide (HS10.out.set (S := D) 3 (.int .i64 n10) (by omega) (by omega) (by omega))
        have HK11 := hide (HK10.out.new (S := D) 3 (.int .i64 n10) (by omega))
        clear d0 d1 d2 d3 df
        generalize w10.setCell ⟨D, 3, none⟩ (.int .i64 n10) = w11 at *
        have HW2 : Hid (whole = ((byteP ts (k3 + 1)).bind fun n k => Res.ok (⟨s, way, 2, n⟩ : De) k).bind fun d k1 => (wantP ts [59] k1).bind fun _ k2 => .ok d k2) := hide (by
          rw [HWY.out, Res.bind_ok, if_pos hw1]
          simp only [firstP, hbo, if_true, Res.bind_assoc, Res.bind_ok])
        have HSX : Hid (Rst w11 R T ts ((byteP ts (k3 + 1)).bind fun n k => Res.ok (⟨s, way, 2, n⟩ : De) k).un) := hide (by
          rw [un_ok (byteP ts (k3 + 1)) (fun n => (⟨s, way, 2, n⟩ : De))]
          exact HS11.out)
        refine (rneed_at [59] (by decide) HSX.out).mono ?_
        rintro e z8 ⟨rfl, hs8, hk8⟩
        have ZS := hide hs8
        have ZK := hide (HK11.out.trans hk8)
        have zq := hk8.blk HQ11.out (show w.heap.size ≠ R by omega)
        obtain ⟨q0, q1, q2, q3⟩ := de_cells zq
        have qf := blk_frozen zq
        obtain ⟨e0, e1, e2, e3⟩ := de_cells (hk8.blk HD11.out (show D ≠ R by omega))
        clear hs8 hk8 zq
        generalize hQQ : w.heap.size = Q at *
        go_wp2_with fail
        refine bodyPost_ret (v := .tuple #[.agg #[.string s, .int .i64 way, .int .i64 2, .int .i64 n10], .bool true]) (by simp [results, Tryz.results41, go_sem, q0, q1, q2, q3]) rfl ?_
        refine ⟨_, rfl, (((ZK.out.new 0 _ (by omega)).new 1 _ (by omega)).new 2 _ (by omega)).new 3 _ (by omega), ?_, _, rfl, ⟨_, _, _, _, rfl⟩, fun d k' e => ?_⟩
        · rw [HW2.out, un_must]
          exact (((ZS.out.set (S := Q) 0 _ (by omega) (by omega) (by omega)).set (S := Q) 1 _ (by omega) (by omega) (by omega)).set (S := Q) 2 _ (by omega) (by omega) (by omega)).set (S := Q) 3 _ (by omega) (by omega) (by omega)
        · obtain ⟨k1, hx⟩ := must_inv (HW2.out.symm.trans e)
          obtain ⟨n', hn', rfl⟩ := ok_inv (g := fun n => (⟨s, way, 2, n⟩ : De)) hx
          have := HP10.out n' _ hn'
          injection this with _ this
          rw [this]
          rfl
end Go.Proofs.YtlbgdoajaplabaaGreatDoor
