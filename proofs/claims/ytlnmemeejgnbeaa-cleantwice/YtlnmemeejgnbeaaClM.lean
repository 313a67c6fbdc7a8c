/-
  A MAKER IN MEMORY: its map of nodes, its row of nodes.
-/
import Derived.Laws.StructEq
import Derived.Test.YtlnmemeejgnbeaaGMem
import Derived.Test.YtlnmemeejgnbeaaClP
set_option linter.unusedSimpArgs false
set_option linter.unusedVariables false
namespace Go.Proofs.Ytlnmemeejgnbeaa
open Go.RowKit

def ndV (x : Nd) : Value := .agg #[.int .i64 x.op, .int .i64 x.a, .int .i64 x.b, .int .i64 x.next]
theorem beq_dec (a b : Int) : (a == b) = decide (a = b) := by
  by_cases h : a = b <;> simp [h]
theorem eq_nd (x y : Nd) (w : World) : (Op.equal 26 (ndV x) (ndV y)).run Try.prog w = .ok (eqN x y) w := by
  have h := run_equalIn_struct (P := Try.prog) w 9999 26 #[.int .i64 x.op, .int .i64 x.a, .int .i64 x.b, .int .i64 x.next] #[.int .i64 y.op, .int .i64 y.a, .int .i64 y.b, .int .i64 y.next] (by kernel_rfl) (by kernel_rfl)
  show (Op.equalIn 10000 26 (ndV x) (ndV y)).run Try.prog w = _
  rw [show (10000 : Nat) = 9999 + 1 from rfl]
  unfold ndV
  rw [h]
  by_cases h1 : x.op = y.op <;> by_cases h2 : x.a = y.a <;> by_cases h3 : x.b = y.b <;> by_cases h4 : x.next = y.next <;> simp [Op.eqFields, go_sem, eqN, h1, h2, h3, h4]
theorem key_nd (b : Bool) (x : Nd) (w : World) : (Instr.checkKey b 10000 26 (ndV x)).run Try.prog w = .ok () w := by
  have one : ∀ (n : Nat) (v : Int) (w : World), (Instr.checkKey b (n + 1) 3 (.int .i64 v)).run Try.prog w = .ok () w := by
    intro n v w
    unfold Instr.checkKey
    simp [go_sem]
  show (Instr.checkKey b (9998 + 1 + 1) 26 (ndV x)).run Try.prog w = .ok () w
  unfold Instr.checkKey ndV
  simp [go_sem, one]
def mesN : Nat → List Nd → List MapEntry
  | _, [] => []
  | i, y :: l => ⟨ndV y, .int .i64 i, i⟩ :: mesN (i + 1) l
theorem mesN_len : ∀ (i : Nat) (l : List Nd), (mesN i l).length = l.length
  | _, [] => rfl
  | i, y :: l => by simp [mesN, mesN_len (i + 1) l]
theorem mesN_snoc (x : Nd) : ∀ (i : Nat) (l : List Nd), mesN i (l ++ [x]) = mesN i l ++ [⟨ndV x, .int .i64 (i + l.length : Nat), i + l.length⟩]
  | i, [] => by simp [mesN]
  | i, y :: l => by
    simp only [List.cons_append, mesN, mesN_snoc x (i + 1) l, List.length_cons]
    rw [show i + 1 + l.length = i + (l.length + 1) by omega]
theorem ask_nd (x : Nd) (w : World) : ∀ (i : Nat) (l : List Nd), (Instr.findAsking 26 (ndV x) (mesN i l) i).run Try.prog w = .ok ((findN l x i).map fun k => (k, Value.int .i64 k)) w
  | i, [] => by simp [mesN, Instr.findAsking, findN, go_sem]
  | i, y :: l => by
    have h1 := eq_nd x y w
    have h2 := ask_nd x w (i + 1) l
    have h3 : eqN x y = eqN y x := by
      by_cases h : x = y
      · subst h; rfl
      · have e1 : eqN x y = false := by
          cases he : eqN x y
          · rfl
          · exact absurd (eqN_iff.1 he) h
        have e2 : eqN y x = false := by
          cases he : eqN y x
          · rfl
          · exact absurd (eqN_iff.1 he).symm h
        rw [e1, e2]
    simp only [mesN, Instr.findAsking, findN, Sem.run_bind, h1, Result.andThen_ok, h3]
    cases eqN y x
    · simpa using h2
    · simp [go_sem]
theorem findNow_nd (x : Nd) (l : List Nd) (hl : l ≠ []) (fs : Array Field) (i j : Nat) : Instr.findNow (.struct fs) (ndV x) (mesN i l) j = none := by
  cases l with
  | nil => exact absurd rfl hl
  | cons y l => simp [mesN, Instr.findNow, Instr.sameNow, ndV]
theorem und_nd : Try.prog.underlying 26 = some (.struct (Try.prog.fieldsOf 26)) := by kernel_rfl
theorem findKey_nd (x : Nd) (l : List Nd) (w : World) : (Instr.findKey 26 (ndV x) (mesN 0 l)).run Try.prog w = .ok ((findN l x 0).map fun k => (k, Value.int .i64 k)) w := by
  have h1 := ask_nd x w 0 l
  simp only [Instr.findKey, Sem.run_bind, run_underlying und_nd, Result.andThen_ok]
  by_cases hl : l = []
  · subst hl
    simp [mesN, Instr.findNow, findN, go_sem]
  · rw [findNow_nd x l hl]
    exact h1
/-- a map of nodes, in memory -/
def MapN (w : World) (M : Nat) (l : List Nd) : Prop := w.heap[M]? = some (.map (mesN 0 l).toArray l.length)
theorem look_nd {w : World} {M : Nat} {l : List Nd} (h : MapN w M l) (x : Nd) :
    (Instr.lookup 61 (.map (some M)) (ndV x) true).run Try.prog w = .ok (.tuple #[.int .i64 ((findN l x 0).getD 0 : Nat), .bool (findN l x 0).isSome]) w := by
  have h1 := fun b => key_nd b x w
  have h2 : (getObj M).run Try.prog w = .ok (.map (mesN 0 l).toArray l.length) w := by simp only [getObj, Sem.run, show w.heap[M]? = _ from h]
  have h3 := findKey_nd x l w
  cases hf : findN l x 0 with
  | none =>
    rw [hf] at h3
    simp [Instr.lookup, go_sem, h1, h2, h3]
  | some k =>
    rw [hf] at h3
    simp [Instr.lookup, go_sem, h1, h2, h3]
def putObj (w : World) (r : Nat) (o : Obj) : World := { w with heap := w.heap.setIfInBounds r o }
theorem putObj_same {w : World} {r : Nat} {o : Obj} (h : r < w.heap.size) : (putObj w r o).heap[r]? = some o := by simp [putObj, h]
theorem putObj_other {w : World} {r k : Nat} {o : Obj} (h : k ≠ r) : (putObj w r o).heap[k]? = w.heap[k]? := by
  show (w.heap.setIfInBounds r o)[k]? = _
  rw [Array.getElem?_setIfInBounds_ne (by omega)]
theorem upd_nd {w : World} {M : Nat} {l : List Nd} (h : MapN w M l) (x : Nd) (hf : findN l x 0 = none) :
    (Instr.mapUpdate 61 (.map (some M)) (ndV x) (.int .i64 l.length)).run Try.prog w = .ok () (putObj w M (.map (mesN 0 (l ++ [x])).toArray (l ++ [x]).length)) := by
  have h1 := key_nd false x w
  have h0 : w.heap[M]? = some (.map (mesN 0 l).toArray l.length) := h
  have h2 : (getObj M).run Try.prog w = .ok (.map (mesN 0 l).toArray l.length) w := by simp only [getObj, Sem.run, h0]
  have h3 : ∀ o, (setObj M o).run Try.prog w = .ok () (putObj w M o) := fun o => by simp only [setObj, Sem.run, h0, putObj]
  have h4 := findKey_nd x l w
  rw [hf] at h4
  rw [mesN_snoc]
  simp [Instr.mapUpdate, go_sem, h1, h2, h3, h4]
end Go.Proofs.Ytlnmemeejgnbeaa
