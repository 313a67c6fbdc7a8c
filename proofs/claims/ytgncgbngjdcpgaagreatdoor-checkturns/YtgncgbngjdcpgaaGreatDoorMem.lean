/-
  MEMORY: what is told of a reader of tokens, and what a call of it leaves as it was.
-/
import Derived.WalkKit
import Derived.WalkSpells
import Derived.WalkLawsBesides
import Derived.Below
import Derived.BigRegion
import Derived.Deep.QuietTactic
import Derived.BigQuiet
import Derived.Test.YtgncgbngjdcpgaaGreatDoorSyn
import Derived.Test.YtgncgbngjdcpgaaGreatDoorProg
namespace Go.Proofs.YtgncgbngjdcpgaaGreatDoor
open Go.RowKit

theorem cell_lt {w : World} {a : Addr} {v : Value} (h : w.cell? a = some v) : a.block < w.heap.size := by
  by_cases hlt : a.block < w.heap.size
  · exact hlt
  · exfalso
    have : w.heap[a.block]? = none := by simp; omega
    simp [World.cell?, this] at h
theorem ret_bool {a b : Bool} (h : a = b) : Ending.returned (.bool a) = .returned (.bool b) := by rw [h]
theorem ret_int {a b : Int} (h : a = b) : Ending.returned (.int .i64 a) = .returned (.int .i64 b) := by rw [h]
theorem hide {p : Prop} (h : p) : Hid p := h
theorem blk_lt {w : World} {b : Nat} {o : Obj} (h : w.heap[b]? = some o) : b < w.heap.size := by
  by_cases hlt : b < w.heap.size
  · exact hlt
  · exfalso
    have : w.heap[b]? = none := by simp; omega
    rw [this] at h; cases h
theorem cell_alloc {w : World} {a : Addr} {v : Value} (h : w.cell? a = some v) (o : Obj) : (w.alloc o).cell? a = some v :=
  (World.cell?_of_block (w := w) (Below.heap_alloc w o a.block (cell_lt h))).trans h
theorem blk_cell {w : World} {b : Nat} {c : Array Value} {t : TypeId} {z : Nat × Nat} (h : w.heap[b]? = some (.cells c t z)) (i : Nat) : w.cell? ⟨b, i, none⟩ = c[i]? := by
  simp [World.cell?, h]
theorem blk_frozen {w : World} {b : Nat} {c : Array Value} {t : TypeId} (h : w.heap[b]? = some (.cells c t (0, 0))) (i : Nat) : w.frozen? ⟨b, i, none⟩ = false := by
  simp [World.frozen?, h]
theorem blk_new (w : World) (o : Obj) : (w.alloc o).heap[w.heap.size]? = some o := heap_alloc_new w o
theorem blk_set {w : World} {b : Nat} {c : Array Value} {t : TypeId} {z : Nat × Nat} (h : w.heap[b]? = some (.cells c t z)) (i : Nat) (v : Value) : (w.setCell ⟨b, i, none⟩ v).heap[b]? = some (.cells (c.setIfInBounds i v) t z) := by
  simp [World.setCell, Array.getElem?_modify, h]

/-- all blocks but one are as they were -/
structure Kept (R : Nat) (w w' : World) : Prop where
  os : w'.os = w.os
  tape : w'.tape = w.tape
  output : w'.output = w.output
  size : w.heap.size ≤ w'.heap.size
  block : ∀ k, k < w.heap.size → k ≠ R → w'.heap[k]? = w.heap[k]?

theorem Kept.refl (R : Nat) (w : World) : Kept R w w := ⟨rfl, rfl, rfl, Nat.le_refl _, fun _ _ _ => rfl⟩
theorem Kept.trans {R : Nat} {a b c : World} (h : Kept R a b) (k : Kept R b c) : Kept R a c :=
  ⟨k.os.trans h.os, k.tape.trans h.tape, k.output.trans h.output, Nat.le_trans h.size k.size, fun i hi hn => (k.block i (Nat.lt_of_lt_of_le hi h.size) hn).trans (h.block i hi hn)⟩
theorem Kept.of {R : Nat} {w w' : World} (h : Below w.heap.size w w') : Kept R w w' := ⟨h.os, h.tape, h.output, h.size, fun k hk _ => h.block k hk⟩
theorem Kept.set {R : Nat} (w : World) (i : Nat) (v : Value) : Kept R w (w.setCell ⟨R, i, none⟩ v) :=
  ⟨rfl, rfl, rfl, by simp [World.setCell], fun k _ hn => Below.heap_setCell w ⟨R, i, none⟩ v k hn⟩
theorem Kept.cell {R : Nat} {w w' : World} (h : Kept R w w') {a : Addr} {v : Value} (hc : w.cell? a = some v) (hn : a.block ≠ R) : w'.cell? a = some v :=
  (World.cell?_of_block (w := w) (h.block a.block (cell_lt hc) hn)).trans hc
theorem Kept.blk {R : Nat} {w w' : World} (h : Kept R w w') {b : Nat} {o : Obj} (hc : w.heap[b]? = some o) (hn : b ≠ R) : w'.heap[b]? = some o :=
  (h.block b (blk_lt hc) hn).trans hc
theorem Below.blk {w w' : World} (h : Below w.heap.size w w') {b : Nat} {o : Obj} (hc : w.heap[b]? = some o) : w'.heap[b]? = some o :=
  (h.block b (blk_lt hc)).trans hc
/-- two steps of new memory -/
theorem Below.step {a b c : World} (h : Below a.heap.size a b) (k : Below b.heap.size b c) : Below a.heap.size a c := h.trans (k.mono h.size)
theorem below_alloc (w : World) (o : Obj) : Below w.heap.size w (w.alloc o) := (Below.refl _ _).alloc (Nat.le_refl _) o

def strs (l : List (List UInt8)) : Array Value := (l.map fun s => Value.string ⟨s.toArray⟩).toArray

/-- a block's type and what of it is frozen, as they are -/
def vt (w : World) (g : Nat) : TypeId := match w.heap[g]? with | some (.cells _ t _) => t | _ => 0
def vz (w : World) (g : Nat) : Nat × Nat := match w.heap[g]? with | some (.cells _ _ z) => z | _ => (0, 0)
theorem vmk {w : World} {g : Nat} {c : Array Value} {t : TypeId} {z : Nat × Nat} (h : w.heap[g]? = some (.cells c t z)) : w.heap[g]? = some (.cells c (vt w g) (vz w g)) := by simp [vt, vz, h]

/-- the package's variables -/
structure Vars (w : World) : Prop where
  marks : w.heap[1]? = some (.cells (strs marksL) (vt w 1) (vz w 1))
  kept : w.heap[2]? = some (.cells (strs keptL) (vt w 2) (vz w 2))
  types : w.heap[4]? = some (.cells (strs [[], [98, 111, 111, 108], [98, 121, 116, 101], [116, 105, 109, 101, 114], [99, 111, 117, 110, 116, 101, 114], [101, 100, 103, 101]]) (vt w 4) (vz w 4))
  ways : w.heap[5]? = some (.cells (strs [[], [105, 110], [111, 117, 116], [118, 97, 114]]) (vt w 5) (vz w 5))

theorem Vars.kept_of {R : Nat} {w w' : World} (h : Vars w) (hb : Kept R w w') (hR : 8 ≤ R) : Vars w' :=
  ⟨vmk (hb.blk h.marks (by omega)), vmk (hb.blk h.kept (by omega)), vmk (hb.blk h.types (by omega)), vmk (hb.blk h.ways (by omega))⟩
theorem Vars.below {w w' : World} (h : Vars w) (hb : Below w.heap.size w w') : Vars w' :=
  ⟨vmk (Below.blk hb h.marks), vmk (Below.blk hb h.kept), vmk (Below.blk hb h.types), vmk (Below.blk hb h.ways)⟩

/-- a row of tokens -/
def TokRow (w : World) (T : Nat) (ts : List Tok) : Prop :=
  ∀ i, i < ts.length → w.cell? ⟨T, i * 3, none⟩ = some (.int .i64 (tk ts i).kind) ∧ w.cell? ⟨T, i * 3 + 1, none⟩ = some (.string (tk ts i).text) ∧ w.cell? ⟨T, i * 3 + 2, none⟩ = some (.int .i64 (tk ts i).pos)

/-- the end stands last, and alone has no letters -/
structure Fit (ts : List Tok) : Prop where
  next : ∀ i, i < ts.length → (tk ts i).kind ≠ 0 → i + 1 < ts.length
  none : ∀ i, i < ts.length → (tk ts i).kind = 0 → (tk ts i).text.toList = []
  len : ts.length ≤ 801
  small : ∀ i, i < ts.length → (tk ts i).text.size ≤ 1000000
  digits : ∀ i, i < ts.length → (tk ts i).kind = 2 → ∀ c ∈ (tk ts i).text.data.toList, 48 ≤ c.toNat ∧ c.toNat ≤ 57

/-- a reader, and the token that it reads next -/
structure Rd (w : World) (R T cap : Nat) (ts : List Tok) (k : Nat) : Prop where
  me : w.heap[R]? = some (.cells #[.slice (some ⟨T, 0, none⟩) ts.length cap, .int .i64 k] 145 (0, 0))
  row : TokRow w T ts
  ne : T ≠ R
  big : 8 ≤ R
  vars : Vars w
  lt : k < ts.length
  fit : Fit ts

theorem TokRow.lt {w : World} {T : Nat} {ts : List Tok} (h : TokRow w T ts) (hl : 0 < ts.length) : T < w.heap.size := cell_lt (h 0 hl).1

theorem TokRow.kept {w w' : World} {R T : Nat} {ts : List Tok} (h : TokRow w T ts) (hb : Kept R w w') (hn : T ≠ R) : TokRow w' T ts :=
  fun i hi => ⟨hb.cell (h i hi).1 hn, hb.cell (h i hi).2.1 hn, hb.cell (h i hi).2.2 hn⟩

theorem Rd.kept {w w' : World} {R T cap k k' : Nat} {ts : List Tok} (h : Rd w R T cap ts k) (hb : Kept R w w') (hm : w'.heap[R]? = some (.cells #[.slice (some ⟨T, 0, none⟩) ts.length cap, .int .i64 k'] 145 (0, 0))) (hl : k' < ts.length) : Rd w' R T cap ts k' :=
  ⟨hm, h.row.kept hb h.ne, h.ne, h.big, h.vars.kept_of hb h.big, hl, h.fit⟩
theorem Rd.below {w w' : World} {R T cap k : Nat} {ts : List Tok} (h : Rd w R T cap ts k) (hb : Below w.heap.size w w') : Rd w' R T cap ts k :=
  h.kept (Kept.of hb) (Below.blk hb h.me) h.lt
theorem Rd.step {w : World} {R T cap k : Nat} {ts : List Tok} (h : Rd w R T cap ts k) (hl : k + 1 < ts.length) : Rd (w.setCell ⟨R, 1, none⟩ (.int .i64 ((k : Int) + 1))) R T cap ts (k + 1) := by
  refine h.kept (Kept.set w 1 _) ?_ hl
  rw [blk_set h.me]; simp

theorem Fit.more {ts : List Tok} {k : Nat} (h : Fit ts) (hk : k < ts.length) {s : List UInt8} (he : (tx ts k == s) = true) (hs : s ≠ []) : k + 1 < ts.length := by
  refine h.next k hk fun h0 => hs ?_
  have := h.none k hk h0
  rw [beq_iff_eq] at he
  rw [← he]; exact this

theorem Rd.other {w : World} {R T cap k : Nat} {ts : List Tok} (h : Rd w R T cap ts k) {S : Nat} (i : Nat) (v : Value) (hR : S ≠ R) (hT : S ≠ T) (hg : 8 ≤ S) : Rd (w.setCell ⟨S, i, none⟩ v) R T cap ts k := by
  have hb : ∀ j, j ≠ S → (w.setCell ⟨S, i, none⟩ v).heap[j]? = w.heap[j]? := fun j hj => Below.heap_setCell w ⟨S, i, none⟩ v j hj
  refine ⟨(hb R (Ne.symm hR)).trans h.me, fun j hj => ?_, h.ne, h.big, ?_, h.lt, h.fit⟩
  · have := h.row j hj
    refine ⟨(World.cell?_of_block (w := w) (hb T (Ne.symm hT))).trans this.1, (World.cell?_of_block (w := w) (hb T (Ne.symm hT))).trans this.2.1, (World.cell?_of_block (w := w) (hb T (Ne.symm hT))).trans this.2.2⟩
  · exact ⟨vmk ((hb _ (by omega)).trans h.vars.marks), vmk ((hb _ (by omega)).trans h.vars.kept), vmk ((hb _ (by omega)).trans h.vars.types), vmk ((hb _ (by omega)).trans h.vars.ways)⟩
theorem Rd.Rlt {w : World} {R T cap k : Nat} {ts : List Tok} (h : Rd w R T cap ts k) : R < w.heap.size := blk_lt h.me
theorem Rd.Tlt {w : World} {R T cap k : Nat} {ts : List Tok} (h : Rd w R T cap ts k) : T < w.heap.size := h.row.lt (Nat.lt_of_le_of_lt (Nat.zero_le _) h.lt)
theorem Kept.new {R : Nat} {w w1 : World} (h : Kept R w w1) {S : Nat} (i : Nat) (v : Value) (hS : w.heap.size ≤ S) : Kept R w (w1.setCell ⟨S, i, none⟩ v) :=
  ⟨h.os, h.tape, h.output, by simp only [World.setCell, Array.size_modify]; exact h.size, fun k hk hn => (Below.heap_setCell w1 ⟨S, i, none⟩ v k (by show k ≠ S; omega)).trans (h.block k hk hn)⟩
theorem Kept.alloc {R : Nat} {w w1 : World} (h : Kept R w w1) (o : Obj) : Kept R w (w1.alloc o) := h.trans (Kept.of (below_alloc w1 o))
theorem Kept.step {R : Nat} {w w1 : World} (h : Kept R w w1) (i : Nat) (v : Value) : Kept R w (w1.setCell ⟨R, i, none⟩ v) := h.trans (Kept.set w1 i v)
theorem Kept.below {R : Nat} {w w1 w2 : World} (h : Kept R w w1) (hb : Below w1.heap.size w1 w2) : Kept R w w2 := h.trans (Kept.of hb)

/-- an error was thrown -/
def Thrown (er : Int) (p : Nat) (e : Ending) (w' : World) : Prop :=
  ∃ A : Nat, e = .panicked [{ v := .iface 140 (.pointer (some ⟨A, 0, none⟩)), recovered := false }] ∧ w'.heap[A]? = some (.cells #[.int .i64 er, .int .i64 p] 148 (0, 0))

/-- what a call of a reader comes to -/
def Rds {α : Type} (w : World) (R T cap : Nat) (ts : List Tok) (rep : World → Value → α → Prop) (r : Res α) (e : Ending) (w' : World) : Prop :=
  Kept R w w' ∧ match r with
  | .out => False
  | .bad er p => Thrown er p e w'
  | .ok a k' => Rd w' R T cap ts k' ∧ ∃ v, e = .returned v ∧ rep w' v a

theorem Rds.from {α : Type} {w w1 : World} {R T cap : Nat} {ts : List Tok} {rep : World → Value → α → Prop} {r : Res α} {e : Ending} {w' : World} (hk : Kept R w w1) (h : Rds w1 R T cap ts rep r e w') : Rds w R T cap ts rep r e w' := ⟨hk.trans h.1, h.2⟩

theorem Rds.bad {α : Type} {w : World} {R T cap : Nat} {ts : List Tok} {rep : World → Value → α → Prop} {r : Res α} {w' : World} {er : Int} {p A : Nat} (hr : r = .bad er p) (hk : Kept R w w') (hA : w'.heap[A]? = some (.cells #[.int .i64 er, .int .i64 p] 148 (0, 0))) :
    Rds w R T cap ts rep r (.panicked [{ v := .iface 140 (.pointer (some ⟨A, 0, none⟩)), recovered := false }]) w' := by
  subst hr
  exact ⟨hk, A, rfl, hA⟩
theorem Rds.ok {α : Type} {w : World} {R T cap : Nat} {ts : List Tok} {rep : World → Value → α → Prop} {r : Res α} {w' : World} {a : α} {k' : Nat} {v : Value} (hr : r = .ok a k') (hk : Kept R w w') (hd : Rd w' R T cap ts k') (hv : rep w' v a) :
    Rds w R T cap ts rep r (.returned v) w' := by
  subst hr
  exact ⟨hk, hd, v, rfl, hv⟩
theorem Rds.cases {α : Type} {w : World} {R T cap : Nat} {ts : List Tok} {rep : World → Value → α → Prop} {r : Res α} {e : Ending} {w' : World} (h : Rds w R T cap ts rep r e w') :
    (∃ (er : Int) (p A : Nat), r = .bad er p ∧ e = .panicked [{ v := .iface 140 (.pointer (some ⟨A, 0, none⟩)), recovered := false }] ∧ w'.heap[A]? = some (.cells #[.int .i64 er, .int .i64 p] 148 (0, 0)) ∧ Kept R w w') ∨
    ∃ (a : α) (k' : Nat) (v : Value), r = .ok a k' ∧ e = .returned v ∧ rep w' v a ∧ Rd w' R T cap ts k' ∧ Kept R w w' := by
  obtain ⟨hk, h⟩ := h
  cases r with
  | out => exact h.elim
  | bad er p => obtain ⟨A, he, hA⟩ := h; exact .inl ⟨er, p, A, rfl, he, hA, hk⟩
  | ok a k' => obtain ⟨hd, v, he, hv⟩ := h; exact .inr ⟨a, k', v, rfl, he, hv, hd, hk⟩

theorem fld0 (a b c : Value) (w : World) : (Instr.field 102 (.agg #[a, b, c]) 0).run Tryz.prog w = .ok a w := by kernel_rfl
theorem fld1 (a b c : Value) (w : World) : (Instr.field 102 (.agg #[a, b, c]) 1).run Tryz.prog w = .ok b w := by kernel_rfl
theorem fld2 (a b c : Value) (w : World) : (Instr.field 102 (.agg #[a, b, c]) 2).run Tryz.prog w = .ok c w := by kernel_rfl

end Go.Proofs.YtgncgbngjdcpgaaGreatDoor
