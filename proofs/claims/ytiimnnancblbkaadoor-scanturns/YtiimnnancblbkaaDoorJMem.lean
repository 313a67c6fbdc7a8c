/-
  MEMORY: what is told of a reader of tokens, and what a call of it leaves as it was.
  CONTRACTS of the reader's smallest steps: now, wrong, take, took, want.
  CONTRACTS of took and want.
-/
import Derived.WalkKit
import Derived.WalkSpells
import Derived.WalkLawsBesides
import Derived.Below
import Derived.BigRegion
import Derived.Deep.QuietTactic
import Derived.BigQuiet
import Derived.Test.YtiimnnancblbkaaDoorSyn
import Derived.Test.YtiimnnancblbkaaDoorProg
namespace Go.Proofs.YtiimnnancblbkaaDoor
open Go.RowKit

theorem cell_lt {w : World} {a : Addr} {v : Value} (h : w.cell? a = some v) : a.block < w.heap.size := by
  by_cases hlt : a.block < w.heap.size
  · exact hlt
  · exfalso
    have : w.heap[a.block]? = none := by simp; omega
    simp [World.cell?, this] at h
theorem ret_bool {a b : Bool} (h : a = b) : Ending.returned (.bool a) = .returned (.bool b) := by rw [h]
theorem ret_int {a b : Int} (h : a = b) : Ending.returned (.int .i64 a) = .returned (.int .i64 b) := by rw [h]
theorem hide {p : Prop} (h : p) : Hid p := h
theorem blk_lt {w : World} {b : Nat} {o : Obj} (h : w.heap[b]? = some o) : b < w.heap.size := by
  by_cases hlt : b < w.heap.size
  · exact hlt
  · exfalso
    have : w.heap[b]? = none := by simp; omega
    rw [this] at h; cases h
theorem cell_alloc {w : World} {a : Addr} {v : Value} (h : w.cell? a = some v) (o : Obj) : (w.alloc o).cell? a = some v :=
  (World.cell?_of_block (w := w) (Below.heap_alloc w o a.block (cell_lt h))).trans h
theorem blk_cell {w : World} {b : Nat} {c : Array Value} {t : TypeId} {z : Nat × Nat} (h : w.heap[b]? = some (.cells c t z)) (i : Nat) : w.cell? ⟨b, i, none⟩ = c[i]? := by
  simp [World.cell?, h]
theorem blk_frozen {w : World} {b : Nat} {c : Array Value} {t : TypeId} (h : w.heap[b]? = some (.cells c t (0, 0))) (i : Nat) : w.frozen? ⟨b, i, none⟩ = false := by
  simp [World.frozen?, h]
theorem blk_new (w : World) (o : Obj) : (w.alloc o).heap[w.heap.size]? = some o := heap_alloc_new w o
theorem blk_set {w : World} {b : Nat} {c : Array Value} {t : TypeId} {z : Nat × Nat} (h : w.heap[b]? = some (.cells c t z)) (i : Nat) (v : Value) : (w.setCell ⟨b, i, none⟩ v).heap[b]? = some (.cells (c.setIfInBounds i v) t z) := by
  simp [World.setCell, Array.getElem?_modify, h]

/-- all blocks but one are as they were -/
structure Kept (R : Nat) (w w' : World) : Prop where
  os : w'.os = w.os
  tape : w'.tape = w.tape
  output : w'.output = w.output
  size : w.heap.size ≤ w'.heap.size
  block : ∀ k, k < w.heap.size → k ≠ R → w'.heap[k]? = w.heap[k]?

theorem Kept.refl (R : Nat) (w : World) : Kept R w w := ⟨rfl, rfl, rfl, Nat.le_refl _, fun _ _ _ => rfl⟩
theorem Kept.trans {R : Nat} {a b c : World} (h : Kept R a b) (k : Kept R b c) : Kept R a c :=
  ⟨k.os.trans h.os, k.tape.trans h.tape, k.output.trans h.output, Nat.le_trans h.size k.size, fun i hi hn => (k.block i (Nat.lt_of_lt_of_le hi h.size) hn).trans (h.block i hi hn)⟩
theorem Kept.of {R : Nat} {w w' : World} (h : Below w.heap.size w w') : Kept R w w' := ⟨h.os, h.tape, h.output, h.size, fun k hk _ => h.block k hk⟩
theorem Kept.set {R : Nat} (w : World) (i : Nat) (v : Value) : Kept R w (w.setCell ⟨R, i, none⟩ v) :=
  ⟨rfl, rfl, rfl, by simp [World.setCell], fun k _ hn => Below.heap_setCell w ⟨R, i, none⟩ v k hn⟩
theorem Kept.cell {R : Nat} {w w' : World} (h : Kept R w w') {a : Addr} {v : Value} (hc : w.cell? a = some v) (hn : a.block ≠ R) : w'.cell? a = some v :=
  (World.cell?_of_block (w := w) (h.block a.block (cell_lt hc) hn)).trans hc
theorem Kept.blk {R : Nat} {w w' : World} (h : Kept R w w') {b : Nat} {o : Obj} (hc : w.heap[b]? = some o) (hn : b ≠ R) : w'.heap[b]? = some o :=
  (h.block b (blk_lt hc) hn).trans hc
theorem Below.blk {w w' : World} (h : Below w.heap.size w w') {b : Nat} {o : Obj} (hc : w.heap[b]? = some o) : w'.heap[b]? = some o :=
  (h.block b (blk_lt hc)).trans hc
/-- two steps of new memory -/
theorem Below.step {a b c : World} (h : Below a.heap.size a b) (k : Below b.heap.size b c) : Below a.heap.size a c := h.trans (k.mono h.size)
theorem below_alloc (w : World) (o : Obj) : Below w.heap.size w (w.alloc o) := (Below.refl _ _).alloc (Nat.le_refl _) o

def strs (l : List (List UInt8)) : Array Value := (l.map fun s => Value.string ⟨s.toArray⟩).toArray

/-- a block's type and what of it is frozen, as they are -/
def vt (w : World) (g : Nat) : TypeId := match w.heap[g]? with | some (.cells _ t _) => t | _ => 0
def vz (w : World) (g : Nat) : Nat × Nat := match w.heap[g]? with | some (.cells _ _ z) => z | _ => (0, 0)
theorem vmk {w : World} {g : Nat} {c : Array Value} {t : TypeId} {z : Nat × Nat} (h : w.heap[g]? = some (.cells c t z)) : w.heap[g]? = some (.cells c (vt w g) (vz w g)) := by simp [vt, vz, h]

/-- the package's variables -/
structure Vars (w : World) : Prop where
  marks : w.heap[0]? = some (.cells (strs marksL) (vt w 0) (vz w 0))
  kept : w.heap[3]? = some (.cells (strs keptL) (vt w 3) (vz w 3))
  types : w.heap[2]? = some (.cells (strs [[], [98, 111, 111, 108], [98, 121, 116, 101], [116, 105, 109, 101, 114], [99, 111, 117, 110, 116, 101, 114], [101, 100, 103, 101]]) (vt w 2) (vz w 2))
  ways : w.heap[1]? = some (.cells (strs [[], [105, 110], [111, 117, 116], [118, 97, 114]]) (vt w 1) (vz w 1))

theorem Vars.kept_of {R : Nat} {w w' : World} (h : Vars w) (hb : Kept R w w') (hR : 5 ≤ R) : Vars w' :=
  ⟨vmk (hb.blk h.marks (by omega)), vmk (hb.blk h.kept (by omega)), vmk (hb.blk h.types (by omega)), vmk (hb.blk h.ways (by omega))⟩
theorem Vars.below {w w' : World} (h : Vars w) (hb : Below w.heap.size w w') : Vars w' :=
  ⟨vmk (Below.blk hb h.marks), vmk (Below.blk hb h.kept), vmk (Below.blk hb h.types), vmk (Below.blk hb h.ways)⟩

/-- a row of tokens -/
def TokRow (w : World) (T : Nat) (ts : List Tok) : Prop :=
  ∀ i, i < ts.length → w.cell? ⟨T, i * 3, none⟩ = some (.int .i64 (tk ts i).kind) ∧ w.cell? ⟨T, i * 3 + 1, none⟩ = some (.string (tk ts i).text) ∧ w.cell? ⟨T, i * 3 + 2, none⟩ = some (.int .i64 (tk ts i).pos)

/-- the end stands last, and alone has no letters -/
structure Fit (ts : List Tok) : Prop where
  next : ∀ i, i < ts.length → (tk ts i).kind ≠ 0 → i + 1 < ts.length
  none : ∀ i, i < ts.length → (tk ts i).kind = 0 → (tk ts i).text.toList = []
  len : ts.length ≤ 801
  small : ∀ i, i < ts.length → (tk ts i).text.size ≤ 1000000
  digits : ∀ i, i < ts.length → (tk ts i).kind = 2 → ∀ c ∈ (tk ts i).text.data.toList, 48 ≤ c.toNat ∧ c.toNat ≤ 57

/-- a reader, and the token that it reads next -/
structure Rd (w : World) (R T cap : Nat) (ts : List Tok) (k : Nat) : Prop where
  me : w.heap[R]? = some (.cells #[.slice (some ⟨T, 0, none⟩) ts.length cap, .int .i64 k] 83 (0, 0))
  row : TokRow w T ts
  ne : T ≠ R
  big : 5 ≤ R
  vars : Vars w
  lt : k < ts.length
  fit : Fit ts

theorem TokRow.lt {w : World} {T : Nat} {ts : List Tok} (h : TokRow w T ts) (hl : 0 < ts.length) : T < w.heap.size := cell_lt (h 0 hl).1

theorem TokRow.kept {w w' : World} {R T : Nat} {ts : List Tok} (h : TokRow w T ts) (hb : Kept R w w') (hn : T ≠ R) : TokRow w' T ts :=
  fun i hi => ⟨hb.cell (h i hi).1 hn, hb.cell (h i hi).2.1 hn, hb.cell (h i hi).2.2 hn⟩

theorem Rd.kept {w w' : World} {R T cap k k' : Nat} {ts : List Tok} (h : Rd w R T cap ts k) (hb : Kept R w w') (hm : w'.heap[R]? = some (.cells #[.slice (some ⟨T, 0, none⟩) ts.length cap, .int .i64 k'] 83 (0, 0))) (hl : k' < ts.length) : Rd w' R T cap ts k' :=
  ⟨hm, h.row.kept hb h.ne, h.ne, h.big, h.vars.kept_of hb h.big, hl, h.fit⟩
theorem Rd.below {w w' : World} {R T cap k : Nat} {ts : List Tok} (h : Rd w R T cap ts k) (hb : Below w.heap.size w w') : Rd w' R T cap ts k :=
  h.kept (Kept.of hb) (Below.blk hb h.me) h.lt
theorem Rd.step {w : World} {R T cap k : Nat} {ts : List Tok} (h : Rd w R T cap ts k) (hl : k + 1 < ts.length) : Rd (w.setCell ⟨R, 1, none⟩ (.int .i64 ((k : Int) + 1))) R T cap ts (k + 1) := by
  refine h.kept (Kept.set w 1 _) ?_ hl
  rw [blk_set h.me]; simp

theorem Fit.more {ts : List Tok} {k : Nat} (h : Fit ts) (hk : k < ts.length) {s : List UInt8} (he : (tx ts k == s) = true) (hs : s ≠ []) : k + 1 < ts.length := by
  refine h.next k hk fun h0 => hs ?_
  have := h.none k hk h0
  rw [beq_iff_eq] at he
  rw [← he]; exact this

theorem Rd.other {w : World} {R T cap k : Nat} {ts : List Tok} (h : Rd w R T cap ts k) {S : Nat} (i : Nat) (v : Value) (hR : S ≠ R) (hT : S ≠ T) (hg : 5 ≤ S) : Rd (w.setCell ⟨S, i, none⟩ v) R T cap ts k := by
  have hb : ∀ j, j ≠ S → (w.setCell ⟨S, i, none⟩ v).heap[j]? = w.heap[j]? := fun j hj => Below.heap_setCell w ⟨S, i, none⟩ v j hj
  refine ⟨(hb R (Ne.symm hR)).trans h.me, fun j hj => ?_, h.ne, h.big, ?_, h.lt, h.fit⟩
  · have := h.row j hj
    refine ⟨(World.cell?_of_block (w := w) (hb T (Ne.symm hT))).trans this.1, (World.cell?_of_block (w := w) (hb T (Ne.symm hT))).trans this.2.1, (World.cell?_of_block (w := w) (hb T (Ne.symm hT))).trans this.2.2⟩
  · exact ⟨vmk ((hb _ (by omega)).trans h.vars.marks), vmk ((hb _ (by omega)).trans h.vars.kept), vmk ((hb _ (by omega)).trans h.vars.types), vmk ((hb _ (by omega)).trans h.vars.ways)⟩
theorem Rd.Rlt {w : World} {R T cap k : Nat} {ts : List Tok} (h : Rd w R T cap ts k) : R < w.heap.size := blk_lt h.me
theorem Rd.Tlt {w : World} {R T cap k : Nat} {ts : List Tok} (h : Rd w R T cap ts k) : T < w.heap.size := h.row.lt (Nat.lt_of_le_of_lt (Nat.zero_le _) h.lt)
theorem Kept.new {R : Nat} {w w1 : World} (h : Kept R w w1) {S : Nat} (i : Nat) (v : Value) (hS : w.heap.size ≤ S) : Kept R w (w1.setCell ⟨S, i, none⟩ v) :=
  ⟨h.os, h.tape, h.output, by simp only [World.setCell, Array.size_modify]; exact h.size, fun k hk hn => (Below.heap_setCell w1 ⟨S, i, none⟩ v k (by show k ≠ S; omega)).trans (h.block k hk hn)⟩
theorem Kept.alloc {R : Nat} {w w1 : World} (h : Kept R w w1) (o : Obj) : Kept R w (w1.alloc o) := h.trans (Kept.of (below_alloc w1 o))
theorem Kept.step {R : Nat} {w w1 : World} (h : Kept R w w1) (i : Nat) (v : Value) : Kept R w (w1.setCell ⟨R, i, none⟩ v) := h.trans (Kept.set w1 i v)
theorem Kept.below {R : Nat} {w w1 w2 : World} (h : Kept R w w1) (hb : Below w1.heap.size w1 w2) : Kept R w w2 := h.trans (Kept.of hb)

/-- an error was thrown -/
def Thrown (er : Int) (p : Nat) (e : Ending) (w' : World) : Prop :=
  ∃ A : Nat, e = .panicked [{ v := .iface 78 (.pointer (some ⟨A, 0, none⟩)), recovered := false }] ∧ w'.heap[A]? = some (.cells #[.int .i64 er, .int .i64 p] 107 (0, 0))

/-- what a call of a reader comes to -/
def Rds {α : Type} (w : World) (R T cap : Nat) (ts : List Tok) (rep : World → Value → α → Prop) (r : Res α) (e : Ending) (w' : World) : Prop :=
  Kept R w w' ∧ match r with
  | .out => False
  | .bad er p => Thrown er p e w'
  | .ok a k' => Rd w' R T cap ts k' ∧ ∃ v, e = .returned v ∧ rep w' v a

theorem Rds.from {α : Type} {w w1 : World} {R T cap : Nat} {ts : List Tok} {rep : World → Value → α → Prop} {r : Res α} {e : Ending} {w' : World} (hk : Kept R w w1) (h : Rds w1 R T cap ts rep r e w') : Rds w R T cap ts rep r e w' := ⟨hk.trans h.1, h.2⟩

theorem Rds.bad {α : Type} {w : World} {R T cap : Nat} {ts : List Tok} {rep : World → Value → α → Prop} {r : Res α} {w' : World} {er : Int} {p A : Nat} (hr : r = .bad er p) (hk : Kept R w w') (hA : w'.heap[A]? = some (.cells #[.int .i64 er, .int .i64 p] 107 (0, 0))) :
    Rds w R T cap ts rep r (.panicked [{ v := .iface 78 (.pointer (some ⟨A, 0, none⟩)), recovered := false }]) w' := by
  subst hr
  exact ⟨hk, A, rfl, hA⟩
theorem Rds.ok {α : Type} {w : World} {R T cap : Nat} {ts : List Tok} {rep : World → Value → α → Prop} {r : Res α} {w' : World} {a : α} {k' : Nat} {v : Value} (hr : r = .ok a k') (hk : Kept R w w') (hd : Rd w' R T cap ts k') (hv : rep w' v a) :
    Rds w R T cap ts rep r (.returned v) w' := by
  subst hr
  exact ⟨hk, hd, v, rfl, hv⟩
theorem Rds.cases {α : Type} {w : World} {R T cap : Nat} {ts : List Tok} {rep : World → Value → α → Prop} {r : Res α} {e : Ending} {w' : World} (h : Rds w R T cap ts rep r e w') :
    (∃ (er : Int) (p A : Nat), r = .bad er p ∧ e = .panicked [{ v := .iface 78 (.pointer (some ⟨A, 0, none⟩)), recovered := false }] ∧ w'.heap[A]? = some (.cells #[.int .i64 er, .int .i64 p] 107 (0, 0)) ∧ Kept R w w') ∨
    ∃ (a : α) (k' : Nat) (v : Value), r = .ok a k' ∧ e = .returned v ∧ rep w' v a ∧ Rd w' R T cap ts k' ∧ Kept R w w' := by
  obtain ⟨hk, h⟩ := h
  cases r with
  | out => exact h.elim
  | bad er p => obtain ⟨A, he, hA⟩ := h; exact .inl ⟨er, p, A, rfl, he, hA, hk⟩
  | ok a k' => obtain ⟨hd, v, he, hv⟩ := h; exact .inr ⟨a, k', v, rfl, he, hv, hd, hk⟩

theorem fld0 (a b c : Value) (w : World) : (Instr.field 85 (.agg #[a, b, c]) 0).run Tryd.prog w = .ok a w := by kernel_rfl
theorem fld1 (a b c : Value) (w : World) : (Instr.field 85 (.agg #[a, b, c]) 1).run Tryd.prog w = .ok b w := by kernel_rfl
theorem fld2 (a b c : Value) (w : World) : (Instr.field 85 (.agg #[a, b, c]) 2).run Tryd.prog w = .ok c w := by kernel_rfl

end Go.Proofs.YtiimnnancblbkaaDoor
namespace Go.Proofs.YtiimnnancblbkaaDoor
open Go.RowKit

set_option maxRecDepth 100000 in
set_option maxHeartbeats 1600000 in
theorem now_cells (R T n cap : Nat) (k : Nat) (a : Int) (s : ByteArray) (p : Int) (w : World) (hn : (k : Int) < (n : Int))
    (h0 : w.cell? ⟨R, 0, none⟩ = some (.slice (some ⟨T, 0, none⟩) n cap)) (h1 : w.cell? ⟨R, 1, none⟩ = some (.int .i64 k))
    (c0 : w.cell? ⟨T, k * 3, none⟩ = some (.int .i64 a)) (c1 : w.cell? ⟨T, k * 3 + 1, none⟩ = some (.string s)) (c2 : w.cell? ⟨T, k * 3 + 2, none⟩ = some (.int .i64 p)) :
    Calls Tryd.prog 30 #[.pointer (some ⟨R, 0, none⟩)] w fun e w' => e = .returned (.agg #[.int .i64 a, .string s, .int .i64 p]) ∧ Below w.heap.size w w' := by
  have h0 := fun o => cell_alloc h0 o
  have h1 := fun o => cell_alloc h1 o
  have c0 := fun o => cell_alloc c0 o
  have c1 := fun o => cell_alloc c1 o
  have c2 := fun o => cell_alloc c2 o
  go_enter Tryd.func30, Tryd.ntmps30
  go_wp2
  go_region
  go_wp2
  refine bodyPost_ret (v := .agg #[.int .i64 a, .string s, .int .i64 p]) (by simp [results, Tryd.results30, go_sem]) rfl ⟨rfl, ?_⟩
  exact ((Below.refl _ _).alloc (Nat.le_refl _) _).drew

theorem now_at {w : World} {R T cap : Nat} {ts : List Tok} {k : Nat} (h : Rd w R T cap ts k) :
    Calls Tryd.prog 30 #[.pointer (some ⟨R, 0, none⟩)] w fun e w' => e = .returned (.agg #[.int .i64 (tk ts k).kind, .string (tk ts k).text, .int .i64 (tk ts k).pos]) ∧ Below w.heap.size w w' := by
  have hr := h.row k h.lt
  exact now_cells R T ts.length cap k _ _ _ w (by have := h.lt; omega) (by rw [blk_cell h.me]; rfl) (by rw [blk_cell h.me]; rfl) hr.1 hr.2.1 hr.2.2

set_option maxRecDepth 100000 in
set_option maxHeartbeats 1600000 in
theorem wrong_at (er : Int) {w : World} {R T cap : Nat} {ts : List Tok} {k : Nat} (h : Rd w R T cap ts k) :
    Calls Tryd.prog 31 #[.pointer (some ⟨R, 0, none⟩), .int .i64 er] w fun e w' => ∃ A : Nat, e = .returned (.pointer (some ⟨A, 0, none⟩)) ∧ w'.heap[A]? = some (.cells #[.int .i64 er, .int .i64 (tk ts k).pos] 107 (0, 0)) ∧ Below w.heap.size w w' := by
  have q2 := fld2
  have HR : Hid (Rd w R T cap ts k) := h
  generalize hp : (tk ts k).pos = p at *
  have HP : Hid ((tk ts k).pos = p) := hp
  clear h hp
  go_enter Tryd.func31, Tryd.ntmps31
  go_wp2_with fail
  refine (now_at HR.out).mono ?_
  rintro e w' ⟨rfl, hb⟩
  rw [HP.out]
  go_wp2_with fail
  go_ret
  exact ⟨_, rfl, blk_new _ _, Below.step hb (below_alloc _ _)⟩

set_option maxRecDepth 100000 in
set_option maxHeartbeats 1600000 in
theorem take_at {w : World} {R T cap : Nat} {ts : List Tok} {k : Nat} (h : Rd w R T cap ts k) (hl : k + 1 < ts.length) :
    Calls Tryd.prog 69 #[.pointer (some ⟨R, 0, none⟩)] w fun e w' => e = .returned (.agg #[.int .i64 (tk ts k).kind, .string (tk ts k).text, .int .i64 (tk ts k).pos]) ∧ Rd w' R T cap ts (k + 1) ∧ Kept R w w' := by
  have hlen := h.fit.len
  have HR : Hid (Rd w R T cap ts k) := h
  have HL : Hid (k + 1 < ts.length) := hl
  have hk8 : k < 800 := by omega
  generalize hp : tk ts k = t at *
  have HP : Hid (tk ts k = t) := hp
  clear h hp hl hlen
  go_enter Tryd.func69, Tryd.ntmps69
  go_wp2_with fail
  have HB := hide (below_alloc w (.cells #[.int .i64 0, .string { data := #[] }, .int .i64 0] 85))
  have HN := hide (blk_new w (.cells #[.int .i64 0, .string { data := #[] }, .int .i64 0] 85))
  have hRS : R < w.heap.size := HR.out.Rlt
  have hTS : T < w.heap.size := HR.out.Tlt
  have hbig : 5 ≤ R := HR.out.big
  refine (now_at (HR.out.below HB.out)).mono ?_
  rintro e w1 ⟨rfl, hb⟩
  rw [HP.out]
  have HD := hide (HR.out.below (Below.step HB.out hb))
  have HK := hide (Kept.of (R := R) (Below.step HB.out hb))
  have HS := hide (Below.blk hb HN.out)
  have hsz : w.heap.size < w1.heap.size := blk_lt HS.out
  have r1 := fun o => cell_alloc (w := w1) (a := ⟨R, 1, none⟩) (by rw [blk_cell HD.out.me]; rfl) o
  have r2 : ∀ o, (w1.alloc o).frozen? ⟨R, 1, none⟩ = false := fun o => blk_frozen (Below.blk (below_alloc w1 o) HD.out.me) 1
  have s0 := fun o => cell_alloc (w := w1) (a := ⟨w.heap.size, 0, none⟩) (by rw [blk_cell HS.out]; rfl) o
  have s1 := fun o => cell_alloc (w := w1) (a := ⟨w.heap.size, 1, none⟩) (by rw [blk_cell HS.out]; rfl) o
  have s2 := fun o => cell_alloc (w := w1) (a := ⟨w.heap.size, 2, none⟩) (by rw [blk_cell HS.out]; rfl) o
  have sf : ∀ o i, (w1.alloc o).frozen? ⟨w.heap.size, i, none⟩ = false := fun o i => blk_frozen (Below.blk (below_alloc w1 o) HS.out) i
  clear hb
  generalize hSS : w.heap.size = S at *
  have HS0 : Hid (w.heap.size ≤ S) := Nat.le_of_eq hSS
  clear hSS
  have hne1 : ¬ S = R := by omega
  have hne2 : ¬ R = S := by omega
  have hne3 : ¬ S = w1.heap.size := by omega
  have hne4 : ¬ R = w1.heap.size := by omega
  have HT := hide hTS
  have hne5 : ¬ S = T := by omega
  go_wp2_with fail
  refine bodyPost_ret (v := .agg #[.int .i64 t.kind, .string t.text, .int .i64 t.pos]) (by simp [results, Tryd.results69, go_sem, s0, s1, s2]) rfl ⟨rfl, ?_, ?_⟩
  · exact (((((HD.out.below (below_alloc _ _)).step HL.out).other 0 _ hne1 hne5 (by omega)).other 1 _ hne1 hne5 (by omega)).other 2 _ hne1 hne5 (by omega))
  · have hS : w.heap.size ≤ S := HS0.out
    exact (((HK.out.alloc _).step 1 _).new 0 _ hS).new 1 _ hS |>.new 2 _ hS
end Go.Proofs.YtiimnnancblbkaaDoor
namespace Go.Proofs.YtiimnnancblbkaaDoor
open Go.RowKit

set_option maxRecDepth 100000 in
set_option maxHeartbeats 1600000 in
theorem took_yes {w : World} {R T cap : Nat} {ts : List Tok} {k : Nat} (text : ByteArray) (h : Rd w R T cap ts k) (hl : k + 1 < ts.length) (he : (tx ts k == text.toList) = true) :
    Calls Tryd.prog 54 #[.pointer (some ⟨R, 0, none⟩), .string text] w fun e w' => e = .returned (.bool true) ∧ Rd w' R T cap ts (k + 1) ∧ Kept R w w' := by
  have q1 := fld1
  have hlen := h.fit.len
  have HR : Hid (Rd w R T cap ts k) := h
  have HL : Hid (k + 1 < ts.length) := hl
  have hk8 : k < 800 := by omega
  have hn : (!(tx ts k == text.toList)) = false := by rw [he]; rfl
  unfold tx at hn
  clear h hl hlen he
  go_enter Tryd.func54, Tryd.ntmps54
  go_wp2_with fail
  refine (now_at HR.out).mono ?_
  rintro e w1 ⟨rfl, hb⟩
  have HB := hide hb
  have r1 : w1.cell? ⟨R, 1, none⟩ = some (.int .i64 k) := by rw [blk_cell (HR.out.below hb).me]; rfl
  have r2 : w1.frozen? ⟨R, 1, none⟩ = false := blk_frozen (HR.out.below hb).me 1
  clear hb
  go_wp2_with fail
  go_ret
  exact ⟨rfl, (HR.out.below HB.out).step HL.out, (Kept.of HB.out).step 1 _⟩

set_option maxRecDepth 100000 in
set_option maxHeartbeats 1600000 in
theorem took_no {w : World} {R T cap : Nat} {ts : List Tok} {k : Nat} (text : ByteArray) (h : Rd w R T cap ts k) (he : (tx ts k == text.toList) = false) :
    Calls Tryd.prog 54 #[.pointer (some ⟨R, 0, none⟩), .string text] w fun e w' => e = .returned (.bool false) ∧ Rd w' R T cap ts k ∧ Below w.heap.size w w' := by
  have q1 := fld1
  have HR : Hid (Rd w R T cap ts k) := h
  have hn : (!(tx ts k == text.toList)) = true := by rw [he]; rfl
  unfold tx at hn
  clear h he
  go_enter Tryd.func54, Tryd.ntmps54
  go_wp2_with fail
  refine (now_at HR.out).mono ?_
  rintro e w1 ⟨rfl, hb⟩
  have HB := hide hb
  clear hb
  go_wp2_with fail
  go_ret
  exact ⟨rfl, HR.out.below HB.out, HB.out⟩

set_option maxRecDepth 100000 in
set_option maxHeartbeats 1600000 in
theorem want_at {w : World} {R T cap : Nat} {ts : List Tok} {k : Nat} (text : ByteArray) (hne : text.toList ≠ []) (h : Rd w R T cap ts k) :
    Calls Tryd.prog 33 #[.pointer (some ⟨R, 0, none⟩), .string text] w (Rds w R T cap ts (fun _ v _ => v = .tuple #[]) (wantP ts text.toList k)) := by
  have hnot : ∀ (x : Bool) (w : World), (Op.unary .not (.bool x)).run Tryd.prog w = .ok (.bool (!x)) w := fun _ _ => rfl
  cases he : (tx ts k == text.toList) with
  | true =>
    have hw : wantP ts text.toList k = .ok () (k + 1) := by simp only [wantP, he, if_true]
    rw [hw]
    have HE := hide he
    have HR : Hid (Rd w R T cap ts k) := h
    have HL := hide (h.fit.more h.lt he hne)
    clear h he hw hne
    go_enter Tryd.func33, Tryd.ntmps33
    go_wp2_with fail
    refine (took_yes text HR.out HL.out HE.out).mono ?_
    rintro e w1 ⟨rfl, hd, hk⟩
    have HD := hide hd
    have HK := hide hk
    clear hd hk
    go_wp2_with fail
    go_end0
    exact ⟨HK.out, HD.out, _, rfl, rfl⟩
  | false =>
    have hw : wantP ts text.toList k = .bad 3 (tk ts k).pos := by simp only [wantP, he, Bool.false_eq_true, if_false]
    rw [hw]
    have HE := hide he
    have HR : Hid (Rd w R T cap ts k) := h
    clear h he hw hne
    go_enter Tryd.func33, Tryd.ntmps33
    go_wp2_with fail
    refine (took_no text HR.out HE.out).mono ?_
    rintro e w1 ⟨rfl, hd, hb⟩
    have HD := hide hd
    have HB := hide hb
    clear hd hb
    go_wp2_with fail
    refine (wrong_at 3 HD.out).mono ?_
    rintro e w2 ⟨A, rfl, hA, hb⟩
    have HA := hide hA
    have HC := hide hb
    clear hA hb
    go_wp2_with fail
    exact ⟨rfl, (Kept.of HB.out).below HC.out, A, rfl, HA.out⟩

theorem lit_toList (l : List UInt8) : (⟨l.toArray⟩ : ByteArray).toList = l := by rw [ByteArray.toList_eq]
theorem yes_at {w : World} {R T cap : Nat} {ts : List Tok} {k : Nat} (l : List UInt8) (hne : l ≠ []) (h : Rd w R T cap ts k) (he : (tx ts k == l) = true) :
    Calls Tryd.prog 54 #[.pointer (some ⟨R, 0, none⟩), .string ⟨l.toArray⟩] w fun e w' => e = .returned (.bool true) ∧ Rd w' R T cap ts (k + 1) ∧ Kept R w w' :=
  took_yes ⟨l.toArray⟩ h (h.fit.more h.lt he hne) (by rw [lit_toList]; exact he)
theorem no_at {w : World} {R T cap : Nat} {ts : List Tok} {k : Nat} (l : List UInt8) (h : Rd w R T cap ts k) (he : (tx ts k == l) = false) :
    Calls Tryd.prog 54 #[.pointer (some ⟨R, 0, none⟩), .string ⟨l.toArray⟩] w fun e w' => e = .returned (.bool false) ∧ Rd w' R T cap ts k ∧ Kept R w w' :=
  (took_no ⟨l.toArray⟩ h (by rw [lit_toList]; exact he)).mono fun _ _ h => ⟨h.1, h.2.1, Kept.of h.2.2⟩
theorem need_at {w : World} {R T cap : Nat} {ts : List Tok} {k : Nat} (l : List UInt8) (hne : l ≠ []) (h : Rd w R T cap ts k) :
    Calls Tryd.prog 33 #[.pointer (some ⟨R, 0, none⟩), .string ⟨l.toArray⟩] w (Rds w R T cap ts (fun _ v _ => v = .tuple #[]) (wantP ts l k)) := by
  have := want_at ⟨l.toArray⟩ (by rw [lit_toList]; exact hne) h
  rw [lit_toList] at this
  exact this
end Go.Proofs.YtiimnnancblbkaaDoor
