/-
  MEMORY: rows of nodes, of numbers and of bits.
-/
import Derived.WalkKit
import Derived.WalkSpells
import Derived.WalkLawsBesides
import Derived.Below
import Derived.BigRegion
import Derived.Deep.QuietTactic
import Derived.BigQuiet
import Derived.Deep.Upon
import Derived.Test.YtacgepdmhdcdkaaGPlain
import Derived.Test.YtacgepdmhdcdkaaProg
namespace Go.Proofs.Ytacgepdmhdcdkaa
open Go.RowKit

theorem cell_lt {w : World} {a : Addr} {v : Value} (h : w.cell? a = some v) : a.block < w.heap.size := by
  by_cases hlt : a.block < w.heap.size
  · exact hlt
  · exfalso
    have : w.heap[a.block]? = none := by simp; omega
    simp [World.cell?, this] at h
theorem ret_bool {a b : Bool} (h : a = b) : Ending.returned (.bool a) = .returned (.bool b) := by rw [h]
theorem ret_int {a b : Int} (h : a = b) : Ending.returned (.int .i64 a) = .returned (.int .i64 b) := by rw [h]
theorem hide {p : Prop} (h : p) : Hid p := h
theorem blk_lt {w : World} {b : Nat} {o : Obj} (h : w.heap[b]? = some o) : b < w.heap.size := by
  by_cases hlt : b < w.heap.size
  · exact hlt
  · exfalso
    have : w.heap[b]? = none := by simp; omega
    rw [this] at h; cases h
theorem cell_alloc {w : World} {a : Addr} {v : Value} (h : w.cell? a = some v) (o : Obj) : (w.alloc o).cell? a = some v :=
  (World.cell?_of_block (w := w) (Below.heap_alloc w o a.block (cell_lt h))).trans h
theorem blk_cell {w : World} {b : Nat} {c : Array Value} {t : TypeId} {z : Nat × Nat} (h : w.heap[b]? = some (.cells c t z)) (i : Nat) : w.cell? ⟨b, i, none⟩ = c[i]? := by
  simp [World.cell?, h]
theorem blk_frozen {w : World} {b : Nat} {c : Array Value} {t : TypeId} (h : w.heap[b]? = some (.cells c t (0, 0))) (i : Nat) : w.frozen? ⟨b, i, none⟩ = false := by
  simp [World.frozen?, h]
theorem blk_new (w : World) (o : Obj) : (w.alloc o).heap[w.heap.size]? = some o := heap_alloc_new w o
theorem blk_set {w : World} {b : Nat} {c : Array Value} {t : TypeId} {z : Nat × Nat} (h : w.heap[b]? = some (.cells c t z)) (i : Nat) (v : Value) : (w.setCell ⟨b, i, none⟩ v).heap[b]? = some (.cells (c.setIfInBounds i v) t z) := by
  simp [World.setCell, Array.getElem?_modify, h]

/-- all blocks but one are as they were -/
structure Kept (R : Nat) (w w' : World) : Prop where
  os : w'.os = w.os
  tape : w'.tape = w.tape
  output : w'.output = w.output
  size : w.heap.size ≤ w'.heap.size
  block : ∀ k, k < w.heap.size → k ≠ R → w'.heap[k]? = w.heap[k]?

theorem Kept.refl (R : Nat) (w : World) : Kept R w w := ⟨rfl, rfl, rfl, Nat.le_refl _, fun _ _ _ => rfl⟩
theorem Kept.trans {R : Nat} {a b c : World} (h : Kept R a b) (k : Kept R b c) : Kept R a c :=
  ⟨k.os.trans h.os, k.tape.trans h.tape, k.output.trans h.output, Nat.le_trans h.size k.size, fun i hi hn => (k.block i (Nat.lt_of_lt_of_le hi h.size) hn).trans (h.block i hi hn)⟩
theorem Kept.of {R : Nat} {w w' : World} (h : Below w.heap.size w w') : Kept R w w' := ⟨h.os, h.tape, h.output, h.size, fun k hk _ => h.block k hk⟩
theorem Kept.set {R : Nat} (w : World) (i : Nat) (v : Value) : Kept R w (w.setCell ⟨R, i, none⟩ v) :=
  ⟨rfl, rfl, rfl, by simp [World.setCell], fun k _ hn => Below.heap_setCell w ⟨R, i, none⟩ v k hn⟩
theorem Kept.cell {R : Nat} {w w' : World} (h : Kept R w w') {a : Addr} {v : Value} (hc : w.cell? a = some v) (hn : a.block ≠ R) : w'.cell? a = some v :=
  (World.cell?_of_block (w := w) (h.block a.block (cell_lt hc) hn)).trans hc
theorem Kept.blk {R : Nat} {w w' : World} (h : Kept R w w') {b : Nat} {o : Obj} (hc : w.heap[b]? = some o) (hn : b ≠ R) : w'.heap[b]? = some o :=
  (h.block b (blk_lt hc) hn).trans hc
theorem Below.blk {w w' : World} (h : Below w.heap.size w w') {b : Nat} {o : Obj} (hc : w.heap[b]? = some o) : w'.heap[b]? = some o :=
  (h.block b (blk_lt hc)).trans hc
/-- two steps of new memory -/
theorem Below.step {a b c : World} (h : Below a.heap.size a b) (k : Below b.heap.size b c) : Below a.heap.size a c := h.trans (k.mono h.size)
theorem below_alloc (w : World) (o : Obj) : Below w.heap.size w (w.alloc o) := (Below.refl _ _).alloc (Nat.le_refl _) o

theorem Kept.new {R : Nat} {w w1 : World} (h : Kept R w w1) {S : Nat} (i : Nat) (v : Value) (hS : w.heap.size ≤ S) : Kept R w (w1.setCell ⟨S, i, none⟩ v) :=
  ⟨h.os, h.tape, h.output, by simp only [World.setCell, Array.size_modify]; exact h.size, fun k hk hn => (Below.heap_setCell w1 ⟨S, i, none⟩ v k (by show k ≠ S; omega)).trans (h.block k hk hn)⟩
theorem Kept.alloc {R : Nat} {w w1 : World} (h : Kept R w w1) (o : Obj) : Kept R w (w1.alloc o) := h.trans (Kept.of (below_alloc w1 o))
theorem Kept.step {R : Nat} {w w1 : World} (h : Kept R w w1) (i : Nat) (v : Value) : Kept R w (w1.setCell ⟨R, i, none⟩ v) := h.trans (Kept.set w1 i v)
theorem Kept.below {R : Nat} {w w1 w2 : World} (h : Kept R w w1) (hb : Below w1.heap.size w1 w2) : Kept R w w2 := h.trans (Kept.of hb)

theorem wp_append_run {P : Program} {o : Oper} {a : Act} {w w' : World} {K : Act → World → Prop} {Q : Exit → Act → World → Prop} {v x v' : Value} {t : TypeId} (hr : (Builtin.append_ #[t, t] o.type #[v, x]).run P w = .ok v' w') (so xo : Operand) (ho : o.op = .call { callee := .builtin .append, args := #[so, xo], argTypes := #[t, t] }) (hs : a.eval so = v) (hx : a.eval xo = x) (h : K (a.put o.dst v') w') : Oper.wp P o a w K Q := by
  unfold Oper.wp execOp
  simp only [ho, resolve, invoke, builtin, Sem.run_bind, Sem.run_pure, Result.andThen_ok, List.map_toArray, List.map_cons, List.map_nil, hs, hx, hr]
  exact h
theorem wpl_append_run {P : Program} {ops : Array Oper} {rest : List Oper} {o : Oper} {a : Act} {w w' : World} {Q : Exit → Act → World → Prop} {v x v' : Value} {t : TypeId} (hr : (Builtin.append_ #[t, t] o.type #[v, x]).run P w = .ok v' w') (hgd : o.guard = none) (so xo : Operand) (ho : o.op = .call { callee := .builtin .append, args := #[so, xo], argTypes := #[t, t] }) (hs : a.eval so = v) (hx : a.eval xo = x) (h : wpList P ops Q rest (a.put o.dst v') w') : wpList P ops Q (o :: rest) a w := by
  refine wpList_plain hgd fun K hK => ?_
  exact wp_append_run hr so xo ho hs hx (hK _ _ h)
theorem add0 (b j : Nat) : (⟨b, 0, none⟩ : Addr).add j = ⟨b, j, none⟩ := by
  unfold Addr.add
  split <;> simp_all

/-- cells that lie behind an address, in a block of which S holds -/
def Lies (S : Nat → Prop) (w : World) (ao : Option Addr) (cs : List Value) : Prop :=
  cs = [] ∨ ∃ b off, ao = some ⟨b, off, none⟩ ∧ S b ∧ ∀ i u, cs[i]? = some u → w.cell? ⟨b, off + i, none⟩ = some u
def AnyB (_ : Nat) : Prop := True
def FromB (B k : Nat) : Prop := B ≤ k
/-- between, and not h -/
def InB (lo hi h k : Nat) : Prop := lo ≤ k ∧ k < hi ∧ k ≠ h
theorem Lies.same {S : Nat → Prop} {w w' : World} {ao : Option Addr} {cs : List Value} (h : Lies S w ao cs) (hb : ∀ b, S b → b < w.heap.size → w'.heap[b]? = w.heap[b]?) : Lies S w' ao cs := by
  rcases h with h | ⟨b, off, h1, h2, h3⟩
  · exact .inl h
  · exact .inr ⟨b, off, h1, h2, fun i u hu => (World.cell?_of_block (w := w) (hb b h2 (cell_lt (h3 i u hu)))).trans (h3 i u hu)⟩
theorem Lies.below {S : Nat → Prop} {w w' : World} {ao : Option Addr} {cs : List Value} (h : Lies S w ao cs) (hb : Below w.heap.size w w') : Lies S w' ao cs := h.same fun b _ hl => hb.block b hl
theorem Lies.imp {S T : Nat → Prop} {w : World} {ao : Option Addr} {cs : List Value} (h : Lies S w ao cs) (hb : ∀ b, b < w.heap.size → S b → T b) : Lies T w ao cs := by
  rcases h with h | ⟨b, off, h1, h2, h3⟩
  · exact .inl h
  · rcases cs with _ | ⟨c, cs⟩
    · exact .inl rfl
    · exact .inr ⟨b, off, h1, hb b (cell_lt (h3 0 c rfl)) h2, h3⟩
theorem Lies.any {S : Nat → Prop} {w : World} {ao : Option Addr} {cs : List Value} (h : Lies S w ao cs) : Lies AnyB w ao cs := h.imp fun _ _ _ => trivial

def ndCells (x : Nd) : List Value := [.int .i64 x.op, .int .i64 x.a, .int .i64 x.b, .int .i64 x.next]
def ndsC (ns : List Nd) : List Value := ns.flatMap ndCells
def intsC (os : List Int) : List Value := os.map (Value.int .i64)
def bitsC (l : List Bool) : List Value := l.map Value.bool
theorem ndsC_len : ∀ (ns : List Nd), (ndsC ns).length = ns.length * 4
  | [] => rfl
  | d :: ns => by
    have h : (ndCells d).length = 4 := rfl
    have e : (d :: ns).length = ns.length + 1 := rfl
    have ih := ndsC_len ns
    unfold ndsC at *
    rw [List.flatMap_cons, List.length_append, ih, h, e]
    omega
theorem ndsC_at : ∀ (ns : List Nd) (i k : Nat) (u : Value), i < ns.length → (ndCells (ndAt ns i))[k]? = some u → k < 4 → (ndsC ns)[i * 4 + k]? = some u
  | [], i, _, _, h, _, _ => absurd h (Nat.not_lt_zero _)
  | d :: ns, 0, k, u, _, hu, hk => by
    unfold ndsC
    rw [List.flatMap_cons, List.getElem?_append_left (by show 0 * 4 + k < 4; omega), Nat.zero_mul, Nat.zero_add]
    exact hu
  | d :: ns, i + 1, k, u, h, hu, hk => by
    have ih := ndsC_at ns i k u (by simpa using h) (by simpa [ndAt] using hu) hk
    have h4 : (ndCells d).length = 4 := rfl
    unfold ndsC at *
    rw [List.flatMap_cons, List.getElem?_append_right (by rw [h4]; omega), h4, show (i + 1) * 4 + k - 4 = i * 4 + k by omega]
    exact ih
theorem Lies.nodes {S : Nat → Prop} {w : World} {ao : Option Addr} {ns : List Nd} (h : Lies S w ao (ndsC ns)) {i : Nat} (hi : i < ns.length) : ∃ b off, ao = some ⟨b, off, none⟩ ∧ S b ∧ b < w.heap.size ∧
    w.cell? ⟨b, off + i * 4, none⟩ = some (.int .i64 (ndAt ns i).op) ∧ w.cell? ⟨b, off + i * 4 + 1, none⟩ = some (.int .i64 (ndAt ns i).a) ∧ w.cell? ⟨b, off + i * 4 + 2, none⟩ = some (.int .i64 (ndAt ns i).b) ∧ w.cell? ⟨b, off + i * 4 + 3, none⟩ = some (.int .i64 (ndAt ns i).next) := by
  rcases h with h | ⟨b, off, h1, h2, h3⟩
  · have := congrArg List.length h
    rw [ndsC_len] at this
    have : ns.length * 4 = 0 := this
    omega
  · have c0 := h3 _ _ (ndsC_at ns i 0 _ hi rfl (by decide))
    have c1 := h3 _ _ (ndsC_at ns i 1 _ hi rfl (by decide))
    have c2 := h3 _ _ (ndsC_at ns i 2 _ hi rfl (by decide))
    have c3 := h3 _ _ (ndsC_at ns i 3 _ hi rfl (by decide))
    exact ⟨b, off, h1, h2, cell_lt c0, by simpa using c0, by rw [Nat.add_assoc]; exact c1, by rw [Nat.add_assoc]; exact c2, by rw [Nat.add_assoc]; exact c3⟩
theorem Lies.ints {S : Nat → Prop} {w : World} {ao : Option Addr} {os : List Int} (h : Lies S w ao (intsC os)) {i : Nat} (hi : i < os.length) : ∃ b off, ao = some ⟨b, off, none⟩ ∧ S b ∧ b < w.heap.size ∧ w.cell? ⟨b, off + i, none⟩ = some (.int .i64 (outAt os i)) := by
  rcases h with h | ⟨b, off, h1, h2, h3⟩
  · have := congrArg List.length h
    simp [intsC] at this
    subst this
    exact absurd hi (Nat.not_lt_zero _)
  · have c0 := h3 i (.int .i64 (outAt os i)) (by simp [intsC, outAt, hi])
    exact ⟨b, off, h1, h2, cell_lt c0, c0⟩
theorem Lies.bits {S : Nat → Prop} {w : World} {ao : Option Addr} {l : List Bool} (h : Lies S w ao (bitsC l)) {i : Nat} (hi : i < l.length) : ∃ b off, ao = some ⟨b, off, none⟩ ∧ S b ∧ b < w.heap.size ∧ w.cell? ⟨b, off + i, none⟩ = some (.bool (bit l i)) := by
  rcases h with h | ⟨b, off, h1, h2, h3⟩
  · have := congrArg List.length h
    simp [bitsC] at this
    subst this
    exact absurd hi (Nat.not_lt_zero _)
  · have c0 := h3 i (.bool (bit l i)) (by simp [bitsC, bit, hi])
    exact ⟨b, off, h1, h2, cell_lt c0, c0⟩
/-- a whole block is such cells -/
theorem Lies.blk {S : Nat → Prop} {w : World} {b : Nat} {cs : List Value} {t : TypeId} {z : Nat × Nat} (h : w.heap[b]? = some (.cells cs.toArray t z)) (hS : S b) : Lies S w (some ⟨b, 0, none⟩) cs :=
  .inr ⟨b, 0, rfl, hS, fun i u hu => by rw [Nat.zero_add, blk_cell h]; simpa using hu⟩

theorem bits_set (l : List Bool) (k : Nat) (b : Bool) : (bitsC l).toArray.setIfInBounds k (.bool b) = (bitsC (l.set k b)).toArray := by
  simp [bitsC, List.map_set]
theorem bits_cell {w : World} {b : Nat} {l : List Bool} {t : TypeId} {z : Nat × Nat} (h : w.heap[b]? = some (.cells (bitsC l).toArray t z)) {i : Nat} (hi : i < l.length) : w.cell? ⟨b, i, none⟩ = some (.bool (bit l i)) := by
  rw [blk_cell h]; simp [bitsC, bit, hi]
end Go.Proofs.Ytacgepdmhdcdkaa
