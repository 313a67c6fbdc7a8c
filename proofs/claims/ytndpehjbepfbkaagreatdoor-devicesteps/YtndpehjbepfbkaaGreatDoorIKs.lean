/-
  WORLDS in which some blocks may have changed; rows that are built behind such.
-/
import Derived.Test.YtndpehjbepfbkaaGreatDoorIXs
set_option linter.unusedSimpArgs false
set_option linter.unusedVariables false
namespace Go.Proofs.YtndpehjbepfbkaaGreatDoor
open Go.RowKit

/-- all blocks but those of which S holds are as they were -/
structure KeptS (S : Nat → Prop) (w w' : World) : Prop where
  os : w'.os = w.os
  tape : w'.tape = w.tape
  output : w'.output = w.output
  size : w.heap.size ≤ w'.heap.size
  block : ∀ k, k < w.heap.size → ¬ S k → w'.heap[k]? = w.heap[k]?
theorem KeptS.refl (S : Nat → Prop) (w : World) : KeptS S w w := ⟨rfl, rfl, rfl, Nat.le_refl _, fun _ _ _ => rfl⟩
theorem KeptS.trans {S : Nat → Prop} {a b c : World} (h : KeptS S a b) (k : KeptS S b c) : KeptS S a c :=
  ⟨k.os.trans h.os, k.tape.trans h.tape, k.output.trans h.output, Nat.le_trans h.size k.size, fun i hi hn => (k.block i (Nat.lt_of_lt_of_le hi h.size) hn).trans (h.block i hi hn)⟩
theorem KeptS.of {S : Nat → Prop} {w w' : World} (h : Below w.heap.size w w') : KeptS S w w' := ⟨h.os, h.tape, h.output, h.size, fun k hk _ => h.block k hk⟩
theorem KeptS.one {S : Nat → Prop} {R : Nat} {w w' : World} (h : Kept R w w') (hR : S R) : KeptS S w w' := ⟨h.os, h.tape, h.output, h.size, fun k hk hn => h.block k hk fun e => hn (e ▸ hR)⟩
theorem KeptS.imp {S T : Nat → Prop} {w w' : World} (h : KeptS S w w') (hi : ∀ k, k < w.heap.size → S k → T k) : KeptS T w w' := ⟨h.os, h.tape, h.output, h.size, fun k hk hn => h.block k hk fun hs => hn (hi k hk hs)⟩
theorem KeptS.below {S : Nat → Prop} {a b c : World} (h : KeptS S a b) (k : Below b.heap.size b c) : KeptS S a c := h.trans (KeptS.of k)
theorem KeptS.blk {S : Nat → Prop} {w w' : World} (h : KeptS S w w') {b : Nat} {o : Obj} (hc : w.heap[b]? = some o) (hn : ¬ S b) : w'.heap[b]? = some o := (h.block b (blk_lt hc) hn).trans hc
theorem KeptS.set {S : Nat → Prop} {w w' : World} (h : KeptS S w w') (R i : Nat) (v : Value) (hR : S R) : KeptS S w (w'.setCell ⟨R, i, none⟩ v) := h.trans (KeptS.one (Kept.set w' i v) hR)
/-- what is kept but for one block, and made -/
theorem Kept.ofS {S : Nat → Prop} {R : Nat} {w w' : World} (h : KeptS S w w') (hS : ∀ k, k < w.heap.size → S k → k = R) : Kept R w w' := ⟨h.os, h.tape, h.output, h.size, fun k hk hn => h.block k hk fun hs => hn (hS k hk hs)⟩

/-- a row that is built behind a world, while the blocks of S change -/
structure RowS (S : Nat → Prop) (e size : Nat) (w0 wr : World) (va : Option Addr) (vc k : Nat) (cs : List Value) : Prop where
  kept : KeptS S w0 wr
  mine : Mine e size w0.heap.size wr (.slice va k vc) k cs
theorem RowS.none (S : Nat → Prop) (e size : Nat) (w : World) : RowS S e size w w .none 0 0 [] := ⟨KeptS.refl _ _, Mine.none _⟩
theorem RowS.start {S : Nat → Prop} (e size : Nat) {w w1 : World} (h : KeptS S w w1) : RowS S e size w w1 .none 0 0 [] := ⟨h, Mine.none _⟩
theorem RowS.more {S : Nat → Prop} {e size : Nat} {w0 wr wy : World} {va : Option Addr} {vc k : Nat} {cs : List Value} (h : RowS S e size w0 wr va vc k cs) (hb : KeptS S wr wy) (hS : ∀ b, S b → b < w0.heap.size) : RowS S e size w0 wy va vc k cs :=
  ⟨h.kept.trans hb, h.mine.same fun b ho hl => hb.block b hl fun hs => by have := h.mine.new b ho; have := hS b hs; omega⟩
theorem RowS.lies {S : Nat → Prop} {e size : Nat} {w0 wr : World} {va : Option Addr} {vc k : Nat} {cs : List Value} (h : RowS S e size w0 wr va vc k cs) : Lies (FromB w0.heap.size) wr va cs := h.mine.lies fun b hb => h.mine.new b hb
theorem RowS.app {S : Nat → Prop} {e size : Nat} {w0 wr : World} {va : Option Addr} {vc k : Nat} {cs : List Value} (h : RowS S e size w0 wr va vc k cs) {t : TypeId} {z : Value} {by0 : Nat} (hi : ∃ i : TypeInfo, Tryz.prog.info? e = some i ∧ i.zero = some z ∧ i.size = size ∧ i.bytes = by0) (hs0 : 0 < size) (hby : by0 ≤ 1000) (hz : z.cells.size = size) (ht : Tryz.prog.underlying t = some (.slice e)) (hS : ∀ b, S b → b < w0.heap.size) (new : List Value) (ao : Option Addr) (c m n' : Nat) (hnew : Lies AnyB wr ao new) (hm : new.length = m * size) (h1 : ∀ u ∈ new, u.oneCell' = true) (hn : n' = k + m) (hbig : n' ≤ 1000000) :
    ∃ va' vc' w2, (Builtin.append_ #[t, t] t #[.slice va k vc, .slice ao m c]).run Tryz.prog wr = .ok (.slice va' n' vc') w2 ∧ RowS S e size w0 w2 va' vc' n' (cs ++ new) ∧ (∀ b, (Value.slice va' n' vc').ownBlock = some b → (Value.slice va k vc).ownBlock = some b ∨ wr.heap.size ≤ b) ∧ wr.grownBy w2 (Value.slice va k vc).ownBlock := by
  obtain ⟨i, hi, hzz, hs, hb2⟩ := hi
  subst hn
  obtain ⟨va', vc', w2, hr, hmm, hg, hnb⟩ := app_own (P := Tryz.prog) (w := wr) t t e i z size by0 ht hi hzz hs hb2 hz hs0 (.slice va k vc) k _ h.mine.own ao m c new hm hnew h1 hbig hby
  refine ⟨va', vc', w2, hr, ⟨⟨hg.os.trans h.kept.os, hg.tape.trans h.kept.tape, hg.output.trans h.kept.output, Nat.le_trans h.kept.size hg.size, fun j hj hn => (hg.block j (Nat.lt_of_lt_of_le hj h.kept.size) (fun e => by have := h.mine.new j e.symm; omega)).trans (h.kept.block j hj hn)⟩, hmm, fun b hb => (hnb b hb).elim (h.mine.new b) (Nat.le_trans h.kept.size)⟩, hnb, hg⟩

/-! a reader of bytes -/
def RdrAt (R : Nat) (l : List UInt8) (w : World) : Prop := w.heap[R]? = some (.cells #[.string ⟨l.toArray⟩] 98 (0, 0))
theorem RdrAt.cell {R : Nat} {l : List UInt8} {w : World} (h : RdrAt R l w) : w.cell? ⟨R, 0, none⟩ = some (.string ⟨l.toArray⟩) := by rw [blk_cell h]; rfl
theorem RdrAt.frozen {R : Nat} {l : List UInt8} {w : World} (h : RdrAt R l w) : w.frozen? ⟨R, 0, none⟩ = false := blk_frozen h 0
theorem RdrAt.set {R : Nat} {l m : List UInt8} {w : World} (h : RdrAt R l w) : RdrAt R m (w.setCell ⟨R, 0, none⟩ (.string ⟨m.toArray⟩)) := by
  unfold RdrAt; rw [blk_set h]; rfl
theorem RdrAt.below {R : Nat} {l : List UInt8} {w w' : World} (h : RdrAt R l w) (hb : Below w.heap.size w w') : RdrAt R l w' := Below.blk hb h
theorem str_tail (b : UInt8) (l : List UInt8) : (⟨(b :: l).toArray⟩ : ByteArray).extract 1 (⟨(b :: l).toArray⟩ : ByteArray).size = ⟨l.toArray⟩ := by
  apply ByteArray.ext
  apply Array.toList_inj.1
  rw [Lib.extract_data]
  have : (⟨(b :: l).toArray⟩ : ByteArray).size = l.length + 1 := by simp [ByteArray.size]
  rw [this]
  simp
theorem str_size (l : List UInt8) : (⟨l.toArray⟩ : ByteArray).size = l.length := by simp [ByteArray.size]
end Go.Proofs.YtndpehjbepfbkaaGreatDoor
