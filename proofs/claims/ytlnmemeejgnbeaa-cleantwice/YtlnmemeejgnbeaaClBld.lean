/-
  A NET THAT IS BUILT: a node more, an out more.
-/
import Derived.Test.YtlnmemeejgnbeaaClCd
set_option linter.unusedSimpArgs false
set_option linter.unusedVariables false
namespace Go.Proofs.Ytlnmemeejgnbeaa
open Go.RowKit

theorem Below.keptOn {B R : Nat} {w0 w w' : World} (h : Below B w0 w) (hk : Kept R w w') (hR : B ≤ R) (hB : B ≤ w.heap.size) : Below B w0 w' :=
  ⟨hk.os.trans h.os, hk.tape.trans h.tape, hk.output.trans h.output, Nat.le_trans h.size hk.size, fun k hl => (hk.block k (Nat.lt_of_lt_of_le hl hB) (by omega)).trans (h.block k hl)⟩
theorem Below.grownOn {B : Nat} {w0 w w' : World} {row : Option Nat} (h : Below B w0 w) (hk : w.grownBy w' row) (hR : ∀ b, row = some b → B ≤ b) (hB : B ≤ w.heap.size) : Below B w0 w' :=
  ⟨hk.os.trans h.os, hk.tape.trans h.tape, hk.output.trans h.output, Nat.le_trans h.size hk.size, fun k hl => (hk.block k (Nat.lt_of_lt_of_le hl hB) (fun e => by have := hR k e.symm; omega)).trans (h.block k hl)⟩

structure Bld (B : Nat) (w wx : World) (M : Nat) (given : Int) (na : Option Addr) (nc : Nat) (oa : Option Addr) (oc : Nat) (ms : List Nd) (mo : List Int) : Prop where
  below : Below B w wx
  me : wx.heap[M]? = some (.cells #[.int .i64 given, .slice na ms.length nc, .slice oa mo.length oc] 28 (0, 0))
  nodes : Mine 26 4 B wx (.slice na ms.length nc) ms.length (ndsC ms)
  outs : Mine 3 1 B wx (.slice oa mo.length oc) mo.length (intsC mo)
  dn : ∀ b, (Value.slice na ms.length nc).ownBlock = some b → b ≠ M
  dq : ∀ b, (Value.slice oa mo.length oc).ownBlock = some b → b ≠ M
  dd : ∀ b, (Value.slice na ms.length nc).ownBlock = some b → (Value.slice oa mo.length oc).ownBlock ≠ some b
  mB : B ≤ M
  hB : B ≤ wx.heap.size
theorem Bld.more {B : Nat} {w wx wy : World} {M : Nat} {given : Int} {na : Option Addr} {nc : Nat} {oa : Option Addr} {oc : Nat} {ms : List Nd} {mo : List Int} (h : Bld B w wx M given na nc oa oc ms mo) (hb : Below wx.heap.size wx wy) : Bld B w wy M given na nc oa oc ms mo :=
  ⟨h.below.trans (hb.mono h.hB), Below.blk hb h.me, h.nodes.below hb, h.outs.below hb, h.dn, h.dq, h.dd, h.mB, Nat.le_trans h.hB hb.size⟩
theorem Mine.lt {e size B : Nat} {w : World} {v : Value} {n : Nat} {xs : List Value} (h : Mine e size B w v n xs) {b : Nat} (hb : v.ownBlock = some b) : b < w.heap.size := (h.own.lt b hb).2
theorem Bld.addN {B : Nat} {w wx w2 : World} {M : Nat} {given : Int} {na na' : Option Addr} {nc nc' n' : Nat} {oa : Option Addr} {oc : Nat} {ms new : List Nd} {mo : List Int} (h : Bld B w wx M given na nc oa oc ms mo)
    (hn : n' = (ms ++ new).length) (hm : Mine 26 4 B w2 (.slice na' n' nc') n' (ndsC (ms ++ new))) (hg : wx.grownBy w2 (Value.slice na ms.length nc).ownBlock) (hnew : ∀ b, (Value.slice na' n' nc').ownBlock = some b → (Value.slice na ms.length nc).ownBlock = some b ∨ wx.heap.size ≤ b) :
    Bld B w (w2.setCell ⟨M, 1, none⟩ (.slice na' n' nc')) M given na' nc' oa oc (ms ++ new) mo := by
  have hMl := blk_lt h.me
  have hM2 : w2.heap[M]? = wx.heap[M]? := hg.block M hMl fun e => h.dn M e.symm rfl
  have hown : ∀ b, (Value.slice na' n' nc').ownBlock = some b → b ≠ M := fun b hb => by
    rcases hnew b hb with e | e
    · exact h.dn b e
    · omega
  subst hn
  refine ⟨(Below.grownOn h.below hg (fun b hb => h.nodes.new b hb) h.hB).setCell h.mB _, ?_, ?_, ?_, hown, h.dq, ?_, h.mB, by simp only [World.setCell, Array.size_modify]; exact Nat.le_trans h.hB hg.size⟩
  · rw [blk_set (hM2.trans h.me)]; rfl
  · exact hm.same fun b hb _ => Below.heap_setCell w2 ⟨M, 1, none⟩ _ b (hown b hb)
  · refine h.outs.same fun c hc hl => ?_
    rw [Below.heap_setCell w2 ⟨M, 1, none⟩ _ c (h.dq c hc)]
    exact hg.block c hl fun e => h.dd c e.symm hc
  · intro b hb hc
    rcases hnew b hb with e | e
    · exact h.dd b e hc
    · have := h.outs.lt hc; omega
theorem Bld.addO {B : Nat} {w wx w2 : World} {M : Nat} {given : Int} {na : Option Addr} {nc n' : Nat} {oa oa' : Option Addr} {oc oc' : Nat} {ms : List Nd} {mo new : List Int} (h : Bld B w wx M given na nc oa oc ms mo)
    (hn : n' = (mo ++ new).length) (hm : Mine 3 1 B w2 (.slice oa' n' oc') n' (intsC (mo ++ new))) (hg : wx.grownBy w2 (Value.slice oa mo.length oc).ownBlock) (hnew : ∀ b, (Value.slice oa' n' oc').ownBlock = some b → (Value.slice oa mo.length oc).ownBlock = some b ∨ wx.heap.size ≤ b) :
    Bld B w (w2.setCell ⟨M, 2, none⟩ (.slice oa' n' oc')) M given na nc oa' oc' ms (mo ++ new) := by
  have hMl := blk_lt h.me
  have hM2 : w2.heap[M]? = wx.heap[M]? := hg.block M hMl fun e => h.dq M e.symm rfl
  have hown : ∀ b, (Value.slice oa' n' oc').ownBlock = some b → b ≠ M := fun b hb => by
    rcases hnew b hb with e | e
    · exact h.dq b e
    · omega
  subst hn
  refine ⟨(Below.grownOn h.below hg (fun b hb => h.outs.new b hb) h.hB).setCell h.mB _, ?_, ?_, ?_, h.dn, hown, ?_, h.mB, by simp only [World.setCell, Array.size_modify]; exact Nat.le_trans h.hB hg.size⟩
  · rw [blk_set (hM2.trans h.me)]; rfl
  · refine h.nodes.same fun c hc hl => ?_
    rw [Below.heap_setCell w2 ⟨M, 2, none⟩ _ c (h.dn c hc)]
    exact hg.block c hl fun e => h.dd c hc e.symm
  · exact hm.same fun b hb _ => Below.heap_setCell w2 ⟨M, 2, none⟩ _ b (hown b hb)
  · intro b hb hc
    rcases hnew b hc with e | e
    · exact h.dd b hb e
    · have := h.nodes.lt hb; omega
theorem Bld.net {B : Nat} {w wx : World} {M : Nat} {given : Int} {na : Option Addr} {nc : Nat} {oa : Option Addr} {oc : Nat} {ms : List Nd} {mo : List Int} (h : Bld B w wx M given na nc oa oc ms mo) : NetAt ⟨M, na, nc, oa, oc⟩ AnyB wx given ms mo :=
  ⟨h.me, h.nodes.lies fun _ _ => trivial, h.outs.lies fun _ _ => trivial⟩
theorem Bld.s1 {B : Nat} {w wx : World} {M : Nat} {given : Int} {na : Option Addr} {nc : Nat} {oa : Option Addr} {oc : Nat} {ms : List Nd} {mo : List Int} (h : Bld B w wx M given na nc oa oc ms mo) {W : World} (hg : wx.grownBy W (Value.slice na ms.length nc).ownBlock) : W.cell? ⟨M, 1, none⟩ = some (.slice na ms.length nc) ∧ W.frozen? ⟨M, 1, none⟩ = false := by
  have hM2 : W.heap[M]? = wx.heap[M]? := hg.block M (blk_lt h.me) fun e => h.dn M e.symm rfl
  exact ⟨by rw [blk_cell (hM2.trans h.me)]; rfl, blk_frozen (hM2.trans h.me) 1⟩
theorem Bld.s2 {B : Nat} {w wx : World} {M : Nat} {given : Int} {na : Option Addr} {nc : Nat} {oa : Option Addr} {oc : Nat} {ms : List Nd} {mo : List Int} (h : Bld B w wx M given na nc oa oc ms mo) {W : World} (hg : wx.grownBy W (Value.slice oa mo.length oc).ownBlock) : W.cell? ⟨M, 2, none⟩ = some (.slice oa mo.length oc) ∧ W.frozen? ⟨M, 2, none⟩ = false := by
  have hM2 : W.heap[M]? = wx.heap[M]? := hg.block M (blk_lt h.me) fun e => h.dq M e.symm rfl
  exact ⟨by rw [blk_cell (hM2.trans h.me)]; rfl, blk_frozen (hM2.trans h.me) 2⟩
/-- three cells of one block -/
theorem blk_set3 {w : World} {b : Nat} {x y z : Value} {t : TypeId} {f : Nat × Nat} (h : w.heap[b]? = some (.cells #[x, y, z] t f)) (x' y' z' : Value) : (((w.setCell ⟨b, 0, none⟩ x').setCell ⟨b, 1, none⟩ y').setCell ⟨b, 2, none⟩ z').heap[b]? = some (.cells #[x', y', z'] t f) := by
  rw [blk_set (blk_set (blk_set h 0 x') 1 y') 2 z']; rfl

/-- rows of bits that came in -/
def rowAt (gs : List (List Bool)) (r : Nat) : List Bool := gs[r]?.getD []
def Grid (w : World) (ga : Option Addr) (A : Nat → Option Addr) (C : Nat → Nat) (gs : List (List Bool)) : Prop :=
  ∀ r, r < gs.length → (∃ b off, ga = some ⟨b, off, none⟩ ∧ w.cell? ⟨b, off + r, none⟩ = some (.slice (A r) (rowAt gs r).length (C r))) ∧ Lies AnyB w (A r) (bitsC (rowAt gs r))
theorem Grid.below {w w' : World} {ga : Option Addr} {A : Nat → Option Addr} {C : Nat → Nat} {gs : List (List Bool)} (h : Grid w ga A C gs) (hb : Below w.heap.size w w') : Grid w' ga A C gs := fun r hr => by
  obtain ⟨⟨b, off, h1, h2⟩, h3⟩ := h r hr
  exact ⟨⟨b, off, h1, (hb.cell (cell_lt h2)).trans h2⟩, h3.below hb⟩
end Go.Proofs.Ytlnmemeejgnbeaa
