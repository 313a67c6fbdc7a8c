/-
  ROWS that are built, and blocks beside them that stay as they are.
-/
import Derived.Test.YtndpehjbepfbkaaGreatDoorIRow
set_option linter.unusedSimpArgs false
set_option linter.unusedVariables false
namespace Go.Proofs.YtndpehjbepfbkaaGreatDoor
open Go.RowKit

theorem Mine.lt {e size B : Nat} {w : World} {v : Value} {n : Nat} {xs : List Value} (h : Mine e size B w v n xs) : ∀ b, v.ownBlock = some b → b < w.heap.size := by
  intro b hb
  rcases h.own.2 with ⟨rfl, _⟩ | ⟨g, cap, cur, rfl, hbg, hg, hr⟩
  · cases hb
  · cases hb; exact blk_lt hg
/-- a row of numbers that is built behind a world; the blocks Xs are not its own -/
structure RowX (Xs : List Nat) (w0 wr : World) (va : Option Addr) (vc k : Nat) (l : List Int) : Prop where
  row : RowI w0 wr va vc k l
  xl : ∀ x ∈ Xs, x < wr.heap.size
  nx : ∀ b, (Value.slice va k vc).ownBlock = some b → b ∉ Xs
theorem RowX.begin {w0 wr : World} {va : Option Addr} {vc k : Nat} {l : List Int} (h : RowI w0 wr va vc k l) : RowX [] w0 wr va vc k l := ⟨h, fun x hx => (by cases hx), fun b hb hx => (by cases hx)⟩
theorem RowX.drew {Xs : List Nat} {w0 wr : World} {va : Option Addr} {vc k : Nat} {l : List Int} (h : RowX Xs w0 wr va vc k l) : RowX Xs w0 wr.drew va vc k l := ⟨h.row.more (Below.refl _ _).drew, h.xl, h.nx⟩
theorem RowX.more {Xs : List Nat} {w0 wr wy : World} {va : Option Addr} {vc k : Nat} {l : List Int} (h : RowX Xs w0 wr va vc k l) (hb : Below wr.heap.size wr wy) : RowX Xs w0 wy va vc k l := ⟨h.row.more hb, fun x hx => Nat.lt_of_lt_of_le (h.xl x hx) hb.size, h.nx⟩
theorem RowX.add {Xs : List Nat} {w0 wr : World} {va : Option Addr} {vc k : Nat} {l : List Int} (h : RowX Xs w0 wr va vc k l) (o : Obj) : RowX (wr.heap.size :: Xs) w0 (wr.alloc o) va vc k l :=
  ⟨h.row.more (below_alloc wr o), fun x hx => by
    rcases List.mem_cons.1 hx with rfl | hx
    · simp
    · exact Nat.lt_of_lt_of_le (h.xl x hx) (below_alloc wr o).size, fun b hb hx => by
    rcases List.mem_cons.1 hx with rfl | hx
    · exact absurd (h.row.row.mine.lt _ hb) (Nat.lt_irrefl _)
    · exact h.nx b hb hx⟩
theorem RowX.app {Xs : List Nat} {w0 wr : World} {va : Option Addr} {vc k : Nat} {l : List Int} (h : RowX Xs w0 wr va vc k l) (new : List Int) (ao : Option Addr) (c m n' : Nat) (hnew : Lies AnyB wr ao (intsC new)) (hm : new.length = m) (hn : n' = k + m) (hbig : n' ≤ 1000000) :
    ∃ va' vc' w2, (Builtin.append_ #[22, 22] 22 #[.slice va k vc, .slice ao m c]).run Tryz.prog wr = .ok (.slice va' n' vc') w2 ∧ RowX Xs w0 w2 va' vc' n' (l ++ new) ∧ ∀ x ∈ Xs, w2.heap[x]? = wr.heap[x]? := by
  obtain ⟨i, hi, hzz, hs, hb2⟩ := info_in
  subst hn hm
  obtain ⟨va', vc', w2, hr, hmm, hg, hnb⟩ := app_own (P := Tryz.prog) (w := wr) 22 22 3 i _ 1 8 (by kernel_rfl) hi hzz hs hb2 rfl (by decide) (.slice va k vc) k _ h.row.row.mine.own ao new.length c (intsC new) (by simp [intsC]) hnew (ints_one new) hbig (by decide)
  refine ⟨va', vc', w2, hr, ⟨⟨⟨Below.grownW h.row.row.below hg fun b hb => h.row.row.mine.new b hb, by rw [intsC_app]; exact hmm, fun b hb => (hnb b hb).elim (h.row.row.mine.new b) (Nat.le_trans h.row.row.below.size)⟩, by rw [List.length_append, h.row.len]⟩, fun x hx => Nat.lt_of_lt_of_le (h.xl x hx) hg.size, fun b hb hx => ?_⟩, fun x hx => hg.block x (h.xl x hx) fun e => h.nx x e.symm hx⟩
  rcases hnb b hb with hb | hb
  · exact h.nx b hb hx
  · exact absurd (h.xl b hx) (by omega)
theorem two_cells {W : World} {X : Nat} {c0 c1 : Value} {T : TypeId} {z : Nat × Nat} (h : W.heap[X]? = some (.cells #[c0, c1] T z)) : W.cell? ⟨X, 0, none⟩ = some c0 ∧ W.cell? ⟨X, 1, none⟩ = some c1 := ⟨by rw [blk_cell h]; rfl, by rw [blk_cell h]; rfl⟩
/-- a row of one number in a block -/
theorem one_lies {W : World} {X : Nat} {v : Int} {T : TypeId} {z : Nat × Nat} (h : W.heap[X]? = some (.cells #[.int .i64 v] T z)) : Lies AnyB W (some ⟨X, 0, none⟩) (intsC [v]) := Lies.blk (cs := intsC [v]) h trivial
theorem two_lies {W : World} {X : Nat} {v u : Int} {T : TypeId} {z : Nat × Nat} (h : W.heap[X]? = some (.cells #[.int .i64 v, .int .i64 u] T z)) : Lies AnyB W (some ⟨X, 0, none⟩) (intsC [v, u]) := Lies.blk (cs := intsC [v, u]) h trivial
theorem regsN_snoc (rs : List Rg) (q : Nat) (h : q < rs.length) : regsN (rs.take (q + 1)) = regsN (rs.take q) ++ regN (rgAt rs q) := by
  rw [← take_one h, rgAt_mem]
  show (rs.take q ++ [rgAt rs q]).flatMap regN = _
  rw [List.flatMap_append]; simp [regsN]
theorem lutsN_snoc (ls : List Lt) (q : Nat) (h : q < ls.length) : lutsN (ls.take (q + 1)) = lutsN (ls.take q) ++ lutN (ltAt ls q) := by
  rw [← take_one h, ltAt_mem]
  show (ls.take q ++ [ltAt ls q]).flatMap lutN = _
  rw [List.flatMap_append]; simp [lutsN]
end Go.Proofs.YtndpehjbepfbkaaGreatDoor
