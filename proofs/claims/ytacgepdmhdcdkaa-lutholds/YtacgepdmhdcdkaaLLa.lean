/-
  MEMORY: what lay begins with.
-/
import Derived.Test.YtacgepdmhdcdkaaLLq
import Derived.Test.YtacgepdmhdcdkaaGRight
set_option linter.unusedSimpArgs false
set_option linter.unusedVariables false
namespace Go.Proofs.Ytacgepdmhdcdkaa
open Go.RowKit Go.Maps

theorem blk_after {w : World} {k : Nat} {o : Obj} (h : w.heap[k]? = some o) (o' : Obj) : (w.alloc o').heap[k]? = some o := Below.blk (below_alloc w o') h
def lay3 (w : World) (P : Nat) (gn : Int) : World := ((w.alloc (.cells #[.pointer (some ⟨P, 0, none⟩)] 65)).alloc (.cells #[.int .i64 gn, .slice none 0 0, .slice none 0 0, .slice none 0 0] 26)).alloc (.map #[] 0)
def ahF (E : Nat) : Value := .func (.func 35) #[] #[.pointer (some ⟨E, 0, none⟩), .pointer (some ⟨E + 5, 0, none⟩)]
def lkF (E : Nat) : Value := .func (.func 36) #[] #[.pointer (some ⟨E, 0, none⟩), .pointer (some ⟨E + 6, 0, none⟩), .pointer (some ⟨E + 4, 0, none⟩), .pointer (some ⟨E + 3, 0, none⟩)]
def lay7 (w : World) (P : Nat) (gn : Int) : World := ((((lay3 w P gn).alloc (.cells #[.pointer (some ⟨w.heap.size + 1, 0, none⟩)] 35)).alloc (.cells #[.map (some (w.heap.size + 2))] 78)).alloc (.cells #[lkF w.heap.size] 79)).alloc (.cells #[ahF w.heap.size] 79)
structure Lay7 (w : World) (P : Nat) (gn : Int) (W : World) : Prop where
  b0 : W.heap[w.heap.size]? = some (.cells #[.pointer (some ⟨P, 0, none⟩)] 65 (0, 0))
  b1 : W.heap[w.heap.size + 1]? = some (.cells #[.int .i64 gn, .slice none 0 0, .slice none 0 0, .slice none 0 0] 26 (0, 0))
  b3 : W.heap[w.heap.size + 3]? = some (.cells #[.pointer (some ⟨w.heap.size + 1, 0, none⟩)] 35 (0, 0))
  b4 : W.heap[w.heap.size + 4]? = some (.cells #[.map (some (w.heap.size + 2))] 78 (0, 0))
  low : Below w.heap.size w W
  map : MapI W (w.heap.size + 2) 0 (.map [])
theorem lay7_is (w : World) (P : Nat) (gn : Int) : Lay7 w P gn (lay7 w P gn) ∧ (lay7 w P gn).heap[w.heap.size + 5]? = some (.cells #[lkF w.heap.size] 79 (0, 0)) ∧ (lay7 w P gn).heap[w.heap.size + 6]? = some (.cells #[ahF w.heap.size] 79 (0, 0)) := by
  unfold lay7 lay3
  have s0 : w.heap.size = w.heap.size := rfl
  generalize e1 : w.alloc (.cells #[.pointer (some ⟨P, 0, none⟩)] 65) = w1
  have b0 : w1.heap[w.heap.size]? = _ := e1 ▸ blk_new w (.cells #[.pointer (some ⟨P, 0, none⟩)] 65)
  have z1 : w1.heap.size = w.heap.size + 1 := by rw [← e1]; simp
  have l1 : Below w.heap.size w w1 := e1 ▸ below_alloc w _
  clear e1
  generalize e2 : w1.alloc (.cells #[.int .i64 gn, .slice none 0 0, .slice none 0 0, .slice none 0 0] 26) = w2
  have b1 : w2.heap[w1.heap.size]? = _ := e2 ▸ blk_new w1 (.cells #[.int .i64 gn, .slice none 0 0, .slice none 0 0, .slice none 0 0] 26)
  have z2 : w2.heap.size = w.heap.size + 2 := by rw [← e2]; simp [z1]
  have l2 : Below w1.heap.size w1 w2 := e2 ▸ below_alloc w1 _
  clear e2
  generalize e3 : w2.alloc (.map #[] 0) = w3
  have m3 : MapI w3 w2.heap.size 0 (.map []) := e3 ▸ World.ownsMap_made w2 Try.prog 3 (plainElem (H := Unit) Try.prog 3)
  have z3 : w3.heap.size = w.heap.size + 3 := by rw [← e3]; simp [z2]
  have l3 : Below w2.heap.size w2 w3 := e3 ▸ below_alloc w2 _
  clear e3
  generalize e4 : w3.alloc (.cells #[.pointer (some ⟨w.heap.size + 1, 0, none⟩)] 35) = w4
  have b3 : w4.heap[w3.heap.size]? = _ := e4 ▸ blk_new w3 (.cells #[.pointer (some ⟨w.heap.size + 1, 0, none⟩)] 35)
  have z4 : w4.heap.size = w.heap.size + 4 := by rw [← e4]; simp [z3]
  have l4 : Below w3.heap.size w3 w4 := e4 ▸ below_alloc w3 _
  clear e4
  generalize e5 : w4.alloc (.cells #[.map (some (w.heap.size + 2))] 78) = w5
  have b4 : w5.heap[w4.heap.size]? = _ := e5 ▸ blk_new w4 (.cells #[.map (some (w.heap.size + 2))] 78)
  have z5 : w5.heap.size = w.heap.size + 5 := by rw [← e5]; simp [z4]
  have l5 : Below w4.heap.size w4 w5 := e5 ▸ below_alloc w4 _
  clear e5
  generalize e6 : w5.alloc (.cells #[lkF w.heap.size] 79) = w6
  have b5 : w6.heap[w5.heap.size]? = _ := e6 ▸ blk_new w5 (.cells #[lkF w.heap.size] 79)
  have z6 : w6.heap.size = w.heap.size + 6 := by rw [← e6]; simp [z5]
  have l6 : Below w5.heap.size w5 w6 := e6 ▸ below_alloc w5 _
  clear e6
  have b6 := blk_new w6 (.cells #[ahF w.heap.size] 79)
  have l7 := below_alloc w6 (.cells #[ahF w.heap.size] 79)
  rw [z1] at b1
  rw [z2] at m3
  rw [z3] at b3
  rw [z4] at b4
  rw [z5] at b5
  rw [z6] at b6
  refine ⟨⟨Below.blk l7 (Below.blk l6 (Below.blk l5 (Below.blk l4 (Below.blk l3 (Below.blk l2 b0))))), Below.blk l7 (Below.blk l6 (Below.blk l5 (Below.blk l4 (Below.blk l3 b1)))), Below.blk l7 (Below.blk l6 (Below.blk l5 b3)), Below.blk l7 (Below.blk l6 b4), Below.step l1 (Below.step l2 (Below.step l3 (Below.step l4 (Below.step l5 (Below.step l6 l7))))), ((((m3.below l4).below l5).below l6).below l7)⟩, Below.blk l7 b5, b6⟩
theorem lay_start {B P Dg first reg n : Nat} {wa : Option Addr} {wc : Nat} {X : Nat → List Wy} {SA : Nat → Option Addr} {SC : Nat → Nat} {D : List Int} {w : World} (h : PkAt B P Dg w first reg n wa wc X SA SC D) (gn : Int) :
    LNet w.heap.size P first n wa wc X SA SC gn w (lay7 w P gn) [] [] ⟨[], []⟩ none 0 [] (.map []) none 0 none 0 := by
  obtain ⟨h7, h5, h6⟩ := lay7_is w P gn
  have hlow := h7.low
  have hme := Below.blk hlow h.me
  have hl : ∀ (S : Nat → Prop) (ao : Option Addr) (cs : List Value), Lies S w ao cs → Lies (fun b => b < w.heap.size) (lay7 w P gn) ao cs := fun S ao cs hc => ((hc.imp (T := fun b => b < w.heap.size) fun b hb _ => hb).below hlow)
  refine ⟨⟨blk_lt h.me, by rw [blk_cell hme]; rfl, by rw [blk_cell hme]; rfl, hl AnyB _ _ (h.row.lies fun _ _ => trivial), fun j hj => ⟨hl _ _ _ (h.each j hj).1, fun x hx => hl _ _ _ ((h.each j hj).2 x hx)⟩, h7.b0, h7.b3, h7.b4, h5, h6⟩, ⟨h7.b1, rfl, Mine.none _, fun y hy => (by cases hy), h7.map, MpD.empty⟩, Mine.none _, Mine.none _, fun b hb => (by cases hb), fun b hb => (by cases hb), fun b hb => (by cases hb), fun b hb y hy => (by cases hy), hlow⟩
end Go.Proofs.Ytacgepdmhdcdkaa
