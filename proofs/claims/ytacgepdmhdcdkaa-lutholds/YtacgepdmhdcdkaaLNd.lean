/-
  CONTRACTS of node, where it reads no other one: what is known, what is given, a register.
-/
import Derived.Test.YtacgepdmhdcdkaaLGt
set_option linter.unusedSimpArgs false
set_option linter.unusedVariables false
namespace Go.Proofs.Ytacgepdmhdcdkaa
open Go.RowKit

/-- one way alone, in blocks of its own -/
def OneWay (w : World) (l : Lt) (e : Ending) (w' : World) : Prop :=
  ∃ (x : Wy) (g : Nat), e = .returned (.slice (some ⟨g, 0, none⟩) 1 1) ∧ x.l = l ∧ Lies (FromB w.heap.size) w' (some ⟨g, 0, none⟩) (wyC [x]) ∧ Lies (FromB w.heap.size) w' x.a (intsC l.ins)

set_option maxRecDepth 100000 in
set_option maxHeartbeats 3200000 in
theorem node_known (P : Nat) (a b nx : Int) (v : Int) (hv : v = 1 ∨ v = 2) (w : World) :
    Calls Try.prog 24 #[.pointer (some ⟨P, 0, none⟩), .agg #[.int .i64 v, .int .i64 a, .int .i64 b, .int .i64 nx]] w fun e w' => OneWay w ⟨[], v - 1⟩ e w' ∧ Below w.heap.size w w' := by
  have hb1 := below_alloc w (.cells #[.int .i64 v, .int .i64 a, .int .i64 b, .int .i64 nx] 48)
  have hs1 : (w.alloc (.cells #[.int .i64 v, .int .i64 a, .int .i64 b, .int .i64 nx] 48)).heap.size = w.heap.size + 1 := by simp
  have HB1 := hide hb1
  have HS1 := hide hs1
  clear hb1 hs1
  rcases hv with rfl | rfl
  all_goals
    go_enter Try.func24, Try.ntmps24
    go_wp2_with fail
    generalize w.alloc _ = w1 at *
    go_ret
    refine ⟨⟨⟨none, 0, ⟨[], _⟩⟩, _, rfl, rfl, Lies.blk (cs := wyC [⟨none, 0, ⟨[], _⟩⟩]) (t := 44) (z := (0, 0)) ?_ (Nat.le_succ _), .inl rfl⟩, Below.step HB1.out (below_alloc _ _)⟩
    first
      | (have := blk_new w1 (.cells #[.slice none 0 0, .int .i64 0] 44); rw [HS1.out] at this; exact this)
      | (have := blk_new w1 (.cells #[.slice none 0 0, .int .i64 1] 44); rw [HS1.out] at this; exact this)

set_option maxRecDepth 100000 in
set_option maxHeartbeats 3200000 in
theorem node_in (P : Nat) (a b nx : Int) (w : World) :
    Calls Try.prog 24 #[.pointer (some ⟨P, 0, none⟩), .agg #[.int .i64 3, .int .i64 a, .int .i64 b, .int .i64 nx]] w fun e w' => OneWay w ⟨[a], 2⟩ e w' ∧ Below w.heap.size w w' := by
  have hb1 := below_alloc w (.cells #[.int .i64 3, .int .i64 a, .int .i64 b, .int .i64 nx] 48)
  have HB1 := hide hb1
  have HP := hide (fun W => plain_at a W)
  clear hb1
  go_enter Try.func24, Try.ntmps24
  go_wp2_with fail
  generalize w.alloc (.cells #[.int .i64 3, .int .i64 a, .int .i64 b, .int .i64 nx] 48) = w1 at *
  refine (HP.out w1).mono ?_
  rintro e w2 ⟨⟨g, rfl, hg, hn⟩, hb2⟩
  have HB2 := hide (Below.step HB1.out hb2)
  have HN := hide hn
  have HG : Hid (w.heap.size ≤ g) := hide (Nat.le_trans HB1.out.size hg)
  clear hb2 hn hg HP
  go_wp2_with fail
  go_ret
  refine ⟨⟨⟨some ⟨g, 0, none⟩, 1, ⟨[a], 2⟩⟩, _, rfl, rfl, Lies.blk (cs := wyC [⟨some ⟨g, 0, none⟩, 1, ⟨[a], 2⟩⟩]) (blk_new w2 _) HB2.out.size, Lies.blk (cs := intsC [a]) (Below.blk (below_alloc _ _) HN.out) HG.out⟩, Below.step HB2.out (below_alloc _ _)⟩
end Go.Proofs.Ytacgepdmhdcdkaa
