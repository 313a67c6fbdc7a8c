/-
  CONTRACT of imaged.
-/
import Derived.Test.YtgjjjagkbdbalaaIWr
set_option linter.unusedSimpArgs false
set_option linter.unusedVariables false
namespace Go.Proofs.Ytgjjjagkbdbalaa
open Go.RowKit

/-- a net in five new blocks -/
def five (w : World) : World := ((((w.alloc (.cells #[.bool true, .int .i64 3] 44)).alloc (.cells #[.int .i64 0, .int .i64 2] 3)).alloc (.cells #[.slice (some ⟨w.heap.size + 1, 0, none⟩) 2 2, .int .i64 6] 40)).alloc (.cells #[.int .i64 3] 3)).alloc (.cells #[.int .i64 2, .slice (some ⟨w.heap.size, 0, none⟩) 1 1, .slice (some ⟨w.heap.size + 2, 0, none⟩) 1 1, .slice (some ⟨w.heap.size + 3, 0, none⟩) 1 1] 26)
theorem five_below (w : World) : Below w.heap.size w (five w) := Below.step (Below.step (Below.step (Below.step (below_alloc _ _) (below_alloc _ _)) (below_alloc _ _)) (below_alloc _ _)) (below_alloc _ _)
theorem five_net (w : World) : NetT ⟨w.heap.size + 4, some ⟨w.heap.size, 0, none⟩, 1, some ⟨w.heap.size + 2, 0, none⟩, 1, some ⟨w.heap.size + 3, 0, none⟩, 1, fun _ => some ⟨w.heap.size + 1, 0, none⟩, fun _ => 2⟩ AnyB (five w) (2 : Nat) [⟨true, 3⟩] [⟨[0, 2], 6⟩] [3] := by
  have h0 : (five w).heap[w.heap.size]? = some (.cells #[.bool true, .int .i64 3] 44 (0, 0)) := Below.blk (below_alloc _ _) (Below.blk (below_alloc _ _) (Below.blk (below_alloc _ _) (Below.blk (below_alloc _ _) (blk_new _ _))))
  have h1 : (five w).heap[w.heap.size + 1]? = some (.cells #[.int .i64 0, .int .i64 2] 3 (0, 0)) := Below.blk (below_alloc _ _) (Below.blk (below_alloc _ _) (Below.blk (below_alloc _ _) (by
    have := blk_new (w.alloc (.cells #[.bool true, .int .i64 3] 44)) (.cells #[.int .i64 0, .int .i64 2] 3)
    rwa [show (w.alloc (.cells #[.bool true, .int .i64 3] 44)).heap.size = w.heap.size + 1 by simp] at this)))
  have h2 : (five w).heap[w.heap.size + 2]? = some (.cells #[.slice (some ⟨w.heap.size + 1, 0, none⟩) 2 2, .int .i64 6] 40 (0, 0)) := Below.blk (below_alloc _ _) (Below.blk (below_alloc _ _) (by
    have := blk_new ((w.alloc (.cells #[.bool true, .int .i64 3] 44)).alloc (.cells #[.int .i64 0, .int .i64 2] 3)) (.cells #[.slice (some ⟨w.heap.size + 1, 0, none⟩) 2 2, .int .i64 6] 40)
    rwa [show ((w.alloc (.cells #[.bool true, .int .i64 3] 44)).alloc (.cells #[.int .i64 0, .int .i64 2] 3)).heap.size = w.heap.size + 2 by simp] at this))
  have h3 : (five w).heap[w.heap.size + 3]? = some (.cells #[.int .i64 3] 3 (0, 0)) := Below.blk (below_alloc _ _) (by
    have := blk_new (((w.alloc (.cells #[.bool true, .int .i64 3] 44)).alloc (.cells #[.int .i64 0, .int .i64 2] 3)).alloc (.cells #[.slice (some ⟨w.heap.size + 1, 0, none⟩) 2 2, .int .i64 6] 40)) (.cells #[.int .i64 3] 3)
    rwa [show (((w.alloc (.cells #[.bool true, .int .i64 3] 44)).alloc (.cells #[.int .i64 0, .int .i64 2] 3)).alloc (.cells #[.slice (some ⟨w.heap.size + 1, 0, none⟩) 2 2, .int .i64 6] 40)).heap.size = w.heap.size + 3 by simp] at this)
  have h4 : (five w).heap[w.heap.size + 4]? = some (.cells #[.int .i64 2, .slice (some ⟨w.heap.size, 0, none⟩) 1 1, .slice (some ⟨w.heap.size + 2, 0, none⟩) 1 1, .slice (some ⟨w.heap.size + 3, 0, none⟩) 1 1] 26 (0, 0)) := by
    have := blk_new ((((w.alloc (.cells #[.bool true, .int .i64 3] 44)).alloc (.cells #[.int .i64 0, .int .i64 2] 3)).alloc (.cells #[.slice (some ⟨w.heap.size + 1, 0, none⟩) 2 2, .int .i64 6] 40)).alloc (.cells #[.int .i64 3] 3)) (.cells #[.int .i64 2, .slice (some ⟨w.heap.size, 0, none⟩) 1 1, .slice (some ⟨w.heap.size + 2, 0, none⟩) 1 1, .slice (some ⟨w.heap.size + 3, 0, none⟩) 1 1] 26)
    rwa [show ((((w.alloc (.cells #[.bool true, .int .i64 3] 44)).alloc (.cells #[.int .i64 0, .int .i64 2] 3)).alloc (.cells #[.slice (some ⟨w.heap.size + 1, 0, none⟩) 2 2, .int .i64 6] 40)).alloc (.cells #[.int .i64 3] 3)).heap.size = w.heap.size + 4 by simp] at this
  refine ⟨h4, Lies.blk (cs := rgsC [⟨true, 3⟩]) h0 trivial, ⟨Lies.blk (cs := lutsC (fun _ => some ⟨w.heap.size + 1, 0, none⟩) (fun _ => 2) [⟨[0, 2], 6⟩]) h2 trivial, fun i hi => ?_⟩, Lies.blk (cs := intsC [3]) h3 trivial⟩
  have e : i = 0 := by simpa using hi
  subst e
  exact Lies.blk (cs := intsC [0, 2]) h1 trivial
theorem five_right : RightT 2 [⟨true, 3⟩] [⟨[0, 2], 6⟩] [3] := rightT_iff.1 (by decide)
theorem five_bytes : wroteS (2 : Nat) [⟨true, 3⟩] [⟨[0, 2], 6⟩] [3] = ⟨#[2, 1, 1, 3, 1, 2, 0, 2, 6, 1, 3]⟩ := by decide

set_option maxRecDepth 100000 in
set_option maxHeartbeats 3200000 in
theorem imaged_at (w : World) : Calls Try.prog 6 #[] w fun e w' => e = .returned (.bool true) ∧ Below w.heap.size w w' := by
  have HC := Write_at (five_net w) five_right
  rw [five_bytes] at HC
  have HC := hide HC
  have HB := hide (five_below w)
  go_enter Try.func6, Try.ntmps6
  go_wp2_with fail
  refine HC.out.mono ?_
  rintro e w1 ⟨rfl, hb⟩
  have HB1 := hide (Below.step HB.out hb)
  clear hb HC
  go_wp2_with fail
  go_ret
  exact ⟨rfl, HB1.out⟩
end Go.Proofs.Ytgjjjagkbdbalaa
