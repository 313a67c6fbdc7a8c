/-
  CONTRACTS of Sort, Compact, short at no numbers at all.
-/
import Derived.Test.YtacgepdmhdcdkaaLSr
import Derived.Test.YtacgepdmhdcdkaaLDl
import Derived.Test.YtacgepdmhdcdkaaLSh
set_option linter.unusedSimpArgs false
set_option linter.unusedVariables false
namespace Go.Proofs.Ytacgepdmhdcdkaa
open Go.RowKit

set_option maxRecDepth 100000 in
set_option maxHeartbeats 6400000 in
theorem insort_no (w : World) : Calls Try.prog 68 #[.slice none 0 0, .int .i64 0, .int .i64 0] w fun e w' => e = .returned (.tuple #[]) ∧ w' = w := by
  go_enter Try.func68, Try.ntmps68
  go_wp2_with fail
  go_loopw [6, 7] (fun i _ wr => i = .int .i64 1 ∧ Hid (wr = w)) (fun _ _ _ => 0)
  case atStart => exact ⟨rfl, hide rfl⟩
  case round =>
    obtain ⟨rfl, hw⟩ := hrel
    have hw := hw.out
    subst hw
    go_wp2_with fail
    go_end0
    exact ⟨rfl, rfl⟩
set_option maxRecDepth 100000 in
set_option maxHeartbeats 6400000 in
theorem pdq_no (w : World) (lim : Int) : Calls Try.prog 61 #[.slice none 0 0, .int .i64 0, .int .i64 0, .int .i64 lim] w fun e w' => e = .returned (.tuple #[]) ∧ w' = w := by
  have HC := hide (insort_no w)
  go_enter Try.func61, Try.ntmps61
  go_wp2_with fail
  go_loopw [1, 2] (fun v u wr => v = .int .i64 0 ∧ u = .int .i64 0 ∧ Hid (wr = w)) (fun _ _ _ => 0)
  case atStart => exact ⟨rfl, rfl, hide rfl⟩
  case round =>
    obtain ⟨rfl, rfl, hw⟩ := hrel
    have hw := hw.out
    subst hw
    go_wp2_with fail
    refine HC.out.mono ?_
    rintro e w1 ⟨rfl, rfl⟩
    go_wp2_with fail
    refine bodyPost_ret (results_none rfl _ _ _) rfl ?_
    exact ⟨rfl, rfl⟩
set_option maxRecDepth 100000 in
set_option maxHeartbeats 6400000 in
theorem sort_no (w : World) : Calls Try.prog 48 #[.slice none 0 0] w fun e w' => e = .returned (.tuple #[]) ∧ w' = w := by
  have HL := hide (blen_at 0 (by decide) w)
  have HC := hide fun lim => pdq_no w lim
  go_enter Try.func48, Try.ntmps48
  go_wp2_with fail
  refine HL.out.mono ?_
  rintro e w' ⟨⟨r, rfl⟩, rfl⟩
  go_wp2_with fail
  refine (HC.out r).mono ?_
  rintro e w1 ⟨rfl, rfl⟩
  go_wp2_with fail
  go_end0
  exact ⟨rfl, rfl⟩
set_option maxRecDepth 100000 in
set_option maxHeartbeats 6400000 in
theorem compact_no (w : World) : Calls Try.prog 49 #[.slice none 0 0] w fun e w' => e = .returned (.slice none 0 0) ∧ w' = w := by
  go_enter Try.func49, Try.ntmps49
  go_wp2_with fail
  go_ret
  exact ⟨rfl, rfl⟩
set_option maxRecDepth 100000 in
set_option maxHeartbeats 6400000 in
theorem short_no (t : Int) (w : World) : Calls Try.prog 53 #[.agg #[.slice none 0 0, .int .i64 t]] w fun e w' => e = .returned (.agg #[.slice none 0 0, .int .i64 t]) ∧ Below w.heap.size w w' := by
  have HB2 : Hid (Below w.heap.size w ((w.alloc (.cells #[.slice none 0 0, .int .i64 t] 44)).alloc (.cells #[.slice none 0 0, .int .i64 0] 44))) := hide (Below.step (below_alloc _ _) (below_alloc _ _))
  have HX1 : Hid (LtA w.heap.size none 0 0 t ((w.alloc (.cells #[.slice none 0 0, .int .i64 t] 44)).alloc (.cells #[.slice none 0 0, .int .i64 0] 44))) := hide (Below.blk (below_alloc _ _) (blk_new _ _))
  have HX2 : Hid (LtA (w.heap.size + 1) none 0 0 0 ((w.alloc (.cells #[.slice none 0 0, .int .i64 t] 44)).alloc (.cells #[.slice none 0 0, .int .i64 0] 44))) := hide (by
    have := blk_new (w.alloc (.cells #[.slice none 0 0, .int .i64 t] 44)) (.cells #[.slice none 0 0, .int .i64 0] 44)
    rwa [show (w.alloc (.cells #[.slice none 0 0, .int .i64 t] 44)).heap.size = w.heap.size + 1 by simp] at this)
  go_enter Try.func53, Try.ntmps53
  go_wp2_with fail
  generalize (w.alloc (.cells #[.slice none 0 0, .int .i64 t] 44)).alloc (.cells #[.slice none 0 0, .int .i64 0] 44) = w1 at *
  go_loopw [3, 4] (fun v _ wr => v = .int .i64 (-1) ∧ Hid (wr = w1)) (fun _ _ _ => 0)
  case atStart => exact ⟨rfl, hide rfl⟩
  case round =>
    obtain ⟨rfl, hw⟩ := hrel
    have hw := hw.out
    subst hw
    have c0 := HX1.out.c0
    have c1 := HX1.out.c1
    have r0 := HX2.out.c0
    have r1 := HX2.out.c1
    have f0 : wr.frozen? ⟨w.heap.size + 1, 0, none⟩ = false := blk_frozen HX2.out 0
    have f1 : wr.frozen? ⟨w.heap.size + 1, 1, none⟩ = false := blk_frozen HX2.out 1
    have HR := hide (HX2.out.set none 0 0 t)
    have HBF : Hid (Below w.heap.size w ((wr.setCell ⟨w.heap.size + 1, 0, none⟩ (.slice none 0 0)).setCell ⟨w.heap.size + 1, 1, none⟩ (.int .i64 t))) := hide ((HB2.out.setCell (by show w.heap.size ≤ w.heap.size + 1; omega) _).setCell (by show w.heap.size ≤ w.heap.size + 1; omega) _)
    go_wp2_with fail
    refine bodyPost_ret (results_cell_row rfl _ _ (w.heap.size + 1) _ _ (0, 0) _ rfl HR.out Try.underlying44 rfl (by kernel_rfl)) rfl ?_
    exact ⟨rfl, HBF.out⟩
end Go.Proofs.Ytacgepdmhdcdkaa
