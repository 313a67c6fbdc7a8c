/-
  CONTRACT of cleaned.
-/
import Derived.Test.YtlnmemeejgnbeaaClC
import Derived.Test.YtlnmemeejgnbeaaGNew
set_option linter.unusedSimpArgs false
set_option linter.unusedVariables false
namespace Go.Proofs.Ytlnmemeejgnbeaa
open Go.RowKit

def cnN : List Nd := [⟨3, 0, 0, 0⟩, ⟨8, 0, 0, 0⟩, ⟨5, 0, 1, 0⟩, ⟨6, 0, 2, 0⟩]
abbrev cnO1 : Obj := .cells #[.int .i64 3, .int .i64 0, .int .i64 0, .int .i64 0, .int .i64 8, .int .i64 0, .int .i64 0, .int .i64 0, .int .i64 5, .int .i64 0, .int .i64 1, .int .i64 0, .int .i64 6, .int .i64 0, .int .i64 2, .int .i64 0] 26
theorem Below.keptOn' {B R : Nat} {w0 w w' : World} (h : Below B w0 w) (hk : Kept R w w') (hR : B ≤ R) (hB : B ≤ w.heap.size) : Below B w0 w' :=
  ⟨hk.os.trans h.os, hk.tape.trans h.tape, hk.output.trans h.output, Nat.le_trans h.size hk.size, fun k hl => (hk.block k (Nat.lt_of_lt_of_le hl hB) (by omega)).trans (h.block k hl)⟩

set_option maxRecDepth 100000 in
set_option maxHeartbeats 3200000 in
theorem cleaned_at (w : World) : Calls Try.prog 5 #[] w fun e w' => e = .returned (.bool true) ∧ Below w.heap.size w w' := by
  have HN : Hid (NetAt ⟨w.heap.size + 1 + 1, some ⟨w.heap.size, 0, none⟩, 4, some ⟨w.heap.size + 1, 0, none⟩, 1⟩ AnyB (((w.alloc cnO1).alloc (.cells #[.int .i64 3] 3)).alloc (.cells #[.int .i64 1, .slice (some ⟨w.heap.size, 0, none⟩) 4 4, .slice (some ⟨w.heap.size + 1, 0, none⟩) 1 1] 28)) 1 cnN [3]) := hide (by
    have e1 : (w.alloc cnO1).heap.size = w.heap.size + 1 := by simp
    have e2 : ((w.alloc cnO1).alloc (.cells #[.int .i64 3] 3)).heap.size = w.heap.size + 1 + 1 := by simp
    exact ⟨new_at' _ _ e2, Lies.blk (cs := ndsC cnN) (Below.blk (below_alloc _ _) (Below.blk (below_alloc _ _) (blk_new _ _))) trivial, Lies.blk (cs := intsC [3]) (Below.blk (below_alloc _ _) (new_at' _ _ e1)) trivial⟩)
  have HB : Hid (Below w.heap.size w (((w.alloc cnO1).alloc (.cells #[.int .i64 3] 3)).alloc (.cells #[.int .i64 1, .slice (some ⟨w.heap.size, 0, none⟩) 4 4, .slice (some ⟨w.heap.size + 1, 0, none⟩) 1 1] 28))) := hide (Below.step (Below.step (below_alloc _ _) (below_alloc _ _)) (below_alloc _ _))
  have HR : Hid (RightP 1 cnN [3]) := hide (rightP_iff.1 (by decide))
  go_enter Try.func5, Try.ntmps5
  go_wp2_with fail
  generalize (((w.alloc cnO1).alloc (.cells #[.int .i64 3] 3)).alloc (.cells #[.int .i64 1, .slice (some ⟨w.heap.size, 0, none⟩) 4 4, .slice (some ⟨w.heap.size + 1, 0, none⟩) 1 1] 28)) = w1 at *
  refine (clean_at HN.out HR.out).mono ?_
  rintro e w2 ⟨⟨sp, rfl, hs⟩, hb⟩
  have HS := hide hs
  have HB2 := hide (Below.step HB.out hb)
  have HCR := hide (clean_right HR.out)
  have HCG := hide (clean_gates HR.out)
  have HCO := hide (clean_outs cnN [3])
  clear hs hb HN HB
  generalize cleanNs cnN [3] = l at *
  generalize cleanOs cnN [3] = o at *
  go_wp2_with fail
  have HRA := hide (Right_at HS.out HCR.out.n1 HCR.out.o1)
  rw [rightP_iff.2 HCR.out] at HRA
  refine HRA.out.mono ?_
  rintro e w3 ⟨rfl, hb⟩
  have HS3 := hide (HS.out.below hb)
  have HB3 := hide (Below.step HB2.out hb)
  clear hb HRA HS HB2
  go_wp2_with fail
  refine (Gates_at HS3.out (by have := HCR.out.n1; omega)).mono ?_
  rintro e w4 ⟨rfl, hb⟩
  have HS4 := hide (HS3.out.below hb)
  have HB4 := hide (Below.step HB3.out hb)
  have hg : ((gatesTo l l.length : Nat) : Int) ≤ 3 := by have h : gatesTo l l.length ≤ 3 := HCG.out; omega
  have hgb : decide (((gatesTo l l.length : Nat) : Int) ≤ 3) = true := by simpa using hg
  have c2 := HS4.out.c2
  have ho : o.length = 1 := HCO.out
  rw [ho] at c2
  clear hb HS3 HB3 HCG ho
  generalize gatesTo l l.length = gt at *
  go_wp2_with fail
  go_ret
  exact ⟨rfl, HB4.out⟩
end Go.Proofs.Ytlnmemeejgnbeaa
