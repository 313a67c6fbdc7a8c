/-
  CONTRACT of depth.
-/
import Derived.Test.YtacgepdmhdcdkaaLCp
import Derived.Lib.QuietBelow
set_option linter.unusedSimpArgs false
set_option linter.unusedVariables false
namespace Go.Proofs.Ytacgepdmhdcdkaa
open Go.RowKit

theorem behI_le (D ins : List Int) (hM : ∀ i, outAt D i ≤ 100000) (k : Nat) : behI D ins k ≤ 100000 := by
  induction k with
  | zero => show (0 : Int) ≤ 100000; omega
  | succ k ih => simp only [behI]; have := hM (outAt ins k).toNat; omega
set_option maxRecDepth 100000 in
set_option maxHeartbeats 3200000 in
theorem depth_at {S T : Nat → Prop} (P : Nat) (l : Lt) (a : Option Addr) (c : Nat) (D : List Int) (da : Option Addr) (dc : Nat) (w : World) (hp : w.cell? ⟨P, 3, none⟩ = some (.slice da D.length dc)) (hl : Lies S w a (intsC l.ins)) (hD : Lies T w da (intsC D)) (hi4 : l.ins.length ≤ 10) (hin : ∀ i, i < l.ins.length → 0 ≤ outAt l.ins i ∧ outAt l.ins i < D.length) (hb : D.length ≤ 100000) (hM : ∀ i, outAt D i ≤ 100000) :
    Calls Try.prog 46 #[.pointer (some ⟨P, 0, none⟩), .agg #[.slice a l.ins.length c, .int .i64 l.table]] w fun e w' => e = .returned (.int .i64 (deepI D l)) ∧ Below w.heap.size w w' := by
  have hb0 := below_alloc w (.cells #[.slice a l.ins.length c, .int .i64 l.table] 44)
  have HB := hide hb0
  have HF := hide (free_at l a c (w.alloc (.cells #[.slice a l.ins.length c, .int .i64 l.table] 44)))
  have HX := hide (blk_new w (.cells #[.slice a l.ins.length c, .int .i64 l.table] 44))
  have HP := hide ((hb0.cell (cell_lt hp)).trans hp)
  have HL := hide (hl.below hb0)
  have HD := hide (hD.below hb0)
  have HI := hide hin
  have hnn := behI_nn D l.ins l.ins.length
  have hmx := behI_le D l.ins hM l.ins.length
  clear hl hD hin hp hb0
  have HC : Hid (∀ W, Below (w.alloc (.cells #[.slice a l.ins.length c, .int .i64 l.table] 44)).heap.size (w.alloc (.cells #[.slice a l.ins.length c, .int .i64 l.table] 44)) W → Calls Try.prog 59 #[.agg #[.slice a l.ins.length c, .int .i64 l.table], .slice da D.length dc] W fun e w' => e = .returned (.int .i64 (behI D l.ins l.ins.length)) ∧ Below W.heap.size W w') := hide fun W hW => behI_at a l.ins c l.table D da dc W (HL.out.below hW) (HD.out.below hW) hi4 HI.out hb
  have HE : Hid (deepI D l = if freeL l then behI D l.ins l.ins.length else 1 + behI D l.ins l.ins.length) := hide rfl
  cases hf : freeL l with
  | true =>
    rw [hf] at HF HE
    go_enter Try.func46, Try.ntmps46
    go_wp2_with fail
    generalize hW : w.alloc (.cells #[.slice a l.ins.length c, .int .i64 l.table] 44) = W at *
    refine HF.out.mono ?_
    rintro e w1 ⟨rfl, hb1⟩
    have HCQ : Hid (∀ d o, Calls Try.prog 59 #[.agg #[.slice a l.ins.length c, .int .i64 l.table], .slice da D.length dc] (Sort.grow (redrawn w1 d) o) fun e w'' => e = .returned (.int .i64 (behI D l.ins l.ins.length)) ∧ ∃ p : Regrown, w'' = Sort.grow (redrawn w1 p.d) p.os) := hide fun d o => Calls.regrown_of (HC.out _ (Below.step hb1 (below_regrown w1 d o)))
    have q0 := cell_regrown (show w1.cell? ⟨w.heap.size, 0, none⟩ = some (.slice a l.ins.length c) by rw [blk_cell (Below.blk hb1 HX.out)]; rfl)
    have q1 := cell_regrown (show w1.cell? ⟨w.heap.size, 1, none⟩ = some (.int .i64 l.table) by rw [blk_cell (Below.blk hb1 HX.out)]; rfl)
    have q2 := cell_regrown ((hb1.cell (cell_lt HP.out)).trans HP.out)
    have HB1 := hide (Below.step HB.out hb1)
    clear hb1 HF HC HP HL HD HX HB hW
    generalize behI D l.ins l.ins.length = bh at *
    go_wp2_with fail
    refine wp_region_quiet_below (by kernel_rfl) (by kernel_rfl) ?_
    repeat (quiet_step (with_reducible exact HCQ.out _ _))
    refine wpQuiet_nil ?_
    intro _ hw'
    obtain ⟨⟨dq, osq⟩, hw''⟩ := hw'
    subst hw''
    have HB5 := hide (Below.step HB1.out (below_regrown w1 dq osq))
    clear q0 q1 q2 HCQ
    generalize Sort.grow (redrawn w1 dq) osq = w5 at *
    go_wp2_with fail
    go_ret
    exact ⟨ret_int (by rw [HE.out]; rfl), HB5.out⟩
  | false =>
    rw [hf] at HF HE
    go_enter Try.func46, Try.ntmps46
    go_wp2_with fail
    generalize hW : w.alloc (.cells #[.slice a l.ins.length c, .int .i64 l.table] 44) = W at *
    refine HF.out.mono ?_
    rintro e w1 ⟨rfl, hb1⟩
    have HCQ : Hid (∀ d o, Calls Try.prog 59 #[.agg #[.slice a l.ins.length c, .int .i64 l.table], .slice da D.length dc] (Sort.grow (redrawn w1 d) o) fun e w'' => e = .returned (.int .i64 (behI D l.ins l.ins.length)) ∧ ∃ p : Regrown, w'' = Sort.grow (redrawn w1 p.d) p.os) := hide fun d o => Calls.regrown_of (HC.out _ (Below.step hb1 (below_regrown w1 d o)))
    have q0 := cell_regrown (show w1.cell? ⟨w.heap.size, 0, none⟩ = some (.slice a l.ins.length c) by rw [blk_cell (Below.blk hb1 HX.out)]; rfl)
    have q1 := cell_regrown (show w1.cell? ⟨w.heap.size, 1, none⟩ = some (.int .i64 l.table) by rw [blk_cell (Below.blk hb1 HX.out)]; rfl)
    have q2 := cell_regrown ((hb1.cell (cell_lt HP.out)).trans HP.out)
    have HB1 := hide (Below.step HB.out hb1)
    clear hb1 HF HC HP HL HD HX HB hW
    generalize behI D l.ins l.ins.length = bh at *
    go_wp2_with fail
    refine wp_region_quiet_below (by kernel_rfl) (by kernel_rfl) ?_
    repeat (quiet_step (with_reducible exact HCQ.out _ _))
    refine wpQuiet_nil ?_
    intro _ hw'
    obtain ⟨⟨dq, osq⟩, hw''⟩ := hw'
    subst hw''
    have HB5 := hide (Below.step HB1.out (below_regrown w1 dq osq))
    clear q0 q1 q2 HCQ
    generalize Sort.grow (redrawn w1 dq) osq = w5 at *
    go_wp2_with fail
    go_ret
    exact ⟨ret_int (by rw [HE.out]; show IntKind.i64.wrap (1 + bh) = 1 + bh; exact wrap_id rfl (by omega) (by omega)), HB5.out⟩
end Go.Proofs.Ytacgepdmhdcdkaa
