/-
  CONTRACT of short.
-/
import Derived.Test.YtacgepdmhdcdkaaLDl
import Derived.Test.YtacgepdmhdcdkaaLPkR
set_option linter.unusedSimpArgs false
set_option linter.unusedVariables false
namespace Go.Proofs.Ytacgepdmhdcdkaa
open Go.RowKit

theorem Way.tlt {l : Lt} (h : Way l) : l.table < 65536 := by
  have h1 := h.t1
  have h4 := h.n4
  have : pow4 l.ins.length ≤ 65536 := by
    have : ∀ k : Nat, k ≤ 4 → pow4 k ≤ 65536 := by decide
    exact this _ h4
  omega
/-- a table in a block -/
def LtA (L : Nat) (a : Option Addr) (n c : Nat) (t : Int) (w : World) : Prop := w.heap[L]? = some (.cells #[.slice a n c, .int .i64 t] 44 (0, 0))
theorem LtA.c0 {L : Nat} {a : Option Addr} {n c : Nat} {t : Int} {w : World} (h : LtA L a n c t w) : w.cell? ⟨L, 0, none⟩ = some (.slice a n c) := by rw [blk_cell h]; rfl
theorem LtA.c1 {L : Nat} {a : Option Addr} {n c : Nat} {t : Int} {w : World} (h : LtA L a n c t w) : w.cell? ⟨L, 1, none⟩ = some (.int .i64 t) := by rw [blk_cell h]; rfl
theorem LtA.set {L : Nat} {a : Option Addr} {n c : Nat} {t : Int} {w : World} (h : LtA L a n c t w) (a' : Option Addr) (n' c' : Nat) (t' : Int) : LtA L a' n' c' t' ((w.setCell ⟨L, 0, none⟩ (.slice a' n' c')).setCell ⟨L, 1, none⟩ (.int .i64 t')) := by unfold LtA; rw [blk_set (blk_set h _ _) _ _]; rfl
theorem OwnI.kept {B g R : Nat} {w w' : World} {n cap : Nat} {l : List Int} (h : OwnI B g w n cap l) (hk : Kept R w w') (hn : g ≠ R) : OwnI B g w' n cap l := ⟨h.mine.same fun b hb hl => by simp [Value.ownBlock] at hb; exact hk.block b hl (by omega), h.len⟩

set_option maxRecDepth 100000 in
set_option maxHeartbeats 6400000 in
theorem short_at {B g : Nat} {w : World} {cap : Nat} (l : Lt) (h : OwnI B g w l.ins.length cap l.ins) (hw : Way l) (hB : B ≤ w.heap.size) :
    Calls Try.prog 53 #[.agg #[.slice (some ⟨g, 0, none⟩) l.ins.length cap, .int .i64 l.table]] w fun e w' => (∃ l' : Lt, e = .returned (.agg #[.slice (some ⟨g, 0, none⟩) l'.ins.length cap, .int .i64 l'.table]) ∧ OwnI B g w' l'.ins.length cap l'.ins ∧ Less l l') ∧ Below B w w' := by
  have hgl := h.lt
  have hgB := h.ge
  have HB2 : Hid (Below w.heap.size w ((w.alloc (.cells #[.slice (some ⟨g, 0, none⟩) l.ins.length cap, .int .i64 l.table] 44)).alloc (.cells #[.slice none 0 0, .int .i64 0] 44))) := hide (Below.step (below_alloc _ _) (below_alloc _ _))
  have HX1 : Hid (LtA w.heap.size (some ⟨g, 0, none⟩) l.ins.length cap l.table ((w.alloc (.cells #[.slice (some ⟨g, 0, none⟩) l.ins.length cap, .int .i64 l.table] 44)).alloc (.cells #[.slice none 0 0, .int .i64 0] 44))) := hide (Below.blk (below_alloc _ _) (blk_new _ _))
  have HX2 : Hid (LtA (w.heap.size + 1) none 0 0 0 ((w.alloc (.cells #[.slice (some ⟨g, 0, none⟩) l.ins.length cap, .int .i64 l.table] 44)).alloc (.cells #[.slice none 0 0, .int .i64 0] 44))) := hide (by
    have := blk_new (w.alloc (.cells #[.slice (some ⟨g, 0, none⟩) l.ins.length cap, .int .i64 l.table] 44)) (.cells #[.slice none 0 0, .int .i64 0] 44)
    rwa [show (w.alloc (.cells #[.slice (some ⟨g, 0, none⟩) l.ins.length cap, .int .i64 l.table] 44)).heap.size = w.heap.size + 1 by simp] at this)
  have HO := hide (h.below HB2.out)
  have HW := hide hw
  have hn4 := hw.n4
  clear h hw
  go_enter Try.func53, Try.ntmps53
  go_wp2_with fail
  generalize (w.alloc (.cells #[.slice (some ⟨g, 0, none⟩) l.ins.length cap, .int .i64 l.table] 44)).alloc (.cells #[.slice none 0 0, .int .i64 0] 44) = w1 at *
  go_loopw [3, 4] (fun v _ wr => ∃ (q : Nat) (l' : Lt), v = .int .i64 ((q : Int) - 1) ∧ q ≤ l'.ins.length ∧ q ≤ 4 ∧ Hid (Less l l') ∧ Hid (OwnI B g wr l'.ins.length cap l'.ins) ∧ Hid (LtA w.heap.size (some ⟨g, 0, none⟩) l'.ins.length cap l'.table wr) ∧ Hid (LtA (w.heap.size + 1) none 0 0 0 wr) ∧ Hid (Below B w wr)) (fun v _ _ => (intOf v + 1).toNat)
  case atStart => exact ⟨l.ins.length, l, rfl, Nat.le_refl _, hn4, hide (Less.refl HW.out), HO, HX1, HX2, hide (HB2.out.mono hB)⟩
  case round =>
    obtain ⟨q, l', rfl, hq, hq4, hls, ho, hx1, hx2, hb⟩ := hrel
    have hne : g ≠ w.heap.size := by omega
    have hne1 : g ≠ w.heap.size + 1 := by omega
    have c0 := hx1.out.c0
    have c1 := hx1.out.c1
    rcases q with _ | m
    · have r0 := hx2.out.c0
      have r1 := hx2.out.c1
      have f0 : wr.frozen? ⟨w.heap.size + 1, 0, none⟩ = false := blk_frozen hx2.out 0
      have f1 : wr.frozen? ⟨w.heap.size + 1, 1, none⟩ = false := blk_frozen hx2.out 1
      have HR := hide (hx2.out.set (some ⟨g, 0, none⟩) l'.ins.length cap l'.table)
      have HOF : Hid (OwnI B g ((wr.setCell ⟨w.heap.size + 1, 0, none⟩ (.slice (some ⟨g, 0, none⟩) l'.ins.length cap)).setCell ⟨w.heap.size + 1, 1, none⟩ (.int .i64 l'.table)) l'.ins.length cap l'.ins) := hide (ho.out.kept ((Kept.set wr 0 _).trans (Kept.set _ 1 _)) hne1)
      have HBF : Hid (Below B w ((wr.setCell ⟨w.heap.size + 1, 0, none⟩ (.slice (some ⟨g, 0, none⟩) l'.ins.length cap)).setCell ⟨w.heap.size + 1, 1, none⟩ (.int .i64 l'.table))) := hide ((hb.out.setCell (by show B ≤ w.heap.size + 1; omega) _).setCell (by show B ≤ w.heap.size + 1; omega) _)
      go_wp2_with fail
      refine bodyPost_ret (results_cell_row rfl _ _ (w.heap.size + 1) _ _ (0, 0) _ rfl HR.out Try.underlying44 rfl (by kernel_rfl)) rfl ?_
      exact ⟨⟨l', rfl, HOF.out, hls.out⟩, HBF.out⟩
    · have hm1 : ((m + 1 : Nat) : Int) - 1 = (m : Int) := by omega
      rw [hm1]
      have hmi : (0 : Int) ≤ (m : Int) := by omega
      have hwy := hls.out.way
      have hl4 := hwy.n4
      have ht0 := hwy.t0
      have htl := hwy.tlt
      have HH0 := hide (fun W => half_at (some ⟨g, 0, none⟩) l'.ins.length cap l'.table m 0 W (by omega) hl4 (by omega) (by decide) ht0 htl)
      have HH1 := hide (fun W => half_at (some ⟨g, 0, none⟩) l'.ins.length cap l'.table m 1 W (by omega) hl4 (by omega) (by decide) ht0 htl)
      have HSH := hide (fun he => less_short hwy (i := m) (by omega) he)
      generalize hh0 : halfP l'.table l'.ins.length m 0 = h0 at *
      generalize hh1 : halfP l'.table l'.ins.length m 1 = h1 at *
      clear hh0 hh1 hm1 hwy
      go_wp2_with fail
      refine (HH0.out wr).mono ?_
      rintro e w2 ⟨rfl, hb2⟩
      have d0 := (hb2.cell (cell_lt c0)).trans c0
      have d1 := (hb2.cell (cell_lt c1)).trans c1
      have ho2 := hide (ho.out.below hb2)
      have hx12 : Hid (LtA w.heap.size (some ⟨g, 0, none⟩) l'.ins.length cap l'.table w2) := hide (Below.blk hb2 hx1.out)
      have hx22 : Hid (LtA (w.heap.size + 1) none 0 0 0 w2) := hide (Below.blk hb2 hx2.out)
      have hbb2 := hide (hb.out.trans (hb2.mono (Nat.le_trans hB hb.out.size)))
      clear hb2 c0 c1 ho hx1 hx2 hb
      go_wp2_with fail
      refine (HH1.out w2).mono ?_
      rintro e w3 ⟨rfl, hb3⟩
      have c0 := (hb3.cell (cell_lt d0)).trans d0
      have c1 := (hb3.cell (cell_lt d1)).trans d1
      have ho3 := hide (ho2.out.below hb3)
      have hx13 : Hid (LtA w.heap.size (some ⟨g, 0, none⟩) l'.ins.length cap l'.table w3) := hide (Below.blk hb3 hx12.out)
      have hx23 : Hid (LtA (w.heap.size + 1) none 0 0 0 w3) := hide (Below.blk hb3 hx22.out)
      have hbb3 := hide (hbb2.out.trans (hb3.mono (Nat.le_trans hB hbb2.out.size)))
      clear hb3 d0 d1 ho2 hx12 hx22 hbb2
      by_cases he : h0 = h1
      · subst he
        have HL2 := hide (hls.out.trans (HSH.out rfl))
        have HD := hide (delete_at ho3.out (by omega) m (by omega))
        have hlen : (l'.ins.eraseIdx m).length = l'.ins.length - 1 := List.length_eraseIdx_of_lt (by omega)
        clear HSH HH0 HH1
        go_wp2_with fail
        refine HD.out.mono ?_
        rintro e w4 ⟨rfl, ho4, hk4⟩
        have k0 := hk4.cell c0 (by show w.heap.size ≠ g; omega)
        have k1 := hk4.cell c1 (by show w.heap.size ≠ g; omega)
        have hx14 : Hid (LtA w.heap.size (some ⟨g, 0, none⟩) l'.ins.length cap l'.table w4) := hide (hk4.blk hx13.out (by omega))
        have hx24 : Hid (LtA (w.heap.size + 1) none 0 0 0 w4) := hide (hk4.blk hx23.out (by omega))
        have f0 : w4.frozen? ⟨w.heap.size, 0, none⟩ = false := blk_frozen hx14.out 0
        have f1 : w4.frozen? ⟨w.heap.size, 1, none⟩ = false := blk_frozen hx14.out 1
        have HX1 := hide (hx14.out.set (some ⟨g, 0, none⟩) (l'.ins.length - 1) cap (h0 : Nat))
        have HX2 : Hid (LtA (w.heap.size + 1) none 0 0 0 ((w4.setCell ⟨w.heap.size, 0, none⟩ (.slice (some ⟨g, 0, none⟩) (l'.ins.length - 1) cap)).setCell ⟨w.heap.size, 1, none⟩ (.int .i64 (h0 : Nat)))) := hide (((Kept.set w4 0 _).trans (Kept.set (R := w.heap.size) _ 1 _)).blk hx24.out (by omega))
        have HO4 : Hid (OwnI B g ((w4.setCell ⟨w.heap.size, 0, none⟩ (.slice (some ⟨g, 0, none⟩) (l'.ins.length - 1) cap)).setCell ⟨w.heap.size, 1, none⟩ (.int .i64 (h0 : Nat))) (l'.ins.length - 1) cap (l'.ins.eraseIdx m)) := hide (ho4.kept ((Kept.set w4 0 _).trans (Kept.set _ 1 _)) hne)
        have HB4 : Hid (Below B w w4) := hide ⟨hk4.os.trans hbb3.out.os, hk4.tape.trans hbb3.out.tape, hk4.output.trans hbb3.out.output, Nat.le_trans hbb3.out.size hk4.size, fun k hk => (hk4.block k (Nat.lt_of_lt_of_le hk (Nat.le_trans hB hbb3.out.size)) (by omega)).trans (hbb3.out.block k hk)⟩
        have HB5 : Hid (Below B w ((w4.setCell ⟨w.heap.size, 0, none⟩ (.slice (some ⟨g, 0, none⟩) (l'.ins.length - 1) cap)).setCell ⟨w.heap.size, 1, none⟩ (.int .i64 (h0 : Nat)))) := hide ((HB4.out.setCell hB _).setCell hB _)
        have hq2 : m ≤ (l'.ins.eraseIdx m).length := by omega
        clear ho4 hk4 HD hx14 hx24 hx13 hx23 ho3 c0 c1
        go_wp2_with fail
        refine ⟨⟨m, ⟨l'.ins.eraseIdx m, (h0 : Nat)⟩, by go_num, hq2, by omega, HL2, ?_, ?_, HX2, HB5⟩, by simp [intOf]⟩
        · simp only; rw [hlen]; exact HO4
        · simp only; rw [hlen]; exact HX1
      · have heb : ((h0 : Int) == (h1 : Int)) = false := by rw [beq_eq_false_iff_ne]; omega
        clear he HSH HH0 HH1
        go_wp2_with fail
        exact ⟨⟨m, l', by go_num, by omega, by omega, hls, ho3, hx13, hx23, hbb3⟩, by simp [intOf]⟩
end Go.Proofs.Ytacgepdmhdcdkaa
