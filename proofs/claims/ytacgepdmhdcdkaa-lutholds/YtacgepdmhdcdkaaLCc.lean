/-
  CONTRACTS of slices.Grow of nothing, slices.Concat of two rows of numbers.
-/
import Derived.Test.YtacgepdmhdcdkaaLSr
import Derived.Lib.AppendZeros
set_option linter.unusedSimpArgs false
set_option linter.unusedVariables false
namespace Go.Proofs.Ytacgepdmhdcdkaa
open Go.RowKit

theorem Mine.zero {e B g : Nat} {w : World} {cap : Nat} {cur : Array Value} (hB : B ≤ g) (h : w.heap[g]? = some (.cells cur e (0, 0))) (hs : cur.size = cap) (hc : cap ≤ maxLen) : Mine e 1 B w (.slice (some ⟨g, 0, Option.none⟩) 0 cap) 0 [] :=
  ⟨⟨by simp, .inr ⟨g, cap, cur, rfl, Nat.zero_le _, h, Nat.zero_le _, hc, by simpa using hs, by simp⟩⟩, fun b hb => by simp [Value.ownBlock] at hb; omega⟩

set_option maxRecDepth 100000 in
set_option maxHeartbeats 3200000 in
theorem grow_at (n : Nat) (hn : n ≤ 1000) (w : World) :
    Calls Try.prog 60 #[.slice none 0 0, .int .i64 n] w fun e w' => (∃ va vc, e = .returned (.slice va 0 vc) ∧ Mine 3 1 w.heap.size w' (.slice va 0 vc) 0 []) ∧ Below w.heap.size w w' := by
  by_cases h0 : 0 < n
  · obtain ⟨i, hi, hz, hs, hb⟩ := info_in
    have happ := Lib.run_append_nil_zeros (P := Try.prog) w 24 3 24 3 i (.int .i64 0) .i64 .i64 (by kernel_rfl) (by kernel_rfl) hi hz n h0 (by omega) (by omega) (by rw [hb]; omega)
    have hge := grownCap_ge w n 0 3
    have hle := grownCap_le_maxLen w n 0 3 (by simp only [maxLen]; omega)
    have hle2 : grownCap w n 0 3 ≤ 9223372036854775807 := Nat.le_trans hle (by decide)
    have HN := hide (blk_new w.drew (.cells (Builtin.zeroCells (Value.int .i64 0).cells n ++ Builtin.zeroCells (Value.int .i64 0).cells (grownCap w n 0 3 - n)) 3))
    have HSZ : Hid ((Builtin.zeroCells (Value.int .i64 0).cells n ++ Builtin.zeroCells (Value.int .i64 0).cells (grownCap w n 0 3 - n)).size = grownCap w n 0 3) := hide (by
      rw [Array.size_append]
      have hcs : (Value.int IntKind.i64 0).cells.size = 1 := rfl
      simp [Builtin.zeroCells, hcs]
      omega)
    have HB : Hid (Below w.heap.size w (w.drew.alloc (.cells (Builtin.zeroCells (Value.int .i64 0).cells n ++ Builtin.zeroCells (Value.int .i64 0).cells (grownCap w n 0 3 - n)) 3))) := hide (Below.step (Below.refl _ _).drew (below_alloc _ _))
    have HLE := hide hle
    have hni : (0 : Int) < (n : Int) := by omega
    generalize (Builtin.zeroCells (Value.int .i64 0).cells n ++ Builtin.zeroCells (Value.int .i64 0).cells (grownCap w n 0 3 - n)) = cur at *
    generalize grownCap w n 0 3 = cap at *
    clear hi hz hs hb hle
    have hcn : ¬ cap < n := by omega
    have hc0 : ¬ cap = 0 := by omega
    go_enter Try.func60, Try.ntmps60
    go_wp2_with (at_builtin; (refine Lib.wpList_append_run _ rfl _ _ _ _ rfl _ _ rfl rfl _ _ happ ?_))
    go_ret
    exact ⟨⟨_, _, rfl, Mine.zero (Nat.le_refl _) HN.out HSZ.out HLE.out⟩, HB.out⟩
  · have h1 : n = 0 := by omega
    subst h1
    go_enter Try.func60, Try.ntmps60
    go_wp2_with fail
    go_ret
    exact ⟨⟨_, _, rfl, Mine.none w⟩, Below.refl _ _⟩

set_option maxRecDepth 100000 in
set_option maxHeartbeats 6400000 in
theorem concat_at {S T : Nat → Prop} (X : Nat) (l m : List Int) (la ma : Option Addr) (lc mc : Nat) (w : World) (hx : w.heap[X]? = some (.cells #[.slice la l.length lc, .slice ma m.length mc] 24 (0, 0))) (hl : Lies S w la (intsC l)) (hm : Lies T w ma (intsC m)) (hl4 : l.length ≤ 4) (hm4 : m.length ≤ 4) :
    Calls Try.prog 47 #[.slice (some ⟨X, 0, none⟩) 2 2] w fun e w' => (∃ va vc, e = .returned (.slice va (l.length + m.length) vc) ∧ Mine 3 1 w.heap.size w' (.slice va (l.length + m.length) vc) (l.length + m.length) (intsC (l ++ m))) ∧ Below w.heap.size w w' := by
  have HX := hide hx
  have HL := hide hl
  have HM := hide hm
  have x0 : w.cell? ⟨X, 0, none⟩ = some (.slice la l.length lc) := by rw [blk_cell hx]; rfl
  have x1 : w.cell? ⟨X, 1, none⟩ = some (.slice ma m.length mc) := by rw [blk_cell hx]; rfl
  have HG := hide (grow_at (l.length + m.length) (by omega) w)
  clear hx hl hm
  go_enter Try.func47, Try.ntmps47
  go_wp2_with fail
  go_loop [3, 5, 11] (fun s _ i => (s = .int .i64 0 ∧ i = .int .i64 0) ∨ (s = .int .i64 l.length ∧ i = .int .i64 1) ∨ (s = .int .i64 (l.length + m.length : Nat) ∧ i = .int .i64 2)) (fun _ _ i => 2 - (intOf i).toNat)
  case atStart => exact .inl ⟨rfl, rfl⟩
  case round =>
    rcases hrel with ⟨rfl, rfl⟩ | ⟨rfl, rfl⟩ | ⟨rfl, rfl⟩
    · go_wp2_with fail
      exact ⟨.inr (.inl ⟨by go_num, rfl⟩), by decide⟩
    · go_wp2_with fail
      exact ⟨.inr (.inr ⟨by go_num, rfl⟩), by decide⟩
    · go_wp2_with fail
      refine HG.out.mono ?_
      rintro e w1 ⟨⟨va, vc, rfl, hmn⟩, hb⟩
      have HB := hide hb
      have HMN := hide hmn
      clear hb hmn x0 x1 HG
      have y0 : w1.cell? ⟨X, 0, none⟩ = some (.slice la l.length lc) := by rw [blk_cell (Below.blk HB.out HX.out)]; rfl
      have y1 : w1.cell? ⟨X, 1, none⟩ = some (.slice ma m.length mc) := by rw [blk_cell (Below.blk HB.out HX.out)]; rfl
      obtain ⟨va1, vc1, w2, happ1, hm1, hg1, hnb1⟩ := app_in (c := lc) (n' := l.length) (l := []) HMN.out rfl (new := l) rfl (by omega) (HL.out.below HB.out).any HB.out.size (by omega)
      have HB2 : Hid (Below w.heap.size w w2) := hide ⟨hg1.os.trans HB.out.os, hg1.tape.trans HB.out.tape, hg1.output.trans HB.out.output, Nat.le_trans HB.out.size hg1.size, fun k hk => (hg1.block k (Nat.lt_of_lt_of_le hk HB.out.size) (fun e => by have := HMN.out.new k e.symm; omega)).trans (HB.out.block k hk)⟩
      have z1 : w2.cell? ⟨X, 1, none⟩ = some (.slice ma m.length mc) := by rw [blk_cell (Below.blk HB2.out HX.out)]; rfl
      obtain ⟨va2, vc2, w3, happ2, hm2, hg2, hnb2⟩ := app_in (c := mc) (n' := l.length + m.length) (l := l) (by simpa using hm1) rfl (new := m) rfl rfl (HM.out.below HB2.out).any HB2.out.size (by omega)
      have HB3 : Hid (Below w.heap.size w w3) := hide ⟨hg2.os.trans HB2.out.os, hg2.tape.trans HB2.out.tape, hg2.output.trans HB2.out.output, Nat.le_trans HB2.out.size hg2.size, fun k hk => (hg2.block k (Nat.lt_of_lt_of_le hk HB2.out.size) (fun e => by have := hm1.new k e.symm; omega)).trans (HB2.out.block k hk)⟩
      have HM2 := hide hm2
      clear hm1 hg1 hnb1 hm2 hg2 hnb2
      go_wp2_with fail
      go_loopw [6, 8, 27] (fun v _ i wr => (v = .slice va 0 vc ∧ i = .int .i64 0 ∧ Hid (wr = w1)) ∨ (v = .slice va1 l.length vc1 ∧ i = .int .i64 1 ∧ Hid (wr = w2)) ∨ (v = .slice va2 (l.length + m.length) vc2 ∧ i = .int .i64 2 ∧ Hid (wr = w3))) (fun _ _ i _ => 2 - (intOf i).toNat)
      case atStart => exact .inl ⟨rfl, rfl, hide rfl⟩
      case round =>
        rcases hrel with ⟨rfl, rfl, hw⟩ | ⟨rfl, rfl, hw⟩ | ⟨rfl, rfl, hw⟩
        · have hw := hw.out
          subst hw
          go_wp2_with (at_builtin; (refine wpl_append_run happ1 rfl _ _ rfl rfl rfl ?_))
          exact ⟨.inr (.inl ⟨rfl, rfl, hide trivial⟩), by decide⟩
        · have hw := hw.out
          subst hw
          go_wp2_with (at_builtin; (refine wpl_append_run happ2 rfl _ _ rfl rfl rfl ?_))
          exact ⟨.inr (.inr ⟨rfl, rfl, hide trivial⟩), by decide⟩
        · have hw := hw.out
          subst hw
          go_wp2_with fail
          go_ret
          exact ⟨⟨va2, vc2, rfl, HM2.out⟩, HB3.out⟩
end Go.Proofs.Ytacgepdmhdcdkaa
