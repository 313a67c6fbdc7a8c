/-
  CONTRACT of Step, and of slices.Equal at bits.
-/
import Derived.Test.YtlnmemeejgnbeaaGCycle
set_option linter.unusedSimpArgs false
set_option linter.unusedVariables false
namespace Go.Proofs.Ytlnmemeejgnbeaa
open Go.RowKit

theorem Kept.trans_below {R : Nat} {a b c : World} (h : Below a.heap.size a b) (k : Kept R b c) : Kept R a c := (Kept.of h).trans k

set_option maxRecDepth 100000 in
set_option maxHeartbeats 6400000 in
theorem step_at {s : SimP} {w : World} {lo hi : Nat} {given : Int} {ns : List Nd} {os : List Int} {held g : List Bool} (h : SimAt s w lo hi ns os held) (hr : RightP given ns os) (ga : Option Addr) (gc : Nat) (hg : Lies AnyB w ga (bitsC g)) (hgl : (g.length : Int) ≤ 20000) :
    Calls Try.prog 12 #[.pointer (some ⟨s.p, 0, none⟩), .slice ga g.length gc] w fun e w' => (∃ O, e = .returned (.slice (some ⟨O, 0, none⟩) os.length os.length) ∧ w.heap.size ≤ O ∧ w'.heap[O]? = some (.cells (bitsC (outs (vals g held ns) os)).toArray 4 (0, 0))) ∧ SimAt s w' lo hi ns os (heldNext (vals g held ns) held ns) ∧ Kept s.h w w' := by
  have hn : (ns.length : Int) ≤ 20000 := by have := hr.n1; omega
  have ho : (os.length : Int) ≤ 20000 := by have := hr.o1; omega
  have hmk := mk_bits os.length hr.o1
  have HCY := hide (cycle_at h hr ga gc hg hgl)
  have H := hide h
  have HR := hide hr
  have HVL : Hid ((vals g held ns).length = ns.length) := hide (valsTo_len _ _ _ _)
  generalize vals g held ns = v at *
  clear h hr hg
  go_enter Try.func12, Try.ntmps12
  go_wp2_with fail
  refine HCY.out.mono ?_
  rintro e w1 ⟨⟨W, rfl, hW, hrow⟩, hb1⟩
  have H1 := hide (H.out.below hb1)
  have HK1 := hide (Kept.of (R := s.h) hb1)
  have HWR := hide hrow
  have HWG := hide hW
  have hhl : s.h < w.heap.size := blk_lt H.out.hold
  clear HCY hb1 hrow hW
  have m0 : w1.cell? ⟨s.p, 0, none⟩ = some (.slice s.na ns.length s.nc) := by rw [blk_cell H1.out.me]; rfl
  go_wp2_with fail
  clear m0
  go_loopw [6, 7, 21] (fun _ _ i wr => ∃ k : Nat, k ≤ ns.length ∧ i = .int .i64 k ∧ Hid (SimAt s wr lo hi ns os (heldTo v held ns k)) ∧ Hid (Kept s.h w wr) ∧ Hid (wr.heap[W]? = some (.cells (bitsC v).toArray 4 (0, 0)))) (fun _ _ i _ => ns.length - (intOf i).toNat)
  case atStart => exact ⟨0, Nat.zero_le _, rfl, hide (by rw [heldTo_zero]; exact H1.out), HK1, HWR⟩
  case round =>
    obtain ⟨k, hk, rfl, hs, hkp, hrow⟩ := hrel
    by_cases hlt : k < ns.length
    · have hki : (k : Int) < (ns.length : Int) := by omega
      obtain ⟨b, off, ha, _, hbl, n0, n1, n2, n3⟩ := hs.out.nodes.nodes hlt
      have HA := hide ha
      rw [HA.out]
      have HRN := hide (HR.out.nodes k hlt)
      clear ha hbl
      generalize hnd : ndAt ns k = x at n0 n1 n2 n3 HRN
      have HND := hide hnd
      clear hnd
      obtain ⟨op, a, bb, nx⟩ := x
      simp only at n0 n1 n2 n3
      have HB1 : Hid (Below wr.heap.size wr (wr.alloc (.cells #[.int .i64 op, .int .i64 a, .int .i64 bb, .int .i64 nx] 26))) := hide (below_alloc _ _)
      by_cases hop : op = 4
      · subst hop
        obtain ⟨hn0, hn1⟩ : 0 ≤ nx ∧ nx < (ns.length : Int) := by
          have h := HRN.out
          simp [rightN, inR] at h
          omega
        obtain ⟨nn, rfl⟩ := Int.eq_ofNat_of_zero_le hn0
        have hlen : (heldTo v held ns k).length = ns.length := by rw [heldTo_len]; exact H.out.len
        have x3 : (wr.alloc (.cells #[.int .i64 4, .int .i64 a, .int .i64 bb, .int .i64 nn] 26)).cell? ⟨wr.heap.size, 3, none⟩ = some (.int .i64 nn) := by rw [blk_cell (blk_new _ _)]; rfl
        have m2 : (wr.alloc (.cells #[.int .i64 4, .int .i64 a, .int .i64 bb, .int .i64 nn] 26)).cell? ⟨s.p, 2, none⟩ = some (.slice (some ⟨s.h, 0, none⟩) ns.length ns.length) := by rw [blk_cell (Below.blk HB1.out hs.out.me)]; rfl
        have mv : (wr.alloc (.cells #[.int .i64 4, .int .i64 a, .int .i64 bb, .int .i64 nn] 26)).cell? ⟨W, nn, none⟩ = some (.bool (bit v nn)) := bits_cell (Below.blk HB1.out hrow.out) (by rw [HVL.out]; omega)
        have mh : (wr.alloc (.cells #[.int .i64 4, .int .i64 a, .int .i64 bb, .int .i64 nn] 26)).cell? ⟨s.h, k, none⟩ = some (.bool (bit (heldTo v held ns k) k)) := bits_cell (Below.blk HB1.out hs.out.hold) (by rw [hlen]; exact hlt)
        have mz : (wr.alloc (.cells #[.int .i64 4, .int .i64 a, .int .i64 bb, .int .i64 nn] 26)).frozen? ⟨s.h, k, none⟩ = false := blk_frozen (Below.blk HB1.out hs.out.hold) k
        have HHT : Hid ((heldTo v held ns k).set k (bit v nn) = heldTo v held ns (k + 1)) := hide (by
          have := heldTo_set v held ns k
          rw [HND.out] at this
          simpa [nextOf, isReg] using this)
        have HLN : Hid ((heldTo v held ns (k + 1)).length = ns.length) := hide (by rw [heldTo_len]; exact H.out.len)
        have hWs : ¬ W = s.h := by have := HWG.out; omega
        have hsl : s.h < wr.heap.size := blk_lt hs.out.hold
        have hWl : W < wr.heap.size := blk_lt hrow.out
        have hpl : s.p < wr.heap.size := blk_lt hs.out.me
        clear hlen
        go_wp2_with fail
        go_region
        all_goals go_wp2_with fail
        all_goals
          refine ⟨⟨k + 1, by omega, by go_num, ?_, ?_, ?_⟩, by simp [intOf]; omega⟩
          · have hk1 : Kept s.h wr (wr.setCell ⟨s.h, k, none⟩ (.bool (bit v nn))) := Kept.set _ _ _
            have h1 : SimAt s (wr.setCell ⟨s.h, k, none⟩ (.bool (bit v nn))) lo hi ns os (heldTo v held ns (k + 1)) := hs.out.turned hk1 (by rw [blk_set hs.out.hold, bits_set, HHT.out]) HLN.out
            exact hide (h1.below (below_alloc _ _).drew)
          · exact hide (((hkp.out.trans (Kept.set _ _ _)).below (below_alloc _ _).drew))
          · exact hide (Below.blk (below_alloc _ _).drew ((Kept.set (R := s.h) wr k _).blk hrow.out hWs))
      · have hopb : (op == 4) = false := beq_eq_false_iff_ne.2 hop
        have HSK : Hid (heldTo v held ns (k + 1) = heldTo v held ns k) := hide (heldTo_skip v held ns k (by rw [HND.out]; simp [isReg, hop]))
        go_wp2_with fail
        exact ⟨⟨k + 1, by omega, by go_num, hide (by rw [HSK.out]; exact hs.out.below HB1.out), hide (hkp.out.below HB1.out), hide (Below.blk HB1.out hrow.out)⟩, by simp [intOf]; omega⟩
    · have HJ : Hid (k = ns.length) := hide (by omega)
      have HSF : Hid (SimAt s wr lo hi ns os (heldNext v held ns)) := hide (by have := hs.out; rw [HJ.out] at this; exact this)
      have m1 : wr.cell? ⟨s.p, 1, none⟩ = some (.slice s.oa os.length s.oc) := by rw [blk_cell hs.out.me]; rfl
      have m1a := fun o => cell_alloc m1 o
      have hsl : s.h < wr.heap.size := blk_lt hs.out.hold
      have hWl : W < wr.heap.size := blk_lt hrow.out
      have hpl : s.p < wr.heap.size := blk_lt hs.out.me
      have HB1 : Hid (Below wr.heap.size wr (wr.alloc (.cells (bitsC (List.replicate os.length false)).toArray 4))) := hide (below_alloc _ _)
      have HN1 := hide (blk_new wr (.cells (bitsC (List.replicate os.length false)).toArray 4))
      have HSZ : Hid (w.heap.size ≤ wr.heap.size) := hide hkp.out.size
      clear hs
      go_wp2_with fail
      clear m1 m1a hmk
      rename World => wf
      go_loopw [9, 10, 52] (fun _ _ i wr => ∃ q : Nat, q ≤ os.length ∧ i = .int .i64 q ∧ Hid (Below wf.heap.size wf wr) ∧ Hid (wr.heap[wf.heap.size]? = some (.cells (bitsC (outsRow v os q)).toArray 4 (0, 0)))) (fun _ _ i _ => os.length - (intOf i).toNat)
      case atStart => exact ⟨0, Nat.zero_le _, rfl, HB1, hide (by rw [outsRow_zero]; exact HN1.out)⟩
      case round =>
        obtain ⟨q, hq, rfl, hb, hro⟩ := hrel
        by_cases hlt2 : q < os.length
        · have hqi : (q : Int) < (os.length : Int) := by omega
          obtain ⟨b, off, ha, _, hbl, n0⟩ := (HSF.out.outs.below hb.out).ints hlt2
          obtain ⟨on, hon⟩ := Int.eq_ofNat_of_zero_le (inR_iff.1 (HR.out.outs q hlt2)).1
          have hol := (inR_iff.1 (HR.out.outs q hlt2)).2
          rw [hon] at hol n0
          have HON := hide hon
          have HA := hide ha
          rw [HA.out]
          have mv : wr.cell? ⟨W, on, none⟩ = some (.bool (bit v on)) := bits_cell (Below.blk hb.out hrow.out) (by rw [HVL.out]; omega)
          have mo : wr.cell? ⟨wf.heap.size, q, none⟩ = some (.bool (bit (outsRow v os q) q)) := bits_cell hro.out (by rw [outsRow_len]; exact hlt2)
          have mz : wr.frozen? ⟨wf.heap.size, q, none⟩ = false := blk_frozen hro.out q
          have HRS : Hid ((outsRow v os q).set q (bit v on) = outsRow v os (q + 1)) := hide (by
            have := outsRow_set v os q
            rwa [HON.out, Int.toNat_natCast] at this)
          clear ha hon hbl
          go_wp2_with fail
          refine ⟨⟨q + 1, by omega, by go_num, hide (hb.out.setCell (Nat.le_refl _) _), hide ?_⟩, by simp [intOf]; omega⟩
          rw [blk_set hro.out, bits_set, HRS.out]
        · have HQ : Hid (q = os.length) := hide (by omega)
          go_wp2_with fail
          go_ret
          refine ⟨⟨wf.heap.size, rfl, HSZ.out, ?_⟩, HSF.out.below hb.out, hkp.out.below hb.out⟩
          have := hro.out
          rwa [HQ.out, outsRow_all] at this

set_option maxRecDepth 100000 in
set_option maxHeartbeats 6400000 in
theorem equal_at {S T : Nat → Prop} (l m : List Bool) (ao bo : Option Addr) (ac bc : Nat) (w : World) (hl : Lies S w ao (bitsC l)) (hm : Lies T w bo (bitsC m)) (hn : (l.length : Int) ≤ 100000) (hmn : (m.length : Int) ≤ 100000) (he : l = m) :
    Calls Try.prog 11 #[.slice ao l.length ac, .slice bo m.length bc] w fun e w' => e = .returned (.bool true) ∧ Below w.heap.size w w' := by
  subst he
  have HL := hide hl
  have HM := hide hm
  clear hl hm
  go_enter Try.func11, Try.ntmps11
  go_wp2_with fail
  go_loopw [5, 13] (fun _ i wr => ∃ k : Nat, k ≤ l.length ∧ i = .int .i64 k ∧ Hid (Below w.heap.size w wr)) (fun _ i _ => l.length - (intOf i).toNat)
  case atStart => exact ⟨0, Nat.zero_le _, rfl, hide (Below.refl _ _)⟩
  case round =>
    obtain ⟨k, hk, rfl, hw⟩ := hrel
    by_cases hlt : k < l.length
    · have hki : (k : Int) < (l.length : Int) := by omega
      obtain ⟨b, off, ha, _, _, q0⟩ := (HL.out.below hw.out).bits hlt
      obtain ⟨b2, off2, ha2, _, _, q2⟩ := (HM.out.below hw.out).bits hlt
      rw [ha, ha2]
      clear ha ha2
      generalize bit l k = bv at *
      go_wp2_with fail
      go_quiet (fail)
      go_wp2_with fail
      exact ⟨⟨k + 1, by omega, by go_num, hide (Below.drewNs hw.out _)⟩, by simp [intOf]; omega⟩
    · go_wp2_with fail
      go_ret
      exact ⟨rfl, hw.out⟩
end Go.Proofs.Ytlnmemeejgnbeaa
