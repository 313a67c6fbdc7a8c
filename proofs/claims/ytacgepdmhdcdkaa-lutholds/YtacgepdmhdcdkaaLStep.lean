/-
  CONTRACTS of Step, Regs, Put.
-/
import Derived.Test.YtacgepdmhdcdkaaLCyc
set_option linter.unusedSimpArgs false
set_option linter.unusedVariables false
namespace Go.Proofs.Ytacgepdmhdcdkaa
open Go.RowKit

set_option maxRecDepth 100000 in
set_option maxHeartbeats 1600000 in
theorem cloneB_at {S : Nat → Prop} (l : List Bool) (n : Nat) (hln : l.length = n) (ao : Option Addr) (cap : Nat) (w : World) (h : Lies S w ao (bitsC l)) (hn : n ≤ 20000) :
    Calls Try.prog 21 #[.slice ao n cap] w fun e w' => (∃ ao' cap', e = .returned (.slice ao' n cap') ∧ Lies (FromB w.heap.size) w' ao' (bitsC l)) ∧ Below w.heap.size w w' := by
  subst hln
  cases ao with
  | none =>
    have h0 : l.length = 0 := by
      rcases h with h | ⟨b, off, h1, _⟩
      · have := congrArg List.length h
        simpa [bitsC] using this
      · cases h1
    obtain rfl : l = [] := List.eq_nil_of_length_eq_zero h0
    have hnl := fun w => eql_nil (P := Try.prog) w 36 4 none 0 cap (by kernel_rfl)
    go_enter Try.func21, Try.ntmps21
    go_wp2_with fail
    go_ret
    exact ⟨⟨_, _, rfl, .inl rfl⟩, Below.refl _ _⟩
  | some a =>
    have HB := hide (below_alloc w (.cells #[] 4))
    have HN := hide (blk_new w (.cells #[] 4))
    obtain ⟨ao', cap', w2, happ, hm, hg, hnb⟩ := app_bo (c := cap) (n' := l.length) (Mine.empty HN.out (size := 1)) (l := []) rfl (new := l) rfl (by omega) (h.any.below HB.out) (by simp) (by omega)
    have HM := hide hm
    have HG := hide hg
    clear hm hg hnb h
    have hnl := fun w => eql_nil (P := Try.prog) w 36 4 (some a) l.length cap (by kernel_rfl)
    go_enter Try.func21, Try.ntmps21
    go_wp2_with (at_builtin; (refine wpl_append_run happ rfl _ _ rfl rfl rfl ?_))
    go_ret
    exact ⟨⟨ao', cap', rfl, HM.out.lies fun b hb => HM.out.new b hb⟩, grown_below HB.out HG.out (Nat.le_refl _)⟩

set_option maxRecDepth 100000 in
set_option maxHeartbeats 1600000 in
theorem lregs_at {s : NetQ} {S : Nat → Prop} {w : World} {given : Int} {rs : List Rg} {ls : List Lt} {os : List Int} {held : List Bool} (h : SimT s S w given rs ls os held) (hn : rs.length ≤ 20000) :
    Calls Try.prog 10 #[.pointer (some ⟨s.p, 0, none⟩)] w fun e w' => (∃ ao' cap', e = .returned (.slice ao' rs.length cap') ∧ Lies (FromB w.heap.size) w' ao' (bitsC held)) ∧ Below w.heap.size w w' := by
  obtain ⟨ha, hc, hme, hlh⟩ := h.me
  have HC := hide (cloneB_at held rs.length h.len ha hc w hlh hn)
  have m4 : w.cell? ⟨s.p, 4, none⟩ = some (.slice ha rs.length hc) := by rw [blk_cell hme]; rfl
  clear h hme hlh
  go_enter Try.func10, Try.ntmps10
  go_wp2_with fail
  refine HC.out.mono ?_
  rintro e w1 ⟨⟨ao, cap, rfl, hl⟩, hb⟩
  have HL := hide hl
  have HB := hide hb
  clear hl hb HC
  go_wp2_with fail
  go_ret
  exact ⟨⟨ao, cap, rfl, HL.out⟩, HB.out⟩

set_option maxRecDepth 100000 in
set_option maxHeartbeats 1600000 in
theorem put_no {s : NetQ} {S : Nat → Prop} {w : World} {given : Int} {rs : List Rg} {ls : List Lt} {os : List Int} {held : List Bool} (h : SimT s S w given rs ls os held) (pa : Option Addr) (pn pc : Nat) (hn : ¬ pn = rs.length) :
    Calls Try.prog 9 #[.pointer (some ⟨s.p, 0, none⟩), .slice pa pn pc] w fun e w' => e = .returned (.iface 54 (.int .i64 1)) ∧ Below w.heap.size w w' := by
  obtain ⟨ha, hc, hme, hlh⟩ := h.me
  have m4 : w.cell? ⟨s.p, 4, none⟩ = some (.slice ha rs.length hc) := by rw [blk_cell hme]; rfl
  have hne : ((pn : Int) != (rs.length : Int)) = true := by simp; omega
  clear h hme hlh
  go_enter Try.func9, Try.ntmps9
  go_wp2_with fail
  go_ret
  exact ⟨rfl, Below.refl _ _⟩

set_option maxRecDepth 100000 in
set_option maxHeartbeats 1600000 in
theorem put_at {s : NetQ} {S T : Nat → Prop} {w : World} {given : Int} {rs : List Rg} {ls : List Lt} {os : List Int} {held : List Bool} (h : SimT s S w given rs ls os held) (l : List Bool) (pa : Option Addr) (pn pc : Nat) (hn : pn = rs.length) (hll : l.length = pn) (hl : Lies T w pa (bitsC l)) (hb : rs.length ≤ 20000) (hS : ∀ b, w.heap.size ≤ b → S b) :
    Calls Try.prog 9 #[.pointer (some ⟨s.p, 0, none⟩), .slice pa pn pc] w fun e w' => e = .returned .nilIface ∧ SimT s S w' given rs ls os l ∧ Kept s.p w w' := by
  obtain ⟨ha, hc, hme, hlh⟩ := h.me
  have m4 : w.cell? ⟨s.p, 4, none⟩ = some (.slice ha rs.length hc) := by rw [blk_cell hme]; rfl
  subst hn
  have HC := hide (cloneB_at l rs.length hll pa pc w hl hb)
  have H := hide h
  have HME := hide hme
  have HLL := hide hll
  clear h hme hlh hl hll
  go_enter Try.func9, Try.ntmps9
  go_wp2_with fail
  refine HC.out.mono ?_
  rintro e w1 ⟨⟨ao, cap, rfl, hl⟩, hb⟩
  have HL := hide hl
  have HB := hide hb
  have m4 : w1.cell? ⟨s.p, 4, none⟩ = some (.slice ha rs.length hc) := by rw [blk_cell (Below.blk hb HME.out)]; rfl
  have z4 : w1.frozen? ⟨s.p, 4, none⟩ = false := blk_frozen (Below.blk hb HME.out) 4
  clear hl hb HC
  go_wp2_with fail
  go_ret
  refine ⟨rfl, (H.out.below HB.out).turned (HL.out.imp fun b _ hb => hS b hb) HLL.out, (Kept.of HB.out).step 4 _⟩

set_option maxRecDepth 100000 in
set_option maxHeartbeats 6400000 in
theorem lstep_at {s : NetQ} {S : Nat → Prop} {w : World} {gn : Nat} {rs : List Rg} {ls : List Lt} {os : List Int} {held g : List Bool} (h : SimT s S w gn rs ls os held) (hr : RightT gn rs ls os) (ga : Option Addr) (gc : Nat) (hg : Lies AnyB w ga (bitsC g)) (hS : ∀ b, w.heap.size ≤ b → S b) :
    Calls Try.prog 8 #[.pointer (some ⟨s.p, 0, none⟩), .slice ga g.length gc] w fun e w' => (∃ O, e = .returned (.slice (some ⟨O, 0, none⟩) os.length os.length) ∧ w.heap.size ≤ O ∧ w'.heap[O]? = some (.cells (bitsC (outsL (lookL gn g held ls) os)).toArray 4 (0, 0))) ∧ SimT s S w' gn rs ls os (nextL (lookL gn g held ls) rs) ∧ Kept s.p w w' := by
  have hol := hr.o1
  have hrl := hr.r1
  have hll := hr.l1
  have hgb := hr.g1
  have hmk := mk_bits os.length hr.o1
  have hmk2 := mk_bits rs.length hr.r1
  have HCY := hide (lcycle_at h hr ga gc hg)
  have H := hide h
  have HRO := hide hr.outs
  have HRR := hide hr.regs
  have HTL := hide (tabsTo_len gn g held ls ls.length)
  have HLEN := hide h.len
  have HS := hide hS
  clear h hr hg hS
  go_enter Try.func8, Try.ntmps8
  go_wp2_with fail
  refine HCY.out.mono ?_
  rintro e w1 ⟨⟨x, rfl, hlk⟩, hb1⟩
  have HLK := hide hlk
  have HB1 := hide hb1
  clear hlk hb1 HCY
  obtain ⟨ha, hc, hme, hlh⟩ := (H.out.below HB1.out).me
  have HME := hide hme
  have m3 : w1.cell? ⟨s.p, 3, none⟩ = some (.slice s.oa os.length s.oc) := by rw [blk_cell hme]; rfl
  have m3a := fun o => cell_alloc m3 o
  have hpl := blk_lt hme
  have HB2 : Hid (Below w1.heap.size w1 (w1.alloc (.cells (bitsC (List.replicate os.length false)).toArray 4))) := hide (below_alloc _ _)
  have HN2 := hide (blk_new w1 (.cells (bitsC (List.replicate os.length false)).toArray 4))
  clear hme hlh
  go_wp2_with fail
  clear m3 m3a hmk
  -- what may be looked at, in any later world
  have HLOOK : Hid (∀ W, Below w1.heap.size w1 W → ∀ o : Nat, o < gn + rs.length + ls.length → Calls Try.prog 29 #[.int .i64 o, .pointer (some ⟨x.x1, 0, none⟩), .pointer (some ⟨x.x2, 0, none⟩), .pointer (some ⟨x.x3, 0, none⟩), .pointer (some ⟨x.x4, 0, none⟩)] W fun e w' => e = .returned (.bool (lookL gn g held ls o)) ∧ w' = W) := hide fun W hb o ho => by
    have h1 := HTL.out
    have h2 := HLEN.out
    exact look_at (HLK.out.below hb) o (by omega) (by omega)
  generalize hlook : lookL gn g held ls = look at *
  have HLQ := hide hlook
  clear hlook
  clear HLK HTL
  go_loopw [7, 8, 30] (fun _ _ i wr => ∃ q : Nat, q ≤ os.length ∧ i = .int .i64 q ∧ Hid (Below w1.heap.size w1 wr) ∧ Hid (wr.heap[w1.heap.size]? = some (.cells (bitsC (rowTo (fun i => look (outAt os i).toNat) os.length q)).toArray 4 (0, 0)))) (fun _ _ i _ => os.length - (intOf i).toNat)
  case atStart => exact ⟨0, Nat.zero_le _, rfl, HB2, hide (by rw [rowTo_zero]; exact HN2.out)⟩
  case round =>
    obtain ⟨q, hq, rfl, hb, hro⟩ := hrel
    by_cases hlt2 : q < os.length
    · have hqi : (q : Int) < (os.length : Int) := by omega
      obtain ⟨b, off, hoa, _, hbl, n0⟩ := (H.out.outs.below (Below.step HB1.out hb.out)).ints hlt2
      obtain ⟨on, hon⟩ := Int.eq_ofNat_of_zero_le (inR_iff.1 (HRO.out q hlt2)).1
      have hol2 := (inR_iff.1 (HRO.out q hlt2)).2
      rw [hon] at hol2 n0
      have HA := hide hoa
      rw [HA.out]
      have HC := hide (HLOOK.out _ hb.out on (by omega))
      have mo : wr.cell? ⟨w1.heap.size, q, none⟩ = some (.bool (bit (rowTo (fun i => look (outAt os i).toNat) os.length q) q)) := bits_cell hro.out (by rw [rowTo_len]; exact hlt2)
      have mz : wr.frozen? ⟨w1.heap.size, q, none⟩ = false := blk_frozen hro.out q
      have HRS : Hid ((rowTo (fun i => look (outAt os i).toNat) os.length q).set q (look on) = rowTo (fun i => look (outAt os i).toNat) os.length (q + 1)) := hide (by
        have := rowTo_set (fun i => look (outAt os i).toNat) os.length q
        rwa [hon, Int.toNat_natCast] at this)
      generalize rowTo (fun i => look (outAt os i).toNat) os.length q = r1 at *
      clear hoa hon hbl hol2
      go_wp2_with fail
      refine HC.out.mono ?_
      rintro e w4 ⟨rfl, rfl⟩
      go_wp2_with fail
      refine ⟨⟨q + 1, by omega, by go_num, hide (hb.out.setCell (Nat.le_refl _) _), hide ?_⟩, by simp [intOf]; omega⟩
      rw [blk_set hro.out, bits_set, HRS.out]
    · have HOUT : Hid (wr.heap[w1.heap.size]? = some (.cells (bitsC (outsL look os)).toArray 4 (0, 0))) := hide (by
        have e : q = os.length := by omega
        have := hro.out
        rw [e, rowTo_all] at this
        exact this)
      have m4 : wr.cell? ⟨s.p, 4, none⟩ = some (.slice ha rs.length hc) := by rw [blk_cell (Below.blk hb.out HME.out)]; rfl
      have m1 : wr.cell? ⟨s.p, 1, none⟩ = some (.slice s.ra rs.length s.rc) := by rw [blk_cell (Below.blk hb.out HME.out)]; rfl
      have m1a := fun o => cell_alloc m1 o
      have hpl2 := blk_lt (Below.blk hb.out HME.out)
      have hwl2 : w1.heap.size < wr.heap.size := blk_lt HOUT.out
      have HB3 : Hid (Below wr.heap.size wr (wr.alloc (.cells (bitsC (List.replicate rs.length false)).toArray 4))) := hide (below_alloc _ _)
      have HN3 := hide (blk_new wr (.cells (bitsC (List.replicate rs.length false)).toArray 4))
      clear hro HN2 HB2
      go_wp2_with fail
      clear m4 m1 m1a hmk2
      rename World => wf
      go_loopw [10, 11, 54] (fun _ _ i wr => ∃ q : Nat, q ≤ rs.length ∧ i = .int .i64 q ∧ Hid (Below wf.heap.size wf wr) ∧ Hid (wr.heap[wf.heap.size]? = some (.cells (bitsC (rowTo (fun i => look (rgAt rs i).next.toNat) rs.length q)).toArray 4 (0, 0)))) (fun _ _ i _ => rs.length - (intOf i).toNat)
      case atStart => exact ⟨0, Nat.zero_le _, rfl, HB3, hide (by rw [rowTo_zero]; exact HN3.out)⟩
      case round =>
        have HBF := hide hb.out
        clear hb HB3 HN3
        obtain ⟨q, hq, rfl, hb, hro⟩ := hrel
        by_cases hlt2 : q < rs.length
        · have hqi : (q : Int) < (rs.length : Int) := by omega
          obtain ⟨b, off, hoa, _, hbl, n0, n1⟩ := (H.out.regs.below (Below.step HB1.out (Below.step HBF.out hb.out))).pair hlt2
          simp only [rgF, rgG] at n0 n1
          obtain ⟨on, hon⟩ := Int.eq_ofNat_of_zero_le (inR_iff.1 (HRR.out q hlt2)).1
          have hol2 := (inR_iff.1 (HRR.out q hlt2)).2
          rw [hon] at hol2 n1
          have HA := hide hoa
          rw [HA.out]
          have HB5 : Hid (Below wr.heap.size wr (wr.alloc (.cells #[.bool (rgAt rs q).init, .int .i64 on] 59))) := hide (below_alloc _ _)
          have HC := hide (HLOOK.out _ (Below.step (Below.step HBF.out hb.out) HB5.out) on (by omega))
          have hro5 := hide (Below.blk HB5.out hro.out)
          have hwfl : wf.heap.size < wr.heap.size := blk_lt hro.out
          have mo : (wr.alloc (.cells #[.bool (rgAt rs q).init, .int .i64 on] 59)).cell? ⟨wf.heap.size, q, none⟩ = some (.bool (bit (rowTo (fun i => look (rgAt rs i).next.toNat) rs.length q) q)) := bits_cell hro5.out (by rw [rowTo_len]; exact hlt2)
          have mz : (wr.alloc (.cells #[.bool (rgAt rs q).init, .int .i64 on] 59)).frozen? ⟨wf.heap.size, q, none⟩ = false := blk_frozen hro5.out q
          have x1 : (wr.alloc (.cells #[.bool (rgAt rs q).init, .int .i64 on] 59)).cell? ⟨wr.heap.size, 1, none⟩ = some (.int .i64 on) := by rw [blk_cell (blk_new _ _)]; rfl
          have HRS : Hid ((rowTo (fun i => look (rgAt rs i).next.toNat) rs.length q).set q (look on) = rowTo (fun i => look (rgAt rs i).next.toNat) rs.length (q + 1)) := hide (by
            have := rowTo_set (fun i => look (rgAt rs i).next.toNat) rs.length q
            rwa [hon, Int.toNat_natCast] at this)
          generalize rowTo (fun i => look (rgAt rs i).next.toNat) rs.length q = r1 at *
          clear hoa hon hbl hol2
          go_wp2_with fail
          refine HC.out.mono ?_
          rintro e w4 ⟨rfl, rfl⟩
          go_wp2_with fail
          refine ⟨⟨q + 1, by omega, by go_num, hide (Below.step (hb.out.setCell (Nat.le_refl _) _) (below_alloc _ _)), hide (Below.blk (below_alloc _ _) ?_)⟩, by simp [intOf]; omega⟩
          rw [blk_set hro.out, bits_set, HRS.out]
        · have HNX : Hid (wr.heap[wf.heap.size]? = some (.cells (bitsC (nextL look rs)).toArray 4 (0, 0))) := hide (by
            have e : q = rs.length := by omega
            have := hro.out
            rw [e, rowTo_all] at this
            exact this)
          have HBW := hide (Below.step HB1.out (Below.step HBF.out hb.out))
          have HSZ : Hid (w.heap.size ≤ wf.heap.size) := hide (Nat.le_trans HB1.out.size HBF.out.size)
          have HO5 := hide (Below.blk hb.out HOUT.out)
          have hm5 := Below.blk (Below.step HBF.out hb.out) HME.out
          have m4 : wr.cell? ⟨s.p, 4, none⟩ = some (.slice ha rs.length hc) := by rw [blk_cell hm5]; rfl
          have z4 : wr.frozen? ⟨s.p, 4, none⟩ = false := blk_frozen hm5 4
          have HPW : Hid (s.p < w.heap.size) := hide H.out.lt
          have HSW1 := hide HB1.out.size
          clear hro hm5
          go_wp2_with fail
          go_ret
          rw [HLQ.out]
          refine ⟨⟨w1.heap.size, rfl, HSW1.out, ?_⟩, (H.out.below HBW.out).turned (Lies.blk HNX.out (HS.out _ HSZ.out)) (nextL_len _ _), (Kept.of HBW.out).step 4 _⟩
          exact (Below.heap_setCell _ ⟨s.p, 4, none⟩ _ w1.heap.size (by have := HPW.out; have := HSW1.out; show w1.heap.size ≠ s.p; omega)).trans HO5.out
end Go.Proofs.Ytacgepdmhdcdkaa
