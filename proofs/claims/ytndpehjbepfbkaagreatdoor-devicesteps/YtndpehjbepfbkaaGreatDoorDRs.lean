/-
  CONTRACTS of the reference's Step, Save, Load.
-/
import Derived.Test.YtndpehjbepfbkaaGreatDoorDRn
import Derived.Test.YtndpehjbepfbkaaGreatDoorDNu
import Derived.Test.YtndpehjbepfbkaaGreatDoorLRs
import Derived.Test.YtndpehjbepfbkaaGreatDoorDSv
set_option linter.unusedSimpArgs false
set_option linter.unusedVariables false
namespace Go.Proofs.YtndpehjbepfbkaaGreatDoor
open Go.RowKit

set_option maxRecDepth 100000 in
set_option maxHeartbeats 12800000 in
theorem rdstep_at {R : Nat} {S : Nat → Prop} {w : World} {gn : Nat} {rs : List Rg} {ls : List Lt} {os : List Int} {held : List Bool} {ins outs : List Int} (h : RefAt R S w gn rs ls os held ins outs) (hr : RightT gn rs ls os) (gv : List Int) (ga : Option Addr) (gc : Nat) (hg : Lies AnyB w ga (intsC gv)) (hil : ins.length ≤ 2000) (hol : outs.length ≤ 10000) (hgl : gv.length ≤ 1000000) (how : os.length = wideTo outs outs.length) (hS : ∀ b, w.heap.size ≤ b → S b) :
    Calls Tryz.prog 9 #[.pointer (some ⟨R, 0, none⟩), .slice ga gv.length gc] w fun e w' => (∃ (va : Option Addr) (vc : Nat), e = .returned (.slice va outs.length vc) ∧ Lies (FromB w.heap.size) w' va (intsC (nums outs (outsL (lookL gn (givenTo ins gv ins.length) held ls) os)))) ∧ RefAt R S w' gn rs ls os (nextL (lookL gn (givenTo ins gv ins.length) held ls) rs) ins outs ∧ Kept R w w' := by
  obtain ⟨ra, la, oa, ha, ia, ua, rc, lc, oc, hc, ic, uc, A, C, h1, h2, h3, h4, h5, h6, h7⟩ := h.me
  have H := hide h
  have HR := hide hr
  have HSS := hide hS
  have HOW := hide how
  have HM := hide h1
  have H2 := hide h2
  have H3 := hide h3
  have H4 := hide h4
  have H5 := hide h5
  have HI := hide h6
  have H7 := hide h7
  have HLEN := hide h.len
  have HG := hide hg
  have hwn := wideTo_le ins ins.length
  have HGL := hide (givenTo_len ins gv ins.length)
  have m1 : w.cell? ⟨R, 5, none⟩ = some (.slice ia ins.length ic) := by rw [blk_cell h1]; rfl
  clear h h1 h2 h3 h4 h5 h6 h7 hr hS how hg
  go_enter Tryz.func9, Tryz.ntmps9
  go_wp2_with fail
  clear m1
  go_loopw [5, 17] (fun v i wr => ∃ (j : Nat) (va : Option Addr) (vc q : Nat), j ≤ ins.length ∧ i = .int .i64 j ∧ v = .slice va q vc ∧ q ≤ 8 * j ∧ Hid (q = wideTo ins j) ∧ Hid (BRow w wr va vc q (givenTo ins gv j))) (fun _ i _ => ins.length - (intOf i).toNat)
  case atStart => exact ⟨0, none, 0, 0, Nat.zero_le _, rfl, rfl, Nat.le_refl _, hide rfl, hide (BRow.none _)⟩
  case round =>
    obtain ⟨j, va, vc, q, hj, rfl, rfl, hq8, hq, hbr⟩ := hrel
    by_cases hlt : j < ins.length
    · have hj1 : (j : Int) < (ins.length : Int) := by omega
      obtain ⟨b, off, ha, _, _, q0⟩ := (HI.out.below hbr.out.below).ints (i := j) hlt
      have HA := hide ha
      rw [HA.out]
      have HWS : Hid (wideTo ins (j + 1) = wideTo ins j + wid (outAt ins j)) := hide rfl
      have HGS : Hid (givenTo ins gv (j + 1) = givenTo ins gv j ++ bitsTo (outAt gv j) (wid (outAt ins j))) := hide rfl
      have hw8 := wid_le (outAt ins j)
      generalize outAt ins j = kd at *
      clear ha
      by_cases hlg : j < gv.length
      · have hj2 : (j : Int) < (gv.length : Int) := by omega
        obtain ⟨b2, off2, hga, _, _, q2⟩ := (HG.out.below hbr.out.below).ints (i := j) hlg
        have HGA := hide hga
        rw [HGA.out]
        generalize outAt gv j = nv at *
        clear hga
        have HVB := hide (rbits_at kd nv wr)
        have HBL := hide (bitsTo_len nv (wid kd))
        generalize bitsTo nv (wid kd) = bl at *
        generalize wid kd = wd at *
        go_wp2_with fail
        refine HVB.out.mono ?_
        rintro e w1 ⟨va1, vc1, rfl, hb1⟩
        obtain ⟨va2, vc2, w2, happ, hbr2⟩ := hbr.out.app hb1.below bl va1 vc1 wd (q + wd) hb1.lies.any HBL.out rfl (by omega)
        have HBR2 := hide hbr2
        clear hbr2 hbr hb1 HVB q0 q2
        go_wp2_with (at_builtin; (refine wpl_append_run happ rfl _ _ rfl rfl rfl ?_))
        exact ⟨⟨j + 1, va2, vc2, q + wd, by omega, by go_num, rfl, by omega, hide (by rw [HWS.out, hq.out]), hide (by rw [HGS.out]; exact HBR2.out)⟩, by simp [intOf]; omega⟩
      · have HZ : Hid (outAt gv j = 0) := hide (outAt_none hlg)
        rw [HZ.out] at HGS
        have HVB := hide (rbits_at kd 0 wr)
        have HBL := hide (bitsTo_len 0 (wid kd))
        generalize bitsTo 0 (wid kd) = bl at *
        generalize wid kd = wd at *
        go_wp2_with fail
        refine HVB.out.mono ?_
        rintro e w1 ⟨va1, vc1, rfl, hb1⟩
        obtain ⟨va2, vc2, w2, happ, hbr2⟩ := hbr.out.app hb1.below bl va1 vc1 wd (q + wd) hb1.lies.any HBL.out rfl (by omega)
        have HBR2 := hide hbr2
        clear hbr2 hbr hb1 HVB q0
        go_wp2_with (at_builtin; (refine wpl_append_run happ rfl _ _ rfl rfl rfl ?_))
        exact ⟨⟨j + 1, va2, vc2, q + wd, by omega, by go_num, rfl, by omega, hide (by rw [HWS.out, hq.out]), hide (by rw [HGS.out]; exact HBR2.out)⟩, by simp [intOf]; omega⟩
    · have hjn : j = ins.length := by omega
      subst hjn
      have hq2 := hq.out
      subst hq2
      clear hq8 hq
      have HB1 := hide hbr.out.below
      have HGR := hide hbr.out.lies
      clear hbr
      generalize hgq : givenTo ins gv ins.length = g at *
      have HGQ := hide hgq
      clear hgq
      generalize wideTo ins ins.length = wn at *
      have HSW : Hid (∀ W : World, W.heap[R]? = some (.cells #[.int .i64 gn, .slice ra rs.length rc, .slice la ls.length lc, .slice oa os.length oc, .slice ha rs.length hc, .slice ia ins.length ic, .slice ua outs.length uc] 49 (0, 0)) → W.cell? ⟨R, 0, none⟩ = some (.int .i64 gn) ∧ W.cell? ⟨R, 1, none⟩ = some (.slice ra rs.length rc) ∧ W.cell? ⟨R, 2, none⟩ = some (.slice la ls.length lc) ∧ W.cell? ⟨R, 3, none⟩ = some (.slice oa os.length oc)) := hide fun W hW => ⟨by rw [blk_cell hW]; rfl, by rw [blk_cell hW]; rfl, by rw [blk_cell hW]; rfl, by rw [blk_cell hW]; rfl⟩
      have HM1 : Hid (wr.drew.heap[R]? = some (.cells #[.int .i64 gn, .slice ra rs.length rc, .slice la ls.length lc, .slice oa os.length oc, .slice ha rs.length hc, .slice ia ins.length ic, .slice ua outs.length uc] 49 (0, 0))) := hide (Below.blk HB1.out HM.out)
      have HBD : Hid (Below w.heap.size w wr.drew) := hide (Below.step HB1.out (Below.refl _ _).drew)
      have HGD : Hid (Lies (FromB w.heap.size) wr.drew va (bitsC g)) := hide (HGR.out.below (Below.refl _ _).drew)
      have hRl : R < wr.heap.size := blk_lt (Below.blk HB1.out HM.out)
      go_wp2_with fail
      refine wp_region_held_drew (S := fun W => W.cell? ⟨R, 0, none⟩ = some (.int .i64 gn) ∧ W.cell? ⟨R, 1, none⟩ = some (.slice ra rs.length rc) ∧ W.cell? ⟨R, 2, none⟩ = some (.slice la ls.length lc) ∧ W.cell? ⟨R, 3, none⟩ = some (.slice oa os.length oc)) (by kernel_rfl) (HSW.out _ HM1.out) (fun _ => ?_)
      generalize wr.drew = y1 at *
      have q4 : y1.cell? ⟨R, 4, none⟩ = some (.slice ha rs.length hc) := by rw [blk_cell HM1.out]; rfl
      refine wpAnyH_take (i := 0) (oi := ⟨some 37, _, _, _, _, _⟩) (v := (.pointer (some ⟨R, 0, none⟩))) rfl (by kernel_rfl) (by kernel_rfl) (by kernel_rfl) (fun _ _ _ h => h) (Or.inl ⟨by rfl, fun W hS => by (obtain ⟨s0, s1, s2, s3⟩ := hS; go_simp)⟩) (HSW.out _ HM1.out) ?_
      simp only [Act.put, List.setIfInBounds_toArray, List.set_cons_zero, List.set_cons_succ]
      refine wpAnyH_take (i := 1) (oi := ⟨some 38, _, _, _, _, _⟩) (v := (.pointer (some ⟨R, 0, none⟩))) rfl (by kernel_rfl) (by kernel_rfl) (by kernel_rfl) (fun _ _ _ h => h) (Or.inl ⟨by rfl, fun W hS => by (obtain ⟨s0, s1, s2, s3⟩ := hS; go_simp)⟩) (HSW.out _ HM1.out) ?_
      simp only [Act.put, List.setIfInBounds_toArray, List.set_cons_zero, List.set_cons_succ]
      refine wpAnyH_take (i := 5) (oi := ⟨some 42, _, _, _, _, _⟩) (v := (.pointer (some ⟨R, 0, none⟩))) rfl (by kernel_rfl) (by kernel_rfl) (by kernel_rfl) (fun _ _ _ h => h) (Or.inl ⟨by rfl, fun W hS => by (obtain ⟨s0, s1, s2, s3⟩ := hS; go_simp)⟩) (HSW.out _ HM1.out) ?_
      simp only [Act.put, List.setIfInBounds_toArray, List.set_cons_zero, List.set_cons_succ]
      refine wpAnyH_take (i := 9) (oi := ⟨some 46, _, _, _, _, _⟩) (v := (.slice va wn vc)) rfl (by kernel_rfl) (by kernel_rfl) (by kernel_rfl) (fun _ _ _ h => h) (Or.inl ⟨by rfl, fun W hS => by (obtain ⟨s0, s1, s2, s3⟩ := hS; go_simp)⟩) (HSW.out _ HM1.out) ?_
      simp only [Act.put, List.setIfInBounds_toArray, List.set_cons_zero, List.set_cons_succ]
      refine wpAnyH_take (i := 2) (oi := ⟨some 39, _, _, _, _, _⟩) (v := (.pointer (some ⟨R, 0, none⟩))) rfl (by kernel_rfl) (by kernel_rfl) (by kernel_rfl) (fun _ _ _ h => h) (Or.inl ⟨by rfl, fun W hS => by (obtain ⟨s0, s1, s2, s3⟩ := hS; go_simp)⟩) (HSW.out _ HM1.out) ?_
      simp only [Act.put, List.setIfInBounds_toArray, List.set_cons_zero, List.set_cons_succ]
      refine wpAnyH_take (i := 6) (oi := ⟨some 43, _, _, _, _, _⟩) (v := (.pointer (some ⟨R, 0, none⟩))) rfl (by kernel_rfl) (by kernel_rfl) (by kernel_rfl) (fun _ _ _ h => h) (Or.inl ⟨by rfl, fun W hS => by (obtain ⟨s0, s1, s2, s3⟩ := hS; go_simp)⟩) (HSW.out _ HM1.out) ?_
      simp only [Act.put, List.setIfInBounds_toArray, List.set_cons_zero, List.set_cons_succ]
      refine wpAnyH_take (i := 3) (oi := ⟨some 40, _, _, _, _, _⟩) (v := (.pointer (some ⟨R, 0, none⟩))) rfl (by kernel_rfl) (by kernel_rfl) (by kernel_rfl) (fun _ _ _ h => h) (Or.inl ⟨by rfl, fun W hS => by (obtain ⟨s0, s1, s2, s3⟩ := hS; go_simp)⟩) (HSW.out _ HM1.out) ?_
      simp only [Act.put, List.setIfInBounds_toArray, List.set_cons_zero, List.set_cons_succ]
      refine wpAnyH_take (i := 7) (oi := ⟨some 44, _, _, _, _, _⟩) (v := (.pointer (some ⟨R, 4, none⟩))) rfl (by kernel_rfl) (by kernel_rfl) (by kernel_rfl) (fun _ _ _ h => h) (Or.inl ⟨by rfl, fun W hS => by (obtain ⟨s0, s1, s2, s3⟩ := hS; go_simp)⟩) (HSW.out _ HM1.out) ?_
      simp only [Act.put, List.setIfInBounds_toArray, List.set_cons_zero, List.set_cons_succ]
      refine wpAnyH_take (i := 4) (oi := ⟨some 41, _, _, _, _, _⟩) (v := (.agg #[.int .i64 gn, .slice ra rs.length rc, .slice la ls.length lc, .slice oa os.length oc])) rfl (by kernel_rfl) (by kernel_rfl) (by kernel_rfl) (fun _ _ _ h => h) (Or.inl ⟨by rfl, fun W hS => by (obtain ⟨s0, s1, s2, s3⟩ := hS; go_simp)⟩) (HSW.out _ HM1.out) ?_
      simp only [Act.put, List.setIfInBounds_toArray, List.set_cons_zero, List.set_cons_succ]
      refine wpAnyH_ready (rs := [8]) (by kernel_rfl) (by simp) ?_
      refine AllReadyH.cons rfl (fun K hK => ?_) AllReadyH.nil
      go_simp
      refine hK.out _ _ (HSW.out _ HM1.out) (fun _ => ?_)
      clear hK K
      refine wpAnyH_ready (rs := [10]) (by kernel_rfl) (by simp) ?_
      refine AllReadyH.cons rfl (fun K hK => ?_) AllReadyH.nil
      go_simp
      have HST := hide (rstep_at gn rs ls os rc lc oc ra la oa A C held g ha va hc vc y1 (H2.out.below HBD.out) (H3.out.below HBD.out) (H4.out.below HBD.out) (H5.out.below HBD.out) HGD.out HR.out HLEN.out (by rw [HGL.out]; omega))
      rw [HGL.out] at HST
      refine HST.out.mono ?_
      rintro e w2 ⟨⟨oa2, oc2, na, nc, rfl, hob, hnb, hcap⟩, hb2⟩
      have HB2 := hide hb2
      have HOB := hide hob
      have HNB := hide hnb
      have HM2 := hide (Below.blk hb2 HM1.out)
      have HBW2 := hide (Below.step HBD.out hb2)
      clear hob hnb hb2 HST q4
      have z4 : w2.frozen? ⟨R, 4, none⟩ = false := blk_frozen HM2.out 4
      have q42 : w2.cell? ⟨R, 4, none⟩ = some (.slice ha rs.length hc) := by rw [blk_cell HM2.out]; rfl
      refine hK.out _ _ (HSW.out _ HM2.out) (fun _ => ?_)
      clear hK K
      refine wpAnyH_take (i := 11) (oi := ⟨some 36, _, _, _, _, _⟩) (v := (.tuple #[.slice oa2 os.length oc2, .slice na rs.length nc])) rfl (by kernel_rfl) (by kernel_rfl) (by kernel_rfl) (fun _ _ _ h => h) (Or.inl ⟨by rfl, fun W hS => by (obtain ⟨s0, s1, s2, s3⟩ := hS; go_simp)⟩) (HSW.out _ HM2.out) ?_
      simp only [Act.put, List.setIfInBounds_toArray, List.set_cons_zero, List.set_cons_succ]
      refine wpAnyH_take (i := 12) (oi := ⟨some 48, _, _, _, _, _⟩) (v := (.slice oa2 os.length oc2)) rfl (by kernel_rfl) (by kernel_rfl) (by kernel_rfl) (fun _ _ _ h => h) (Or.inl ⟨by rfl, fun W hS => by (obtain ⟨s0, s1, s2, s3⟩ := hS; go_simp)⟩) (HSW.out _ HM2.out) ?_
      simp only [Act.put, List.setIfInBounds_toArray, List.set_cons_zero, List.set_cons_succ]
      refine wpAnyH_take (i := 13) (oi := ⟨some 49, _, _, _, _, _⟩) (v := (.slice na rs.length nc)) rfl (by kernel_rfl) (by kernel_rfl) (by kernel_rfl) (fun _ _ _ h => h) (Or.inl ⟨by rfl, fun W hS => by (obtain ⟨s0, s1, s2, s3⟩ := hS; go_simp)⟩) (HSW.out _ HM2.out) ?_
      simp only [Act.put, List.setIfInBounds_toArray, List.set_cons_zero, List.set_cons_succ]
      refine wpAnyH_ready (rs := [14]) (by kernel_rfl) (by simp) ?_
      refine AllReadyH.cons rfl (fun K hK => ?_) AllReadyH.nil
      go_simp
      refine hK.out _ _ (HSW.out _ HM2.out) (fun _ => ?_)
      clear hK K
      refine wpAnyH_take (i := 15) (oi := ⟨some 50, _, _, _, _, _⟩) (v := (.pointer (some ⟨R, 0, none⟩))) rfl (by kernel_rfl) (by kernel_rfl) (by kernel_rfl) (fun _ _ _ h => h) (Or.inl ⟨by rfl, fun W hS => by (obtain ⟨s0, s1, s2, s3⟩ := hS; go_simp)⟩) (HSW.out _ HM2.out) ?_
      simp only [Act.put, List.setIfInBounds_toArray, List.set_cons_zero, List.set_cons_succ]
      refine wpAnyH_take (i := 16) (oi := ⟨some 51, _, _, _, _, _⟩) (v := (.pointer (some ⟨R, 4, none⟩))) rfl (by kernel_rfl) (by kernel_rfl) (by kernel_rfl) (fun _ _ _ h => h) (Or.inl ⟨by rfl, fun W hS => by (obtain ⟨s0, s1, s2, s3⟩ := hS; go_simp)⟩) (HSW.out _ HM2.out) ?_
      simp only [Act.put, List.setIfInBounds_toArray, List.set_cons_zero, List.set_cons_succ]
      refine wpAnyH_ready (rs := [17]) (by kernel_rfl) (by simp) ?_
      refine AllReadyH.cons rfl (fun K hK => ?_) AllReadyH.nil
      go_simp
      have HS3 : Hid (Below w2.heap.size w2 w2) := hide (Below.refl _ _)
      have HRF : Hid (RefAt R S (w2.setCell ⟨R, 4, none⟩ (.slice na rs.length nc)) gn rs ls os (nextL (lookL gn g held ls) rs) ins outs) := hide ((H.out.below HBW2.out).turned (HNB.out.imp fun b _ hb => HSS.out b (Nat.le_trans HBD.out.size hb)) (nextL_len _ _))
      have HKP : Hid (Kept R w (w2.setCell ⟨R, 4, none⟩ (.slice na rs.length nc))) := hide ((Kept.of HBW2.out).step 4 _)
      have HOB3 : Hid (Lies (fun b => w.heap.size ≤ b ∧ b < w2.heap.size) (w2.setCell ⟨R, 4, none⟩ (.slice na rs.length nc)) oa2 (bitsC (outsL (lookL gn g held ls) os))) := hide ((HOB.out.imp fun b hl hb => (⟨Nat.le_trans HBD.out.size hb, hl⟩ : w.heap.size ≤ b ∧ b < w2.heap.size)).same fun b hb hl => Below.heap_setCell _ ⟨R, 4, none⟩ _ b (by show b ≠ R; have := H.out.lt; omega))
      refine hK.out _ _ (by
        obtain ⟨ra', la', oa', ha', ia', ua', rc', lc', oc', hc', ic', uc', A', C', hx, _⟩ := HRF.out.me
        have hy := (blk_set HM2.out 4 (.slice na rs.length nc)).symm.trans hx
        refine ⟨?_, ?_, ?_, ?_⟩
        · rw [blk_cell (blk_set HM2.out 4 _)]; rfl
        · rw [blk_cell (blk_set HM2.out 4 _)]; rfl
        · rw [blk_cell (blk_set HM2.out 4 _)]; rfl
        · rw [blk_cell (blk_set HM2.out 4 _)]; rfl) (fun _ => ?_)
      clear hK K
      refine wpAnyH_done (by kernel_rfl) ?_ _
      have c6 : (w2.setCell ⟨R, 4, none⟩ (.slice na rs.length nc)).cell? ⟨R, 6, none⟩ = some (.slice ua outs.length uc) := by rw [blk_cell (blk_set HM2.out 4 _)]; rfl
      have HU : Hid (Lies (fun b => b < w2.heap.size ∧ b ≠ R) (w2.setCell ⟨R, 4, none⟩ (.slice na rs.length nc)) ua (intsC outs)) := hide (((H7.out.below HBW2.out).imp fun b hl hb => (⟨hl, fun e => H.out.own (e ▸ hb)⟩ : b < w2.heap.size ∧ b ≠ R)).same fun b hb hl => Below.heap_setCell _ ⟨R, 4, none⟩ _ b hb.2)
      have HSZ : Hid ((w2.setCell ⟨R, 4, none⟩ (.slice na rs.length nc)).heap.size = w2.heap.size) := hide (by simp [World.setCell])
      have HOL := hide (outsL_len (lookL gn g held ls) os)
      have hob2 : os.length ≤ 80000 := by have h1 := HOW.out; have := wideTo_le outs outs.length; omega
      generalize w2.setCell ⟨R, 4, none⟩ (.slice na rs.length nc) = w3 at *
      generalize hbq : outsL (lookL gn g held ls) os = bs at *
      have HBQ := hide hbq
      clear hbq
      clear q42 z4
      go_wp2_with fail
      clear c6
      have HOL2 : Hid (bs.length = os.length) := HOL
      clear HSW HM HM1 HM2 HLEN H2 H3 H4 H5 H7 HGL
      go_loopw [5, 9, 57] (fun v u i wr => ∃ (j : Nat) (va' : Option Addr) (m' vc' : Nat) (ua' : Option Addr) (uc' : Nat), j ≤ outs.length ∧ i = .int .i64 j ∧ v = .slice va' m' vc' ∧ u = .slice ua' j uc' ∧ m' ≤ vc' ∧ m' ≤ 80000 ∧ Hid (m' + wideTo outs j = os.length) ∧ Hid (Lies (fun b => b < w3.heap.size) wr va' (bitsC (bs.drop (wideTo outs j)))) ∧ Hid (RowI w3 wr ua' uc' j ((List.range j).map (numAt outs bs)))) (fun _ _ i _ => outs.length - (intOf i).toNat)
      case atStart => exact ⟨0, oa2, os.length, oc2, none, 0, Nat.zero_le _, rfl, rfl, rfl, hcap, hob2, hide rfl, hide (HOB3.out.imp fun b hl _ => hl), hide (RowI.none _)⟩
      case round =>
        obtain ⟨j, va', m', vc', ua', uc', hj2, rfl, rfl, rfl, hmc', hmb', hmj, hlv, hro⟩ := hrel
        by_cases hlt2 : j < outs.length
        · have hj1 : (j : Int) < (outs.length : Int) := by omega
          obtain ⟨b, off, hua, _, _, q0⟩ := (HU.out.below hro.out.row.below).ints (i := j) hlt2
          have HA := hide hua
          rw [HA.out]
          have HWS : Hid (wideTo outs (j + 1) = wideTo outs j + wid (outAt outs j)) := hide rfl
          have HNA : Hid (numAt outs bs j = (ofTo (bs.drop (wideTo outs j)) (wid (outAt outs j)) : Nat)) := hide rfl
          have hwm : wid (outAt outs j) ≤ m' := by
            have h1 := wideTo_mono outs (show j + 1 ≤ outs.length by omega)
            have h2 := hmj.out
            have h3 := HOW.out
            rw [HWS.out] at h1
            omega
          have HDL : Hid ((bs.drop (wideTo outs j)).length = m') := hide (by rw [List.length_drop, HOL2.out]; have := hmj.out; omega)
          have hwl := wid_le (outAt outs j)
          have HC := hide (rwidth_any (outAt outs j))
          have HST : Hid ((List.range (j + 1)).map (numAt outs bs) = (List.range j).map (numAt outs bs) ++ [numAt outs bs j]) := hide (by rw [List.range_succ, List.map_append]; rfl)
          have HDD : Hid (bs.drop (wideTo outs (j + 1)) = (bs.drop (wideTo outs j)).drop (wid (outAt outs j))) := hide (by rw [HWS.out, List.drop_drop])
          generalize outAt outs j = kd at *
          generalize wid kd = wd at *
          obtain ⟨va2, hs2, hl2⟩ := slice_tail hlv.out HDL.out hmc' wd hwm
          have hs1 := slice_head va' m' vc' wd (by omega)
          have HOF := hide (rof_at (bs.drop (wideTo outs j)) va' wd vc' wr hlv.out (by rw [HDL.out]; exact hwm) (by omega))
          have HL2 := hide hl2
          have HNB2 : Hid (∀ W, Below w.heap.size w W → True) := hide fun _ _ => trivial
          generalize numAt outs bs j = nv at *
          rw [← HNA.out] at HOF
          obtain ⟨ua2, uc2, w4, happ, hro2⟩ := hro.out.app (below_alloc wr (.cells #[.int .i64 nv] 3)) [nv] (some ⟨wr.heap.size, 0, none⟩) 1 1 (j + 1) (Lies.blk (cs := intsC [nv]) (blk_new wr (.cells #[.int .i64 nv] 3)) trivial) rfl rfl (by omega)
          rw [← HST.out] at hro2
          have HRO2 := hide hro2
          have HL4 : Hid (Lies (fun b => b < w3.heap.size) w4 va2 (bitsC ((bs.drop (wideTo outs j)).drop wd))) := hide (HL2.out.same fun b hb hl => (hro2.row.below.block b hb).trans (hro.out.row.below.block b hb).symm)
          clear hua hl2 hlv hro2 hro
          go_wp2_with fail
          refine (HC.out _).mono ?_
          rintro e wx ⟨rfl, rfl⟩
          go_wp2_with fail
          refine HOF.out.mono ?_
          rintro e wx ⟨rfl, rfl⟩
          clear q0 HOF
          go_wp2_with (at_builtin; (refine wpl_append_run happ rfl _ _ rfl rfl rfl ?_))
          refine (HC.out _).mono ?_
          rintro e wx ⟨rfl, rfl⟩
          go_wp2_with fail
          exact ⟨⟨j + 1, va2, m' - wd, vc' - wd, ua2, uc2, by omega, by go_num, rfl, rfl, by omega, by omega, hide (by have := hmj.out; have := HWS.out; omega), hide (by rw [HDD.out]; exact HL4.out), HRO2⟩, by simp [intOf]; omega⟩
        · have hjo : j = outs.length := by omega
          subst hjo
          have HE : Hid ((List.range outs.length).map (numAt outs bs) = nums outs bs) := hide rfl
          go_wp2_with fail
          go_ret
          have hr := hro.out
          rw [HE.out] at hr
          rw [HGQ.out, HBQ.out]
          exact ⟨⟨ua', uc', rfl, hr.row.lies.imp fun b _ hb => by have : w3.heap.size ≤ b := hb; have := HKP.out.size; show w.heap.size ≤ b; omega⟩, HRF.out.below hr.row.below, HKP.out.below hr.row.below⟩

set_option maxRecDepth 100000 in
set_option maxHeartbeats 6400000 in
theorem rdsave_at {R : Nat} {S : Nat → Prop} {w : World} {gn : Nat} {rs : List Rg} {ls : List Lt} {os : List Int} {held : List Bool} {ins outs : List Int} (h : RefAt R S w gn rs ls os held ins outs) (hn : rs.length ≤ 20000) :
    Calls Tryz.prog 11 #[.pointer (some ⟨R, 0, none⟩)] w fun e w' => e = .returned (.string ⟨(saveB held).toArray⟩) ∧ Below w.heap.size w w' := by
  obtain ⟨ra, la, oa, ha, ia, ua, rc, lc, oc, hc, ic, uc, A, C, h1, h2, h3, h4, h5, h6, h7⟩ := h.me
  have HL := hide h5
  have HLEN := hide h.len
  have m4 : w.cell? ⟨R, 4, none⟩ = some (.slice ha rs.length hc) := by rw [blk_cell h1]; rfl
  clear h h1 h2 h3 h4 h5 h6 h7
  go_enter Tryz.func11, Tryz.ntmps11
  go_wp2_with fail
  clear m4
  go_loopw [3, 11] (fun v i wr => ∃ (k : Nat) (t : List UInt8), k ≤ rs.length ∧ i = .int .i64 k ∧ v = .string ⟨t.toArray⟩ ∧ t.length = k ∧ Hid (t = saveB (held.take k)) ∧ Hid (Below w.heap.size w wr)) (fun _ i _ => rs.length - (intOf i).toNat)
  case atStart => exact ⟨0, [], Nat.zero_le _, rfl, rfl, rfl, hide rfl, hide (Below.refl _ _)⟩
  case round =>
    obtain ⟨k, t, hk, rfl, rfl, htl, ht, hb⟩ := hrel
    by_cases hlt : k < rs.length
    · have hki : (k : Int) < (rs.length : Int) := by omega
      obtain ⟨b, off, hha, _, _, q0⟩ := (HL.out.below hb.out).bits (i := k) (by rw [HLEN.out]; exact hlt)
      have HA := hide hha
      rw [HA.out]
      have HSN := hide (saveB_snoc held k (by rw [HLEN.out]; exact hlt))
      have hsz := str_size t
      have hadd1 : (⟨t.toArray⟩ : ByteArray) ++ ⟨#[49]⟩ = ⟨(t ++ [49]).toArray⟩ := by apply ByteArray.ext; simp [ByteArray.data_append]
      have hadd0 : (⟨t.toArray⟩ : ByteArray) ++ ⟨#[48]⟩ = ⟨(t ++ [48]).toArray⟩ := by apply ByteArray.ext; simp [ByteArray.data_append]
      generalize bit held k = c at *
      clear hha
      cases c
      · have HT : Hid (t ++ [48] = saveB (held.take (k + 1))) := hide (by rw [HSN.out, ht.out]; rfl)
        clear HSN
        go_wp2_with fail
        refine ⟨⟨k + 1, t ++ [48], by omega, by go_num, rfl, by simp [htl], HT, hb⟩, by simp [intOf]; omega⟩
      · have HT : Hid (t ++ [49] = saveB (held.take (k + 1))) := hide (by rw [HSN.out, ht.out]; rfl)
        clear HSN
        go_wp2_with fail
        refine ⟨⟨k + 1, t ++ [49], by omega, by go_num, rfl, by simp [htl], HT, hb⟩, by simp [intOf]; omega⟩
    · have HTK : Hid (t = saveB held) := hide (by have h := ht.out; rwa [List.take_of_length_le (by rw [HLEN.out]; omega)] at h)
      go_wp2_with fail
      go_ret
      rw [← HTK.out]
      exact ⟨rfl, hb.out⟩
end Go.Proofs.YtndpehjbepfbkaaGreatDoor
