/-
  CONTRACT of a device's Step.
-/
import Derived.Test.YtndpehjbepfbkaaGreatDoorDNu
import Derived.Test.YtndpehjbepfbkaaGreatDoorLStep
set_option linter.unusedSimpArgs false
set_option linter.unusedVariables false
namespace Go.Proofs.YtndpehjbepfbkaaGreatDoor
open Go.RowKit

set_option maxRecDepth 100000 in
set_option maxHeartbeats 6400000 in
theorem dstep_at {D : Nat} {s : NetQ} {S : Nat → Prop} {w : World} {gn : Nat} {rs : List Rg} {ls : List Lt} {os : List Int} {held : List Bool} {ins outs : List Int} (h : DevAt D s S w gn rs ls os held ins outs) (hr : RightT gn rs ls os) (gv : List Int) (ga : Option Addr) (gc : Nat) (hg : Lies AnyB w ga (intsC gv)) (hil : ins.length ≤ 10000) (hol : outs.length ≤ 10000) (hgl : gv.length ≤ 1000000) (how : os.length = wideTo outs outs.length) (hS : ∀ b, w.heap.size ≤ b → S b) :
    Calls Tryz.prog 8 #[.pointer (some ⟨D, 0, none⟩), .slice ga gv.length gc] w fun e w' => (∃ O, e = .returned (.slice (some ⟨O, 0, none⟩) outs.length outs.length) ∧ w.heap.size ≤ O ∧ w'.heap[O]? = some (.cells (intsC (nums outs (outsL (lookL gn (givenTo ins gv ins.length) held ls) os))).toArray 3 (0, 0))) ∧ DevAt D s S w' gn rs ls os (nextL (lookL gn (givenTo ins gv ins.length) held ls) rs) ins outs ∧ Kept s.p w w' := by
  have HBT := hide (dbits_at (h.below (Below.refl _ _).drew) gv ga gc (hg.below (Below.refl _ _).drew) hil hgl)
  have HGL := hide (givenTo_len ins gv ins.length)
  have H := hide h
  have HR := hide hr
  have HS := hide hS
  have HOW := hide how
  have HOL := hide hol
  have HC0 : Hid (∀ {W : World} {held : List Bool}, DevAt D s S W gn rs ls os held ins outs → W.cell? ⟨D, 0, none⟩ = some (.pointer (some ⟨s.p, 0, none⟩))) := hide fun hd => by
    obtain ⟨ia, ic, oa, oc, h1, h2, h3⟩ := hd.me
    rw [blk_cell h1]; rfl
  clear h hr hS how hg hil hgl hol
  generalize givenTo ins gv ins.length = g at *
  generalize hwn : wideTo ins ins.length = wn at *
  clear hwn
  have hpe : ∀ (a : Addr) (w : World), (binOp .eql 28 (.pointer (some a)) (.pointer none)).run Tryz.prog w = .ok (.bool false) w := fun _ _ => rfl
  go_enter Tryz.func8, Tryz.ntmps8
  go_wp2_with fail
  clear hpe
  refine wp_region_held_drew (S := fun W => W.cell? ⟨D, 0, none⟩ = some (.pointer (some ⟨s.p, 0, none⟩))) (by kernel_rfl) (HC0.out (H.out.below (Below.refl _ _).drew)) (fun _ => ?_)
  have HD0 := hide (H.out.below (Below.refl _ _).drew)
  have HC1 := hide (HC0.out HD0.out)
  have HBD : Hid (Below w.heap.size w w.drew) := hide (Below.refl _ _).drew
  refine wpAnyH_take (i := 0) (oi := ⟨some 7, _, _, _, _, _⟩) (v := (.pointer (some ⟨D, 0, none⟩))) rfl (by kernel_rfl) (by kernel_rfl) (by kernel_rfl) (fun _ _ _ h => h) (Or.inl ⟨by rfl, fun W hS => by (have s0 := hS; go_simp)⟩) HC1.out ?_
  simp only [Act.put, List.setIfInBounds_toArray, List.set_cons_zero, List.set_cons_succ]
  refine wpAnyH_take (i := 1) (oi := ⟨some 8, _, _, _, _, _⟩) (v := (.pointer (some ⟨D, 0, none⟩))) rfl (by kernel_rfl) (by kernel_rfl) (by kernel_rfl) (fun _ _ _ h => h) (Or.inl ⟨by rfl, fun W hS => by (have s0 := hS; go_simp)⟩) HC1.out ?_
  simp only [Act.put, List.setIfInBounds_toArray, List.set_cons_zero, List.set_cons_succ]
  refine wpAnyH_take (i := 5) (oi := ⟨some 12, _, _, _, _, _⟩) (v := (.pointer (some ⟨D, 0, none⟩))) rfl (by kernel_rfl) (by kernel_rfl) (by kernel_rfl) (fun _ _ _ h => h) (Or.inl ⟨by rfl, fun W hS => by (have s0 := hS; go_simp)⟩) HC1.out ?_
  simp only [Act.put, List.setIfInBounds_toArray, List.set_cons_zero, List.set_cons_succ]
  refine wpAnyH_take (i := 6) (oi := ⟨some 13, _, _, _, _, _⟩) (v := (.slice ga gv.length gc)) rfl (by kernel_rfl) (by kernel_rfl) (by kernel_rfl) (fun _ _ _ h => h) (Or.inl ⟨by rfl, fun W hS => by (have s0 := hS; go_simp)⟩) HC1.out ?_
  simp only [Act.put, List.setIfInBounds_toArray, List.set_cons_zero, List.set_cons_succ]
  refine wpAnyH_take (i := 2) (oi := ⟨some 9, _, _, _, _, _⟩) (v := (.pointer (some ⟨D, 0, none⟩))) rfl (by kernel_rfl) (by kernel_rfl) (by kernel_rfl) (fun _ _ _ h => h) (Or.inl ⟨by rfl, fun W hS => by (have s0 := hS; go_simp)⟩) HC1.out ?_
  simp only [Act.put, List.setIfInBounds_toArray, List.set_cons_zero, List.set_cons_succ]
  refine wpAnyH_take (i := 3) (oi := ⟨some 10, _, _, _, _, _⟩) (v := (.pointer (some ⟨D, 0, none⟩))) rfl (by kernel_rfl) (by kernel_rfl) (by kernel_rfl) (fun _ _ _ h => h) (Or.inl ⟨by rfl, fun W hS => by (have s0 := hS; go_simp)⟩) HC1.out ?_
  simp only [Act.put, List.setIfInBounds_toArray, List.set_cons_zero, List.set_cons_succ]
  refine wpAnyH_take (i := 4) (oi := ⟨some 11, _, _, _, _, _⟩) (v := (.pointer (some ⟨s.p, 0, none⟩))) rfl (by kernel_rfl) (by kernel_rfl) (by kernel_rfl) (fun _ _ _ h => h) (Or.inl ⟨by rfl, fun W hS => by (have s0 := hS; go_simp)⟩) HC1.out ?_
  simp only [Act.put, List.setIfInBounds_toArray, List.set_cons_zero, List.set_cons_succ]
  refine wpAnyH_ready (rs := [7]) (by kernel_rfl) (by simp) ?_
  refine AllReadyH.cons rfl (fun K hK => ?_) AllReadyH.nil
  go_simp
  refine HBT.out.mono ?_
  rintro e w1 ⟨va, vc, rfl, hbr⟩
  have HBR := hide hbr
  have HB1 : Hid (Below w.heap.size w w1) := hide (Below.step HBD.out hbr.below)
  have HD1 := hide (H.out.below HB1.out)
  clear hbr HBT HC1 HD0
  refine hK.out _ _ (HC0.out HD1.out) (fun _ => ?_)
  clear hK K
  refine wpAnyH_ready (rs := [8]) (by kernel_rfl) (by simp) ?_
  refine AllReadyH.cons rfl (fun K hK => ?_) AllReadyH.nil
  go_simp
  have HST := hide (lstep_at HD1.out.sim HR.out va vc HBR.out.lies.any (fun b hb => HS.out b (Nat.le_trans HB1.out.size hb)))
  rw [HGL.out] at HST
  refine HST.out.mono ?_
  rintro e w2 ⟨⟨O, rfl, hO, hOb⟩, hsim, hk⟩
  have HD2 := hide (HD1.out.turned hk hsim)
  have HK2 := hide ((Kept.of (R := s.p) HB1.out).trans hk)
  have HOB := hide hOb
  clear hOb hsim hk HST HBR
  refine hK.out _ _ (HC0.out HD2.out) (fun _ => ?_)
  clear hK K
  refine wpAnyH_ready (rs := [9]) (by kernel_rfl) (by simp) ?_
  refine AllReadyH.cons rfl (fun K hK => ?_) AllReadyH.nil
  go_simp
  refine (dnums_at HD2.out (outsL (lookL gn g held ls) os) (some ⟨O, 0, none⟩) os.length os.length (outsL_len _ _) HOW.out (Nat.le_refl _) (Lies.blk (S := AnyB) HOB.out trivial) HOL.out).mono ?_
  rintro e w3 ⟨⟨O2, rfl, hO2, hOb2⟩, hb3⟩
  have HD3 := hide (HD2.out.below hb3)
  have HK3 := hide (HK2.out.below hb3)
  have HOB2 := hide hOb2
  have HO2 : Hid (w.heap.size ≤ O2) := hide (Nat.le_trans HK2.out.size hO2)
  clear hOb2 hb3
  refine hK.out _ _ (HC0.out HD3.out) (fun _ => ?_)
  clear hK K
  refine wpAnyH_ready (rs := [10]) (by kernel_rfl) (by simp) ?_
  refine AllReadyH.cons rfl (fun K hK => ?_) AllReadyH.nil
  go_simp
  refine hK.out _ _ (HC0.out HD3.out) (fun _ => ?_)
  clear hK K
  refine wpAnyH_done (by kernel_rfl) ?_ _
  go_wp2_with fail
  go_ret
  exact ⟨⟨O2, rfl, HO2.out, HOB2.out⟩, HD3.out, HK3.out⟩
end Go.Proofs.YtndpehjbepfbkaaGreatDoor
