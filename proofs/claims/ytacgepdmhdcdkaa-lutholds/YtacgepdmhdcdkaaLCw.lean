/-
  CONTRACT of compare. (Written by mkcw.py.)
-/
import Derived.Test.YtacgepdmhdcdkaaLDp
import Derived.Deep.RegionHeld3
set_option linter.unusedSimpArgs false
set_option linter.unusedVariables false
namespace Go.Proofs.Ytacgepdmhdcdkaa
open Go.RowKit

set_option maxRecDepth 100000 in
set_option maxHeartbeats 6400000 in
theorem compare_at {S T U : Nat → Prop} (P : Nat) (a b : Lt) (la lb : Option Addr) (ca cb : Nat) (D : List Int) (da : Option Addr) (dc : Nat) (w : World) (hp : w.cell? ⟨P, 3, none⟩ = some (.slice da D.length dc)) (hl : Lies S w la (intsC a.ins)) (hm : Lies T w lb (intsC b.ins)) (hD : Lies U w da (intsC D)) (ha4 : a.ins.length ≤ 10) (hb4 : b.ins.length ≤ 10) (hia : ∀ i, i < a.ins.length → 0 ≤ outAt a.ins i ∧ outAt a.ins i < D.length) (hib : ∀ i, i < b.ins.length → 0 ≤ outAt b.ins i ∧ outAt b.ins i < D.length) (hb : D.length ≤ 100000) (hM : ∀ i, outAt D i ≤ 100000) :
    Calls Try.prog 41 #[.pointer (some ⟨P, 0, none⟩), .agg #[.slice la a.ins.length ca, .int .i64 a.table], .agg #[.slice lb b.ins.length cb, .int .i64 b.table]] w fun e w' => (∃ r : Int, e = .returned (.int .i64 r)) ∧ Below w.heap.size w w' := by
  have hb1 : Below w.heap.size w ((w.alloc (.cells #[.slice la a.ins.length ca, .int .i64 a.table] 44)).alloc (.cells #[.slice lb b.ins.length cb, .int .i64 b.table] 44)) := Below.step (below_alloc _ _) (below_alloc _ _)
  have hx0 : ((w.alloc (.cells #[.slice la a.ins.length ca, .int .i64 a.table] 44)).alloc (.cells #[.slice lb b.ins.length cb, .int .i64 b.table] 44)).heap[w.heap.size]? = some (.cells #[.slice la a.ins.length ca, .int .i64 a.table] 44 (0, 0)) := Below.blk (below_alloc _ _) (blk_new _ _)
  have hx1 : ((w.alloc (.cells #[.slice la a.ins.length ca, .int .i64 a.table] 44)).alloc (.cells #[.slice lb b.ins.length cb, .int .i64 b.table] 44)).heap[w.heap.size + 1]? = some (.cells #[.slice lb b.ins.length cb, .int .i64 b.table] 44 (0, 0)) := by
    have := blk_new (w.alloc (.cells #[.slice la a.ins.length ca, .int .i64 a.table] 44)) (.cells #[.slice lb b.ins.length cb, .int .i64 b.table] 44)
    rwa [show (w.alloc (.cells #[.slice la a.ins.length ca, .int .i64 a.table] 44)).heap.size = w.heap.size + 1 by simp] at this
  have HB0 := hide hb1
  have HP := hide ((hb1.cell (cell_lt hp)).trans hp)
  have HLA := hide (hl.below hb1)
  have HLB := hide (hm.below hb1)
  have HLD := hide (hD.below hb1)
  have HX0 := hide hx0
  have HX1 := hide hx1
  have HIA := hide hia
  have HIB := hide hib
  have HMM := hide hM
  clear hb1 hp hl hm hD hx0 hx1 hia hib hM
  go_enter Try.func41, Try.ntmps41
  go_wp2_with fail
  generalize (w.alloc (.cells #[.slice la a.ins.length ca, .int .i64 a.table] 44)).alloc (.cells #[.slice lb b.ins.length cb, .int .i64 b.table] 44) = w0 at *
  have HDA : Hid (∀ W, Below w0.heap.size w0 W → Calls Try.prog 46 #[.pointer (some ⟨P, 0, none⟩), .agg #[.slice la a.ins.length ca, .int .i64 a.table]] W fun e w' => e = .returned (.int .i64 (deepI D a)) ∧ Below W.heap.size W w') := hide fun W hW => depth_at P a la ca D da dc W ((hW.cell (cell_lt HP.out)).trans HP.out) (HLA.out.below hW) (HLD.out.below hW) ha4 HIA.out hb HMM.out
  have HDB : Hid (∀ W, Below w0.heap.size w0 W → Calls Try.prog 46 #[.pointer (some ⟨P, 0, none⟩), .agg #[.slice lb b.ins.length cb, .int .i64 b.table]] W fun e w' => e = .returned (.int .i64 (deepI D b)) ∧ Below W.heap.size W w') := hide fun W hW => depth_at P b lb cb D da dc W ((hW.cell (cell_lt HP.out)).trans HP.out) (HLB.out.below hW) (HLD.out.below hW) hb4 HIB.out hb HMM.out
  have HSC : Hid (∀ W, Below w0.heap.size w0 W → Calls Try.prog 58 #[.slice la a.ins.length ca, .slice lb b.ins.length cb] W fun e w' => (∃ r : Int, e = .returned (.int .i64 r)) ∧ w' = W) := hide fun W hW => scmp_at a.ins b.ins la lb ca cb W (HLA.out.below hW) (HLB.out.below hW) (by omega) (by omega)
  generalize deepI D a = za at *
  generalize deepI D b = zb at *
  have HSW : Hid (∀ W, Below w0.heap.size w0 W → W.cell? ⟨w.heap.size, 0, none⟩ = some (.slice la a.ins.length ca) ∧ W.cell? ⟨w.heap.size, 1, none⟩ = some (.int .i64 a.table) ∧ W.cell? ⟨w.heap.size + 1, 0, none⟩ = some (.slice lb b.ins.length cb) ∧ W.cell? ⟨w.heap.size + 1, 1, none⟩ = some (.int .i64 b.table)) := hide fun W hW => ⟨by rw [blk_cell (Below.blk hW HX0.out)]; rfl, by rw [blk_cell (Below.blk hW HX0.out)]; rfl, by rw [blk_cell (Below.blk hW HX1.out)]; rfl, by rw [blk_cell (Below.blk hW HX1.out)]; rfl⟩
  have HB1 : Hid (Below w0.heap.size w0 w0.drew) := hide (Below.refl _ _).drew
  clear HX0 HX1 HP HLA HLB HLD HIA HIB HMM
  refine wp_region_held_drew (S := fun W => W.cell? ⟨w.heap.size, 0, none⟩ = some (.slice la a.ins.length ca) ∧ W.cell? ⟨w.heap.size, 1, none⟩ = some (.int .i64 a.table) ∧ W.cell? ⟨w.heap.size + 1, 0, none⟩ = some (.slice lb b.ins.length cb) ∧ W.cell? ⟨w.heap.size + 1, 1, none⟩ = some (.int .i64 b.table)) (by kernel_rfl) (HSW.out _ HB1.out) (fun _ => ?_)
  generalize w0.drew = w1 at *
  refine wpAnyH_take (i := 0) (oi := ⟨some 8, _, _, _, _, _⟩) (v := (.pointer (some ⟨P, 0, none⟩))) rfl (by kernel_rfl) (by kernel_rfl) (by kernel_rfl) (fun _ _ _ h => h) (Or.inl ⟨by rfl, fun W hS => by (obtain ⟨s0, s1, s2, s3⟩ := hS; go_simp)⟩) (HSW.out _ HB1.out) ?_
  simp only [Act.put, List.setIfInBounds_toArray, List.set_cons_zero, List.set_cons_succ]
  refine wpAnyH_take (i := 1) (oi := ⟨some 9, _, _, _, _, _⟩) (v := (.agg #[.slice la a.ins.length ca, .int .i64 a.table])) rfl (by kernel_rfl) (by kernel_rfl) (by kernel_rfl) (fun _ _ _ h => h) (Or.inl ⟨by rfl, fun W hS => by (obtain ⟨s0, s1, s2, s3⟩ := hS; go_simp)⟩) (HSW.out _ HB1.out) ?_
  simp only [Act.put, List.setIfInBounds_toArray, List.set_cons_zero, List.set_cons_succ]
  refine wpAnyH_take (i := 3) (oi := ⟨some 11, _, _, _, _, _⟩) (v := (.pointer (some ⟨P, 0, none⟩))) rfl (by kernel_rfl) (by kernel_rfl) (by kernel_rfl) (fun _ _ _ h => h) (Or.inl ⟨by rfl, fun W hS => by (obtain ⟨s0, s1, s2, s3⟩ := hS; go_simp)⟩) (HSW.out _ HB1.out) ?_
  simp only [Act.put, List.setIfInBounds_toArray, List.set_cons_zero, List.set_cons_succ]
  refine wpAnyH_take (i := 4) (oi := ⟨some 12, _, _, _, _, _⟩) (v := (.agg #[.slice lb b.ins.length cb, .int .i64 b.table])) rfl (by kernel_rfl) (by kernel_rfl) (by kernel_rfl) (fun _ _ _ h => h) (Or.inl ⟨by rfl, fun W hS => by (obtain ⟨s0, s1, s2, s3⟩ := hS; go_simp)⟩) (HSW.out _ HB1.out) ?_
  simp only [Act.put, List.setIfInBounds_toArray, List.set_cons_zero, List.set_cons_succ]
  refine wpAnyH_take (i := 7) (oi := ⟨some 15, _, _, _, _, _⟩) (v := (.func (.func 55) #[] #[])) rfl (by kernel_rfl) (by kernel_rfl) (by kernel_rfl) (fun _ _ _ h => h) (Or.inl ⟨by rfl, fun W hS => by (obtain ⟨s0, s1, s2, s3⟩ := hS; go_simp)⟩) (HSW.out _ HB1.out) ?_
  simp only [Act.put, List.setIfInBounds_toArray, List.set_cons_zero, List.set_cons_succ]
  refine wpAnyH_take (i := 8) (oi := ⟨some 16, _, _, _, _, _⟩) (v := (.agg #[.slice la a.ins.length ca, .int .i64 a.table])) rfl (by kernel_rfl) (by kernel_rfl) (by kernel_rfl) (fun _ _ _ h => h) (Or.inl ⟨by rfl, fun W hS => by (obtain ⟨s0, s1, s2, s3⟩ := hS; go_simp)⟩) (HSW.out _ HB1.out) ?_
  simp only [Act.put, List.setIfInBounds_toArray, List.set_cons_zero, List.set_cons_succ]
  refine wpAnyH_take (i := 10) (oi := ⟨some 18, _, _, _, _, _⟩) (v := (.func (.func 55) #[] #[])) rfl (by kernel_rfl) (by kernel_rfl) (by kernel_rfl) (fun _ _ _ h => h) (Or.inl ⟨by rfl, fun W hS => by (obtain ⟨s0, s1, s2, s3⟩ := hS; go_simp)⟩) (HSW.out _ HB1.out) ?_
  simp only [Act.put, List.setIfInBounds_toArray, List.set_cons_zero, List.set_cons_succ]
  refine wpAnyH_take (i := 11) (oi := ⟨some 19, _, _, _, _, _⟩) (v := (.agg #[.slice lb b.ins.length cb, .int .i64 b.table])) rfl (by kernel_rfl) (by kernel_rfl) (by kernel_rfl) (fun _ _ _ h => h) (Or.inl ⟨by rfl, fun W hS => by (obtain ⟨s0, s1, s2, s3⟩ := hS; go_simp)⟩) (HSW.out _ HB1.out) ?_
  simp only [Act.put, List.setIfInBounds_toArray, List.set_cons_zero, List.set_cons_succ]
  refine wpAnyH_take (i := 14) (oi := ⟨some 22, _, _, _, _, _⟩) (v := (.pointer (some ⟨w.heap.size, 0, none⟩))) rfl (by kernel_rfl) (by kernel_rfl) (by kernel_rfl) (fun _ _ _ h => h) (Or.inl ⟨by rfl, fun W hS => by (obtain ⟨s0, s1, s2, s3⟩ := hS; go_simp)⟩) (HSW.out _ HB1.out) ?_
  simp only [Act.put, List.setIfInBounds_toArray, List.set_cons_zero, List.set_cons_succ]
  refine wpAnyH_take (i := 16) (oi := ⟨some 24, _, _, _, _, _⟩) (v := (.pointer (some ⟨w.heap.size + 1, 0, none⟩))) rfl (by kernel_rfl) (by kernel_rfl) (by kernel_rfl) (fun _ _ _ h => h) (Or.inl ⟨by rfl, fun W hS => by (obtain ⟨s0, s1, s2, s3⟩ := hS; go_simp)⟩) (HSW.out _ HB1.out) ?_
  simp only [Act.put, List.setIfInBounds_toArray, List.set_cons_zero, List.set_cons_succ]
  refine wpAnyH_take (i := 15) (oi := ⟨some 23, _, _, _, _, _⟩) (v := (.slice la a.ins.length ca)) rfl (by kernel_rfl) (by kernel_rfl) (by kernel_rfl) (fun _ _ _ h => h) (Or.inl ⟨by rfl, fun W hS => by (obtain ⟨s0, s1, s2, s3⟩ := hS; go_simp)⟩) (HSW.out _ HB1.out) ?_
  simp only [Act.put, List.setIfInBounds_toArray, List.set_cons_zero, List.set_cons_succ]
  refine wpAnyH_take (i := 17) (oi := ⟨some 25, _, _, _, _, _⟩) (v := (.slice lb b.ins.length cb)) rfl (by kernel_rfl) (by kernel_rfl) (by kernel_rfl) (fun _ _ _ h => h) (Or.inl ⟨by rfl, fun W hS => by (obtain ⟨s0, s1, s2, s3⟩ := hS; go_simp)⟩) (HSW.out _ HB1.out) ?_
  simp only [Act.put, List.setIfInBounds_toArray, List.set_cons_zero, List.set_cons_succ]
  refine wpAnyH_ready (rs := [2]) (by kernel_rfl) (by simp) ?_
  refine AllReadyH.cons rfl (fun K hK => ?_) AllReadyH.nil
  go_simp
  refine (HDA.out _ HB1.out).mono ?_
  rintro e w2 ⟨rfl, hb⟩
  have HB2 := hide (Below.step HB1.out hb)
  clear hb
  refine hK.out _ _ (HSW.out _ HB2.out) (fun _ => ?_)
  clear hK K
  refine wpAnyH_ready (rs := [5]) (by kernel_rfl) (by simp) ?_
  refine AllReadyH.cons rfl (fun K hK => ?_) AllReadyH.nil
  go_simp
  refine (HDB.out _ HB2.out).mono ?_
  rintro e w3 ⟨rfl, hb⟩
  have HB3 := hide (Below.step HB2.out hb)
  clear hb
  refine hK.out _ _ (HSW.out _ HB3.out) (fun _ => ?_)
  clear hK K
  refine wpAnyH_ready (rs := [6]) (by kernel_rfl) (by simp) ?_
  refine AllReadyH.cons rfl (fun K hK => ?_) AllReadyH.nil
  go_simp
  refine (ccmp_at za zb _).mono ?_
  rintro e w' ⟨⟨r1, rfl⟩, hw⟩
  simp only [hw]
  clear hw w'
  refine hK.out _ _ (HSW.out _ HB3.out) (fun _ => ?_)
  clear hK K
  refine wpAnyH_ready (rs := [9]) (by kernel_rfl) (by simp) ?_
  refine AllReadyH.cons rfl (fun K hK => ?_) AllReadyH.nil
  go_simp
  refine (need_at a la ca _).mono ?_
  rintro e w4 ⟨⟨n1, rfl⟩, hb⟩
  have HB4 := hide (Below.step HB3.out hb)
  clear hb
  refine hK.out _ _ (HSW.out _ HB4.out) (fun _ => ?_)
  clear hK K
  refine wpAnyH_ready (rs := [12]) (by kernel_rfl) (by simp) ?_
  refine AllReadyH.cons rfl (fun K hK => ?_) AllReadyH.nil
  go_simp
  refine (need_at b lb cb _).mono ?_
  rintro e w5 ⟨⟨n2, rfl⟩, hb⟩
  have HB5 := hide (Below.step HB4.out hb)
  clear hb
  refine hK.out _ _ (HSW.out _ HB5.out) (fun _ => ?_)
  clear hK K
  refine wpAnyH_ready (rs := [13]) (by kernel_rfl) (by simp) ?_
  refine AllReadyH.cons rfl (fun K hK => ?_) AllReadyH.nil
  go_simp
  refine (ccmp_at n1 n2 _).mono ?_
  rintro e w' ⟨⟨r2, rfl⟩, hw⟩
  simp only [hw]
  clear hw w'
  refine hK.out _ _ (HSW.out _ HB5.out) (fun _ => ?_)
  clear hK K
  refine wpAnyH_ready (rs := [18]) (by kernel_rfl) (by simp) ?_
  refine AllReadyH.cons rfl (fun K hK => ?_) AllReadyH.nil
  go_simp
  refine (HSC.out _ HB5.out).mono ?_
  rintro e w' ⟨⟨r3, rfl⟩, hw⟩
  simp only [hw]
  clear hw w'
  refine hK.out _ _ (HSW.out _ HB5.out) (fun _ => ?_)
  clear hK K
  refine wpAnyH_ready (rs := [19]) (by kernel_rfl) (by simp) ?_
  refine AllReadyH.cons rfl (fun K hK => ?_) AllReadyH.nil
  go_simp
  have HBX := hide (blk_new w5 (.cells #[.int .i64 r1, .int .i64 r2, .int .i64 r3] 3))
  have HB6 := hide (Below.step HB5.out (below_alloc w5 (.cells #[.int .i64 r1, .int .i64 r2, .int .i64 r3] 3)))
  refine hK.out _ _ (HSW.out _ HB6.out) (fun _ => ?_)
  clear hK K
  generalize hgX : w5.heap.size = X at *
  generalize w5.alloc (.cells #[.int .i64 r1, .int .i64 r2, .int .i64 r3] 3) = w6 at *
  refine wpAnyH_ready (rs := [20]) (by kernel_rfl) (by simp) ?_
  refine AllReadyH.cons rfl (fun K hK => ?_) AllReadyH.nil
  go_simp
  refine (or_at X [r1, r2, r3] w6 HBX.out (by show 3 ≤ 1000; omega)).mono ?_
  rintro e w' ⟨⟨r4, rfl⟩, hw⟩
  simp only [hw]
  clear hw w'
  refine hK.out _ _ (HSW.out _ HB6.out) (fun _ => ?_)
  clear hK K
  refine wpAnyH_take (i := 21) (oi := ⟨some 6, _, _, _, _, _⟩) (v := (.int .i64 r4)) rfl (by kernel_rfl) (by kernel_rfl) (by kernel_rfl) (fun _ _ _ h => h) (Or.inl ⟨by rfl, fun W hS => by (obtain ⟨s0, s1, s2, s3⟩ := hS; go_simp)⟩) (HSW.out _ HB6.out) ?_
  simp only [Act.put, List.setIfInBounds_toArray, List.set_cons_zero, List.set_cons_succ]
  refine wpAnyH_done (by kernel_rfl) ?_ _
  go_wp2_with fail
  go_ret
  exact ⟨⟨_, rfl⟩, Below.step HB0.out HB6.out⟩
end Go.Proofs.Ytacgepdmhdcdkaa
