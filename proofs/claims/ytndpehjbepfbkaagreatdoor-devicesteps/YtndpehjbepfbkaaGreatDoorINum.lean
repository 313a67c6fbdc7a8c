/-
  CONTRACT of numbers.
-/
import Derived.Test.YtndpehjbepfbkaaGreatDoorIXs
import Derived.Test.YtndpehjbepfbkaaGreatDoorLLeaf
import Derived.Deep.RegionHeld3
set_option linter.unusedSimpArgs false
set_option linter.unusedVariables false
namespace Go.Proofs.YtndpehjbepfbkaaGreatDoor
open Go.RowKit

theorem Mine.two {e : TypeId} {w : World} {g : Nat} {a b : Value} (h : w.heap[g]? = some (.cells #[a, b] e (0, 0))) : Mine e 1 g w (.slice (some ⟨g, 0, Option.none⟩) 2 2) 2 [a, b] :=
  ⟨⟨by simp, .inr ⟨g, 2, #[a, b], rfl, Nat.zero_le _, h, Nat.le_refl _, by decide, by simp, by simp⟩⟩, fun b hb => by simp [Value.ownBlock] at hb; omega⟩

set_option maxRecDepth 100000 in
set_option maxHeartbeats 6400000 in
theorem numbers_at {s : NetQ} {S : Nat → Prop} {w : World} {gn : Nat} {rs : List Rg} {ls : List Lt} {os : List Int} (h : NetT s S w gn rs ls os) (hr : RightT gn rs ls os) :
    Calls Tryz.prog 63 #[.pointer (some ⟨s.p, 0, none⟩)] w fun e w' => ∃ va vc, e = .returned (.slice va (netN gn rs ls os).length vc) ∧ RowI w w' va vc (netN gn rs ls os).length (netN gn rs ls os) := by
  have h1 := hr.g1
  have h2 := hr.r1
  have h3 := hr.l1
  have h4 := hr.o1
  have HR := hide hr
  have HNW : Hid (∀ W, Below w.heap.size w W → NetT s S W gn rs ls os) := hide fun W hb => h.below hb
  have HBd : Hid (Below w.heap.size w w.drew) := hide (Below.refl _ _).drew
  clear h hr
  go_enter Tryz.func63, Tryz.ntmps63
  go_wp2_with fail
  refine wp_region_held_drew (S := fun W => W.cell? ⟨s.p, 0, none⟩ = some (.int .i64 gn) ∧ W.cell? ⟨s.p, 1, none⟩ = some (.slice s.ra rs.length s.rc)) (by kernel_rfl) ⟨(HNW.out _ HBd.out).c0, (HNW.out _ HBd.out).c1⟩ (fun _ => ?_)
  generalize w.drew = y0 at *
  refine wpAnyH_take (i := 0) (oi := ⟨some 8, _, _, _, _, _⟩) (v := ((.pointer (some ⟨s.p, 0, none⟩)))) rfl (by kernel_rfl) (by kernel_rfl) (by kernel_rfl) (fun _ _ _ h => h) (Or.inl ⟨by rfl, fun W hS => by (obtain ⟨s0, s1⟩ := hS; go_simp)⟩) ⟨(HNW.out _ HBd.out).c0, (HNW.out _ HBd.out).c1⟩ ?_
  simp only [Act.put, List.setIfInBounds_toArray, List.set_cons_zero, List.set_cons_succ]
  refine wpAnyH_take (i := 4) (oi := ⟨some 12, _, _, _, _, _⟩) (v := ((.pointer (some ⟨s.p, 0, none⟩)))) rfl (by kernel_rfl) (by kernel_rfl) (by kernel_rfl) (fun _ _ _ h => h) (Or.inl ⟨by rfl, fun W hS => by (obtain ⟨s0, s1⟩ := hS; go_simp)⟩) ⟨(HNW.out _ HBd.out).c0, (HNW.out _ HBd.out).c1⟩ ?_
  simp only [Act.put, List.setIfInBounds_toArray, List.set_cons_zero, List.set_cons_succ]
  refine wpAnyH_take (i := 1) (oi := ⟨some 9, _, _, _, _, _⟩) (v := ((.pointer (some ⟨s.p, 0, none⟩)))) rfl (by kernel_rfl) (by kernel_rfl) (by kernel_rfl) (fun _ _ _ h => h) (Or.inl ⟨by rfl, fun W hS => by (obtain ⟨s0, s1⟩ := hS; go_simp)⟩) ⟨(HNW.out _ HBd.out).c0, (HNW.out _ HBd.out).c1⟩ ?_
  simp only [Act.put, List.setIfInBounds_toArray, List.set_cons_zero, List.set_cons_succ]
  refine wpAnyH_take (i := 5) (oi := ⟨some 13, _, _, _, _, _⟩) (v := ((.pointer (some ⟨s.p, 0, none⟩)))) rfl (by kernel_rfl) (by kernel_rfl) (by kernel_rfl) (fun _ _ _ h => h) (Or.inl ⟨by rfl, fun W hS => by (obtain ⟨s0, s1⟩ := hS; go_simp)⟩) ⟨(HNW.out _ HBd.out).c0, (HNW.out _ HBd.out).c1⟩ ?_
  simp only [Act.put, List.setIfInBounds_toArray, List.set_cons_zero, List.set_cons_succ]
  refine wpAnyH_take (i := 2) (oi := ⟨some 10, _, _, _, _, _⟩) (v := ((.pointer (some ⟨s.p, 0, none⟩)))) rfl (by kernel_rfl) (by kernel_rfl) (by kernel_rfl) (fun _ _ _ h => h) (Or.inl ⟨by rfl, fun W hS => by (obtain ⟨s0, s1⟩ := hS; go_simp)⟩) ⟨(HNW.out _ HBd.out).c0, (HNW.out _ HBd.out).c1⟩ ?_
  simp only [Act.put, List.setIfInBounds_toArray, List.set_cons_zero, List.set_cons_succ]
  refine wpAnyH_take (i := 6) (oi := ⟨some 14, _, _, _, _, _⟩) (v := ((.pointer (some ⟨s.p, 1, none⟩)))) rfl (by kernel_rfl) (by kernel_rfl) (by kernel_rfl) (fun _ _ _ h => h) (Or.inl ⟨by rfl, fun W hS => by (obtain ⟨s0, s1⟩ := hS; go_simp)⟩) ⟨(HNW.out _ HBd.out).c0, (HNW.out _ HBd.out).c1⟩ ?_
  simp only [Act.put, List.setIfInBounds_toArray, List.set_cons_zero, List.set_cons_succ]
  refine wpAnyH_take (i := 3) (oi := ⟨some 11, _, _, _, _, _⟩) (v := (.int .i64 gn)) rfl (by kernel_rfl) (by kernel_rfl) (by kernel_rfl) (fun _ _ _ h => h) (Or.inl ⟨by rfl, fun W hS => by (obtain ⟨s0, s1⟩ := hS; go_simp)⟩) ⟨(HNW.out _ HBd.out).c0, (HNW.out _ HBd.out).c1⟩ ?_
  simp only [Act.put, List.setIfInBounds_toArray, List.set_cons_zero, List.set_cons_succ]
  refine wpAnyH_take (i := 7) (oi := ⟨some 15, _, _, _, _, _⟩) (v := (.slice s.ra rs.length s.rc)) rfl (by kernel_rfl) (by kernel_rfl) (by kernel_rfl) (fun _ _ _ h => h) (Or.inl ⟨by rfl, fun W hS => by (obtain ⟨s0, s1⟩ := hS; go_simp)⟩) ⟨(HNW.out _ HBd.out).c0, (HNW.out _ HBd.out).c1⟩ ?_
  simp only [Act.put, List.setIfInBounds_toArray, List.set_cons_zero, List.set_cons_succ]
  refine wpAnyH_take (i := 8) (oi := ⟨some 16, _, _, _, _, _⟩) (v := (.int .i64 rs.length)) rfl (by kernel_rfl) (by kernel_rfl) (by kernel_rfl) (fun _ _ _ h => h) (Or.inl ⟨by rfl, fun W hS => by (obtain ⟨s0, s1⟩ := hS; go_simp)⟩) ⟨(HNW.out _ HBd.out).c0, (HNW.out _ HBd.out).c1⟩ ?_
  simp only [Act.put, List.setIfInBounds_toArray, List.set_cons_zero, List.set_cons_succ]
  have HB1 := hide (Below.step HBd.out (below_alloc y0 (.cells #[.int .i64 gn, .int .i64 rs.length] 3)))
  have HR1 : Hid (RowI w (y0.alloc (.cells #[.int .i64 gn, .int .i64 rs.length] 3)) (some ⟨y0.heap.size, 0, none⟩) 2 2 [(gn : Int), (rs.length : Int)]) := hide ⟨⟨HB1.out, (Mine.two (blk_new y0 (.cells #[.int .i64 gn, .int .i64 rs.length] 3))).from HBd.out.size⟩, rfl⟩
  refine wpAnyH_ready (rs := [9]) (by kernel_rfl) (by simp) ?_
  refine AllReadyH.cons rfl (fun K hK => ?_) AllReadyH.nil
  go_simp
  refine hK.out _ _ ⟨(HNW.out _ HB1.out).c0, (HNW.out _ HB1.out).c1⟩ (fun _ => ?_)
  clear hK K
  refine wpAnyH_ready (rs := [10]) (by kernel_rfl) (by simp) ?_
  refine AllReadyH.cons rfl (fun K hK => ?_) AllReadyH.nil
  go_simp
  refine hK.out _ _ ⟨(HNW.out _ HB1.out).c0, (HNW.out _ HB1.out).c1⟩ (fun _ => ?_)
  clear hK K
  refine wpAnyH_done (by kernel_rfl) ?_ _
  have n1 := (HNW.out _ HB1.out).c1
  generalize y0.alloc (.cells #[.int .i64 gn, .int .i64 rs.length] 3) = y1 at *
  generalize y0.heap.size = g1 at *
  go_wp2_with fail
  clear n1
  go_loopw [3, 23] (fun v i wr => ∃ (q k : Nat) (va : Option Addr) (vc : Nat), q ≤ rs.length ∧ i = .int .i64 q ∧ v = .slice va k vc ∧ k ≤ 40002 ∧ Hid (RowI w wr va vc k ((gn : Int) :: (rs.length : Int) :: regsN (rs.take q)))) (fun _ i _ => rs.length - (intOf i).toNat)
  case atStart => exact ⟨0, 2, some ⟨g1, 0, none⟩, 2, Nat.zero_le _, rfl, rfl, by decide, HR1⟩
  case round =>
    obtain ⟨q, k, va, vc, hq, rfl, rfl, hk, hrow⟩ := hrel
    by_cases hlt : q < rs.length
    · have hqi : (q : Int) < (rs.length : Int) := by omega
      obtain ⟨b, off, hra, _, hbl, m0, m1⟩ := (HNW.out _ hrow.out.row.below).regs.pair hlt
      simp only [rgF, rgG] at m0 m1
      have HA := hide hra
      rw [HA.out]
      have HKL : Hid (k + 2 ≤ 40002) := hide (by have := hrow.out.len; simp [regsN_len] at this; omega)
      have HRN := hide (regsN_snoc rs q hlt)
      have HFI := hide (fun W => ifirst_at (rgAt rs q) W)
      generalize hrg : rgAt rs q = rg at *
      clear hrg hra
      obtain ⟨ri, rx⟩ := rg
      simp only at m0 m1
      go_wp2_with fail
      clear m0 m1 hbl
      have HX0 := hide ((RowX.begin hrow.out).add (.cells #[.bool ri, .int .i64 rx] 106))
      have HM0 := hide (blk_new wr (.cells #[.bool ri, .int .i64 rx] 106))
      generalize wr.alloc (.cells #[.bool ri, .int .i64 rx] 106) = x0 at *
      generalize wr.heap.size = X at *
      refine wp_region_held_drew (S := fun W => W.cell? ⟨X, 0, none⟩ = some (.bool ri) ∧ W.cell? ⟨X, 1, none⟩ = some (.int .i64 rx)) (by kernel_rfl) (two_cells HM0.out) (fun _ => ?_)
      have HX1 := hide HX0.out.drew
      have HM1 : Hid (x0.drew.heap[X]? = some (.cells #[.bool ri, .int .i64 rx] 106 (0, 0))) := hide HM0.out
      generalize x0.drew = x1 at *
      refine wpAnyH_take (i := 0) (oi := ⟨some 27, _, _, _, _, _⟩) (v := (.slice va k vc)) rfl (by kernel_rfl) (by kernel_rfl) (by kernel_rfl) (fun _ _ _ h => h) (Or.inl ⟨by rfl, fun W hS => by (obtain ⟨s0, s1⟩ := hS; go_simp)⟩) (two_cells HM1.out) ?_
      simp only [Act.put, List.setIfInBounds_toArray, List.set_cons_zero, List.set_cons_succ]
      refine wpAnyH_take (i := 1) (oi := ⟨some 28, _, _, _, _, _⟩) (v := (.agg #[.bool ri, .int .i64 rx])) rfl (by kernel_rfl) (by kernel_rfl) (by kernel_rfl) (fun _ _ _ h => h) (Or.inl ⟨by rfl, fun W hS => by (obtain ⟨s0, s1⟩ := hS; go_simp)⟩) (two_cells HM1.out) ?_
      simp only [Act.put, List.setIfInBounds_toArray, List.set_cons_zero, List.set_cons_succ]
      refine wpAnyH_take (i := 3) (oi := ⟨some 30, _, _, _, _, _⟩) (v := (.pointer (some ⟨X, 1, none⟩))) rfl (by kernel_rfl) (by kernel_rfl) (by kernel_rfl) (fun _ _ _ h => h) (Or.inl ⟨by rfl, fun W hS => by (obtain ⟨s0, s1⟩ := hS; go_simp)⟩) (two_cells HM1.out) ?_
      simp only [Act.put, List.setIfInBounds_toArray, List.set_cons_zero, List.set_cons_succ]
      refine wpAnyH_take (i := 4) (oi := ⟨some 31, _, _, _, _, _⟩) (v := (.int .i64 rx)) rfl (by kernel_rfl) (by kernel_rfl) (by kernel_rfl) (fun _ _ _ h => h) (Or.inl ⟨by rfl, fun W hS => by (obtain ⟨s0, s1⟩ := hS; go_simp)⟩) (two_cells HM1.out) ?_
      simp only [Act.put, List.setIfInBounds_toArray, List.set_cons_zero, List.set_cons_succ]
      refine wpAnyH_ready (rs := [2]) (by kernel_rfl) (by simp) ?_
      refine AllReadyH.cons rfl (fun K hK => ?_) AllReadyH.nil
      go_simp
      refine (HFI.out x1).mono ?_
      rintro e x2 ⟨rfl, hb⟩
      have HX2 := hide (HX1.out.more hb)
      have HM2 := hide (Below.blk hb HM1.out)
      clear hb
      have HRE : Hid (regN ⟨ri, rx⟩ = [if ri then 1 else 0, rx]) := hide rfl
      generalize (if ri then (1 : Int) else 0) = fi at *
      refine hK.out _ _ (two_cells HM2.out) (fun _ => ?_)
      clear hK K
      have HX3 := hide (HX2.out.more (below_alloc x2 (.cells #[.int .i64 fi, .int .i64 rx] 3)))
      have HM3 := hide (Below.blk (below_alloc x2 (.cells #[.int .i64 fi, .int .i64 rx] 3)) HM2.out)
      obtain ⟨va2, vc2, x4, happ, hx4, hkx⟩ := HX3.out.app [fi, rx] (some ⟨x2.heap.size, 0, none⟩) 2 2 (k + 2) (two_lies (blk_new x2 (.cells #[.int .i64 fi, .int .i64 rx] 3))) rfl rfl (by have := HKL.out; omega)
      have HX4 := hide hx4
      have HM4 := hide ((hkx X (by simp)).trans HM3.out)
      clear hx4 hkx
      refine wpAnyH_ready (rs := [5]) (by kernel_rfl) (by simp) ?_
      refine AllReadyH.cons rfl (fun K hK => ?_) AllReadyH.nil
      go_simp
      refine hK.out _ _ (two_cells HM3.out) (fun _ => ?_)
      clear hK K
      refine wpAnyH_ready (rs := [6]) (by kernel_rfl) (by simp) ?_
      refine AllReadyH.cons rfl (fun K hK => ?_) AllReadyH.nil
      refine (if_pos (by kernel_rfl)).mpr ?_
      refine wp_append_run happ _ _ rfl rfl rfl ?_
      simp only [Act.put, List.getElem_toArray, List.getElem_cons_succ, List.getElem_cons_zero, List.setIfInBounds_toArray, List.set_cons_zero, List.set_cons_succ]
      refine hK.out _ _ (two_cells HM4.out) (fun _ => ?_)
      clear hK K
      clear happ
      refine wpAnyH_ready (rs := [7]) (by kernel_rfl) (by simp) ?_
      refine AllReadyH.cons rfl (fun K hK => ?_) AllReadyH.nil
      go_simp
      refine hK.out _ _ (two_cells HM4.out) (fun _ => ?_)
      clear hK K
      refine wpAnyH_done (by kernel_rfl) ?_ _
      have HE : Hid ((gn : Int) :: (rs.length : Int) :: regsN (rs.take (q + 1)) = ((gn : Int) :: (rs.length : Int) :: regsN (rs.take q)) ++ [fi, rx]) := hide (by rw [HRN.out, HRE.out]; rfl)
      go_wp2_with fail
      exact ⟨⟨q + 1, k + 2, va2, vc2, by omega, by go_num, rfl, HKL.out, hide (by rw [HE.out]; exact HX4.out.row)⟩, by simp [intOf]; omega⟩
    · have HROW : Hid (RowI w wr va vc k ((gn : Int) :: (rs.length : Int) :: regsN rs)) := hide (by
        have e : q = rs.length := by omega
        have := hrow.out
        rwa [e, List.take_length] at this)
      have n2 := (HNW.out _ HROW.out.row.below).c2
      clear hrow HR1
      have HX3 := hide ((RowX.begin HROW.out).more (below_alloc wr (.cells #[.int .i64 ls.length] 3)))
      obtain ⟨va2, vc2, x4, happ, hx4, -⟩ := HX3.out.app [(ls.length : Int)] (some ⟨wr.heap.size, 0, none⟩) 1 1 (k + 1) (one_lies (blk_new wr (.cells #[.int .i64 ls.length] 3))) rfl rfl (by omega)
      have HROW2 : Hid (RowI w x4 va2 vc2 (k + 1) (((gn : Int) :: (rs.length : Int) :: regsN rs) ++ [(ls.length : Int)])) := hide hx4.row
      have n3 := (HNW.out _ HROW2.out.row.below).c2
      clear hx4
      go_wp2_with (at_builtin; (refine wpl_append_run happ rfl _ _ rfl rfl rfl ?_))
      clear n2 n3 happ HX3 HROW
      go_loopw [3, 48] (fun v i wr => ∃ (q k : Nat) (va : Option Addr) (vc : Nat), q ≤ ls.length ∧ i = .int .i64 q ∧ v = .slice va k vc ∧ k ≤ 40003 + 6 * q ∧ Hid (RowI w wr va vc k (((gn : Int) :: (rs.length : Int) :: regsN rs) ++ [(ls.length : Int)] ++ lutsN (ls.take q)))) (fun _ i _ => ls.length - (intOf i).toNat)
      case atStart => exact ⟨0, k + 1, va2, vc2, Nat.zero_le _, rfl, rfl, by omega, hide (by simpa [lutsN] using HROW2.out)⟩
      case round =>
        clear HROW2 hk hq hlt
        obtain ⟨q, k, va, vc, hq, rfl, rfl, hk, hrow⟩ := hrel
        by_cases hlt : q < ls.length
        · have hqi : (q : Int) < (ls.length : Int) := by omega
          obtain ⟨b, off, hla, _, hbl, m0, m1⟩ := (HNW.out _ hrow.out.row.below).luts.row.pair hlt
          have HINS := hide ((HNW.out _ hrow.out.row.below).luts.ins q hlt)
          simp only [lutF, lutG] at m0 m1
          have HA := hide hla
          rw [HA.out]
          have h4 := (rightL_iff.1 (HR.out.luts q hlt)).n4
          have HRN := hide (lutsN_snoc ls q hlt)
          generalize hrg : ltAt ls q = lt at *
          have HLQ := hide hrg
          clear hrg hla
          obtain ⟨ins, tb⟩ := lt
          simp only at m0 m1 HINS h4
          go_wp2_with fail
          clear m0 m1 hbl
          have HX0 := hide ((RowX.begin hrow.out).add (.cells #[.slice (s.A q) ins.length (s.C q), .int .i64 tb] 124))
          have HM0 := hide (blk_new wr (.cells #[.slice (s.A q) ins.length (s.C q), .int .i64 tb] 124))
          have HI0 : Hid (∀ W, Below w.heap.size w W → Lies AnyB W (s.A q) (intsC ins)) := hide fun W hb => by
            have := ((HNW.out _ hb).luts.ins q hlt).any
            rwa [HLQ.out] at this
          generalize wr.alloc (.cells #[.slice (s.A q) ins.length (s.C q), .int .i64 tb] 124) = x0 at *
          generalize wr.heap.size = X at *
          refine wp_region_held_drew (S := fun W => W.cell? ⟨X, 0, none⟩ = some (.slice (s.A q) ins.length (s.C q)) ∧ W.cell? ⟨X, 1, none⟩ = some (.int .i64 tb)) (by kernel_rfl) (two_cells HM0.out) (fun _ => ?_)
          have HX1 := hide HX0.out.drew
          have HM1 : Hid (x0.drew.heap[X]? = some (.cells #[.slice (s.A q) ins.length (s.C q), .int .i64 tb] 124 (0, 0))) := hide HM0.out
          generalize x0.drew = x1 at *
          refine wpAnyH_take (i := 0) (oi := ⟨some 52, _, _, _, _, _⟩) (v := (.slice va k vc)) rfl (by kernel_rfl) (by kernel_rfl) (by kernel_rfl) (fun _ _ _ h => h) (Or.inl ⟨by rfl, fun W hS => by (obtain ⟨s0, s1⟩ := hS; go_simp)⟩) (two_cells HM1.out) ?_
          simp only [Act.put, List.setIfInBounds_toArray, List.set_cons_zero, List.set_cons_succ]
          refine wpAnyH_take (i := 1) (oi := ⟨some 53, _, _, _, _, _⟩) (v := (.pointer (some ⟨X, 0, none⟩))) rfl (by kernel_rfl) (by kernel_rfl) (by kernel_rfl) (fun _ _ _ h => h) (Or.inl ⟨by rfl, fun W hS => by (obtain ⟨s0, s1⟩ := hS; go_simp)⟩) (two_cells HM1.out) ?_
          simp only [Act.put, List.setIfInBounds_toArray, List.set_cons_zero, List.set_cons_succ]
          refine wpAnyH_take (i := 6) (oi := ⟨some 58, _, _, _, _, _⟩) (v := (.pointer (some ⟨X, 0, none⟩))) rfl (by kernel_rfl) (by kernel_rfl) (by kernel_rfl) (fun _ _ _ h => h) (Or.inl ⟨by rfl, fun W hS => by (obtain ⟨s0, s1⟩ := hS; go_simp)⟩) (two_cells HM1.out) ?_
          simp only [Act.put, List.setIfInBounds_toArray, List.set_cons_zero, List.set_cons_succ]
          refine wpAnyH_take (i := 9) (oi := ⟨some 61, _, _, _, _, _⟩) (v := (.pointer (some ⟨X, 1, none⟩))) rfl (by kernel_rfl) (by kernel_rfl) (by kernel_rfl) (fun _ _ _ h => h) (Or.inl ⟨by rfl, fun W hS => by (obtain ⟨s0, s1⟩ := hS; go_simp)⟩) (two_cells HM1.out) ?_
          simp only [Act.put, List.setIfInBounds_toArray, List.set_cons_zero, List.set_cons_succ]
          refine wpAnyH_take (i := 2) (oi := ⟨some 54, _, _, _, _, _⟩) (v := (.slice (s.A q) ins.length (s.C q))) rfl (by kernel_rfl) (by kernel_rfl) (by kernel_rfl) (fun _ _ _ h => h) (Or.inl ⟨by rfl, fun W hS => by (obtain ⟨s0, s1⟩ := hS; go_simp)⟩) (two_cells HM1.out) ?_
          simp only [Act.put, List.setIfInBounds_toArray, List.set_cons_zero, List.set_cons_succ]
          refine wpAnyH_take (i := 7) (oi := ⟨some 59, _, _, _, _, _⟩) (v := (.slice (s.A q) ins.length (s.C q))) rfl (by kernel_rfl) (by kernel_rfl) (by kernel_rfl) (fun _ _ _ h => h) (Or.inl ⟨by rfl, fun W hS => by (obtain ⟨s0, s1⟩ := hS; go_simp)⟩) (two_cells HM1.out) ?_
          simp only [Act.put, List.setIfInBounds_toArray, List.set_cons_zero, List.set_cons_succ]
          refine wpAnyH_take (i := 10) (oi := ⟨some 62, _, _, _, _, _⟩) (v := (.int .i64 tb)) rfl (by kernel_rfl) (by kernel_rfl) (by kernel_rfl) (fun _ _ _ h => h) (Or.inl ⟨by rfl, fun W hS => by (obtain ⟨s0, s1⟩ := hS; go_simp)⟩) (two_cells HM1.out) ?_
          simp only [Act.put, List.setIfInBounds_toArray, List.set_cons_zero, List.set_cons_succ]
          refine wpAnyH_take (i := 3) (oi := ⟨some 55, _, _, _, _, _⟩) (v := (.int .i64 ins.length)) rfl (by kernel_rfl) (by kernel_rfl) (by kernel_rfl) (fun _ _ _ h => h) (Or.inl ⟨by rfl, fun W hS => by (obtain ⟨s0, s1⟩ := hS; go_simp)⟩) (two_cells HM1.out) ?_
          simp only [Act.put, List.setIfInBounds_toArray, List.set_cons_zero, List.set_cons_succ]
          refine wpAnyH_ready (rs := [4, 11]) (by kernel_rfl) (by simp) ?_
          refine AllReadyH.cons rfl (fun K hK => ?_) (AllReadyH.cons rfl (fun K hK => ?_) AllReadyH.nil)
          · skip
            go_simp
            have HX2 := hide (HX1.out.add (.cells #[.int .i64 ins.length] 3))
            have HM2 := hide (Below.blk (below_alloc x1 (.cells #[.int .i64 ins.length] 3)) HM1.out)
            have HL4_2 := hide (blk_new x1 (.cells #[.int .i64 ins.length] 3))
            generalize x1.alloc (.cells #[.int .i64 ins.length] 3) = x2 at *
            generalize x1.heap.size = B4 at *
            refine hK.out _ _ (two_cells HM2.out) (fun _ => ?_)
            clear hK K
            refine wpAnyH_ready (rs := [5, 11]) (by kernel_rfl) (by simp) ?_
            refine AllReadyH.cons rfl (fun K hK => ?_) (AllReadyH.cons rfl (fun K hK => ?_) AllReadyH.nil)
            · skip
              obtain ⟨va5, vc5, x3, happ, hx, hkx⟩ := HX2.out.app [(ins.length : Int)] (some ⟨B4, 0, none⟩) 1 1 (k + 1) (one_lies HL4_2.out) rfl rfl (by omega)
              have HX3 := hide hx
              have HM3 := hide ((hkx X (by simp)).trans HM2.out)
              have HL4_3 := hide ((hkx B4 (by simp)).trans HL4_2.out)
              clear hx hkx
              refine (if_pos (by kernel_rfl)).mpr ?_
              refine wp_append_run happ _ _ rfl rfl rfl ?_
              simp only [Act.put, List.getElem_toArray, List.getElem_cons_succ, List.getElem_cons_zero, List.setIfInBounds_toArray, List.set_cons_zero, List.set_cons_succ]
              refine hK.out _ _ (two_cells HM3.out) (fun _ => ?_)
              clear hK K
              clear happ
              refine wpAnyH_ready (rs := [8, 11]) (by kernel_rfl) (by simp) ?_
              refine AllReadyH.cons rfl (fun K hK => ?_) (AllReadyH.cons rfl (fun K hK => ?_) AllReadyH.nil)
              · skip
                obtain ⟨va8, vc8, x4, happ, hx, hkx⟩ := HX3.out.app ins (s.A q) (s.C q) ins.length (k + 1 + ins.length) (HI0.out _ HX3.out.row.row.below) rfl rfl (by omega)
                have HX4 := hide hx
                have HM4 := hide ((hkx X (by simp)).trans HM3.out)
                have HL4_4 := hide ((hkx B4 (by simp)).trans HL4_3.out)
                clear hx hkx
                refine (if_pos (by kernel_rfl)).mpr ?_
                refine wp_append_run happ _ _ rfl rfl rfl ?_
                simp only [Act.put, List.getElem_toArray, List.getElem_cons_succ, List.getElem_cons_zero, List.setIfInBounds_toArray, List.set_cons_zero, List.set_cons_succ]
                refine hK.out _ _ (two_cells HM4.out) (fun _ => ?_)
                clear hK K
                clear happ
                refine wpAnyH_ready (rs := [11]) (by kernel_rfl) (by simp) ?_
                refine AllReadyH.cons rfl (fun K hK => ?_) AllReadyH.nil
                go_simp
                have HX5 := hide (HX4.out.add (.cells #[.int .i64 tb] 3))
                have HM5 := hide (Below.blk (below_alloc x4 (.cells #[.int .i64 tb] 3)) HM4.out)
                have HL11_5 := hide (blk_new x4 (.cells #[.int .i64 tb] 3))
                have HL4_5 := hide (Below.blk (below_alloc x4 (.cells #[.int .i64 tb] 3)) HL4_4.out)
                generalize x4.alloc (.cells #[.int .i64 tb] 3) = x5 at *
                generalize x4.heap.size = B11 at *
                refine hK.out _ _ (two_cells HM5.out) (fun _ => ?_)
                clear hK K
                refine wpAnyH_ready (rs := [12]) (by kernel_rfl) (by simp) ?_
                refine AllReadyH.cons rfl (fun K hK => ?_) AllReadyH.nil
                obtain ⟨va12, vc12, x6, happ, hx, hkx⟩ := HX5.out.app [tb] (some ⟨B11, 0, none⟩) 1 1 (k + 1 + ins.length + 1) (one_lies HL11_5.out) rfl rfl (by omega)
                have HX6 := hide hx
                have HM6 := hide ((hkx X (by simp)).trans HM5.out)
                have HL4_6 := hide ((hkx B4 (by simp)).trans HL4_5.out)
                have HL11_6 := hide ((hkx B11 (by simp)).trans HL11_5.out)
                clear hx hkx
                refine (if_pos (by kernel_rfl)).mpr ?_
                refine wp_append_run happ _ _ rfl rfl rfl ?_
                simp only [Act.put, List.getElem_toArray, List.getElem_cons_succ, List.getElem_cons_zero, List.setIfInBounds_toArray, List.set_cons_zero, List.set_cons_succ]
                refine hK.out _ _ (two_cells HM6.out) (fun _ => ?_)
                clear hK K
                clear happ
                refine wpAnyH_ready (rs := [13]) (by kernel_rfl) (by simp) ?_
                refine AllReadyH.cons rfl (fun K hK => ?_) AllReadyH.nil
                go_simp
                refine hK.out _ _ (two_cells HM6.out) (fun _ => ?_)
                clear hK K
                refine wpAnyH_done (by kernel_rfl) ?_ _
                have HE : Hid (((gn : Int) :: (rs.length : Int) :: regsN rs) ++ [(ls.length : Int)] ++ lutsN (ls.take (q + 1)) = (((gn : Int) :: (rs.length : Int) :: regsN rs) ++ [(ls.length : Int)] ++ lutsN (ls.take q)) ++ [(ins.length : Int)] ++ ins ++ [tb]) := hide (by rw [HRN.out]; simp [lutN, List.append_assoc])
                have HXF := hide HX6.out.row
                have hk6 : k + 1 + ins.length + 1 ≤ 40003 + 6 * (q + 1) := by omega
                go_wp2_with fail
                exact ⟨⟨q + 1, k + 1 + ins.length + 1, va12, vc12, by omega, by go_num, rfl, hk6, hide (by rw [HE.out]; exact HXF.out)⟩, by simp [intOf]; omega⟩
              · skip
                go_simp
                have HX4 := hide (HX3.out.add (.cells #[.int .i64 tb] 3))
                have HM4 := hide (Below.blk (below_alloc x3 (.cells #[.int .i64 tb] 3)) HM3.out)
                have HL11_4 := hide (blk_new x3 (.cells #[.int .i64 tb] 3))
                have HL4_4 := hide (Below.blk (below_alloc x3 (.cells #[.int .i64 tb] 3)) HL4_3.out)
                generalize x3.alloc (.cells #[.int .i64 tb] 3) = x4 at *
                generalize x3.heap.size = B11 at *
                refine hK.out _ _ (two_cells HM4.out) (fun _ => ?_)
                clear hK K
                refine wpAnyH_ready (rs := [8]) (by kernel_rfl) (by simp) ?_
                refine AllReadyH.cons rfl (fun K hK => ?_) AllReadyH.nil
                obtain ⟨va8, vc8, x5, happ, hx, hkx⟩ := HX4.out.app ins (s.A q) (s.C q) ins.length (k + 1 + ins.length) (HI0.out _ HX4.out.row.row.below) rfl rfl (by omega)
                have HX5 := hide hx
                have HM5 := hide ((hkx X (by simp)).trans HM4.out)
                have HL4_5 := hide ((hkx B4 (by simp)).trans HL4_4.out)
                have HL11_5 := hide ((hkx B11 (by simp)).trans HL11_4.out)
                clear hx hkx
                refine (if_pos (by kernel_rfl)).mpr ?_
                refine wp_append_run happ _ _ rfl rfl rfl ?_
                simp only [Act.put, List.getElem_toArray, List.getElem_cons_succ, List.getElem_cons_zero, List.setIfInBounds_toArray, List.set_cons_zero, List.set_cons_succ]
                refine hK.out _ _ (two_cells HM5.out) (fun _ => ?_)
                clear hK K
                clear happ
                refine wpAnyH_ready (rs := [12]) (by kernel_rfl) (by simp) ?_
                refine AllReadyH.cons rfl (fun K hK => ?_) AllReadyH.nil
                obtain ⟨va12, vc12, x6, happ, hx, hkx⟩ := HX5.out.app [tb] (some ⟨B11, 0, none⟩) 1 1 (k + 1 + ins.length + 1) (one_lies HL11_5.out) rfl rfl (by omega)
                have HX6 := hide hx
                have HM6 := hide ((hkx X (by simp)).trans HM5.out)
                have HL4_6 := hide ((hkx B4 (by simp)).trans HL4_5.out)
                have HL11_6 := hide ((hkx B11 (by simp)).trans HL11_5.out)
                clear hx hkx
                refine (if_pos (by kernel_rfl)).mpr ?_
                refine wp_append_run happ _ _ rfl rfl rfl ?_
                simp only [Act.put, List.getElem_toArray, List.getElem_cons_succ, List.getElem_cons_zero, List.setIfInBounds_toArray, List.set_cons_zero, List.set_cons_succ]
                refine hK.out _ _ (two_cells HM6.out) (fun _ => ?_)
                clear hK K
                clear happ
                refine wpAnyH_ready (rs := [13]) (by kernel_rfl) (by simp) ?_
                refine AllReadyH.cons rfl (fun K hK => ?_) AllReadyH.nil
                go_simp
                refine hK.out _ _ (two_cells HM6.out) (fun _ => ?_)
                clear hK K
                refine wpAnyH_done (by kernel_rfl) ?_ _
                have HE : Hid (((gn : Int) :: (rs.length : Int) :: regsN rs) ++ [(ls.length : Int)] ++ lutsN (ls.take (q + 1)) = (((gn : Int) :: (rs.length : Int) :: regsN rs) ++ [(ls.length : Int)] ++ lutsN (ls.take q)) ++ [(ins.length : Int)] ++ ins ++ [tb]) := hide (by rw [HRN.out]; simp [lutN, List.append_assoc])
                have HXF := hide HX6.out.row
                have hk6 : k + 1 + ins.length + 1 ≤ 40003 + 6 * (q + 1) := by omega
                go_wp2_with fail
                exact ⟨⟨q + 1, k + 1 + ins.length + 1, va12, vc12, by omega, by go_num, rfl, hk6, hide (by rw [HE.out]; exact HXF.out)⟩, by simp [intOf]; omega⟩
            · skip
              go_simp
              have HX3 := hide (HX2.out.add (.cells #[.int .i64 tb] 3))
              have HM3 := hide (Below.blk (below_alloc x2 (.cells #[.int .i64 tb] 3)) HM2.out)
              have HL11_3 := hide (blk_new x2 (.cells #[.int .i64 tb] 3))
              have HL4_3 := hide (Below.blk (below_alloc x2 (.cells #[.int .i64 tb] 3)) HL4_2.out)
              generalize x2.alloc (.cells #[.int .i64 tb] 3) = x3 at *
              generalize x2.heap.size = B11 at *
              refine hK.out _ _ (two_cells HM3.out) (fun _ => ?_)
              clear hK K
              refine wpAnyH_ready (rs := [5]) (by kernel_rfl) (by simp) ?_
              refine AllReadyH.cons rfl (fun K hK => ?_) AllReadyH.nil
              obtain ⟨va5, vc5, x4, happ, hx, hkx⟩ := HX3.out.app [(ins.length : Int)] (some ⟨B4, 0, none⟩) 1 1 (k + 1) (one_lies HL4_3.out) rfl rfl (by omega)
              have HX4 := hide hx
              have HM4 := hide ((hkx X (by simp)).trans HM3.out)
              have HL4_4 := hide ((hkx B4 (by simp)).trans HL4_3.out)
              have HL11_4 := hide ((hkx B11 (by simp)).trans HL11_3.out)
              clear hx hkx
              refine (if_pos (by kernel_rfl)).mpr ?_
              refine wp_append_run happ _ _ rfl rfl rfl ?_
              simp only [Act.put, List.getElem_toArray, List.getElem_cons_succ, List.getElem_cons_zero, List.setIfInBounds_toArray, List.set_cons_zero, List.set_cons_succ]
              refine hK.out _ _ (two_cells HM4.out) (fun _ => ?_)
              clear hK K
              clear happ
              refine wpAnyH_ready (rs := [8]) (by kernel_rfl) (by simp) ?_
              refine AllReadyH.cons rfl (fun K hK => ?_) AllReadyH.nil
              obtain ⟨va8, vc8, x5, happ, hx, hkx⟩ := HX4.out.app ins (s.A q) (s.C q) ins.length (k + 1 + ins.length) (HI0.out _ HX4.out.row.row.below) rfl rfl (by omega)
              have HX5 := hide hx
              have HM5 := hide ((hkx X (by simp)).trans HM4.out)
              have HL4_5 := hide ((hkx B4 (by simp)).trans HL4_4.out)
              have HL11_5 := hide ((hkx B11 (by simp)).trans HL11_4.out)
              clear hx hkx
              refine (if_pos (by kernel_rfl)).mpr ?_
              refine wp_append_run happ _ _ rfl rfl rfl ?_
              simp only [Act.put, List.getElem_toArray, List.getElem_cons_succ, List.getElem_cons_zero, List.setIfInBounds_toArray, List.set_cons_zero, List.set_cons_succ]
              refine hK.out _ _ (two_cells HM5.out) (fun _ => ?_)
              clear hK K
              clear happ
              refine wpAnyH_ready (rs := [12]) (by kernel_rfl) (by simp) ?_
              refine AllReadyH.cons rfl (fun K hK => ?_) AllReadyH.nil
              obtain ⟨va12, vc12, x6, happ, hx, hkx⟩ := HX5.out.app [tb] (some ⟨B11, 0, none⟩) 1 1 (k + 1 + ins.length + 1) (one_lies HL11_5.out) rfl rfl (by omega)
              have HX6 := hide hx
              have HM6 := hide ((hkx X (by simp)).trans HM5.out)
              have HL4_6 := hide ((hkx B4 (by simp)).trans HL4_5.out)
              have HL11_6 := hide ((hkx B11 (by simp)).trans HL11_5.out)
              clear hx hkx
              refine (if_pos (by kernel_rfl)).mpr ?_
              refine wp_append_run happ _ _ rfl rfl rfl ?_
              simp only [Act.put, List.getElem_toArray, List.getElem_cons_succ, List.getElem_cons_zero, List.setIfInBounds_toArray, List.set_cons_zero, List.set_cons_succ]
              refine hK.out _ _ (two_cells HM6.out) (fun _ => ?_)
              clear hK K
              clear happ
              refine wpAnyH_ready (rs := [13]) (by kernel_rfl) (by simp) ?_
              refine AllReadyH.cons rfl (fun K hK => ?_) AllReadyH.nil
              go_simp
              refine hK.out _ _ (two_cells HM6.out) (fun _ => ?_)
              clear hK K
              refine wpAnyH_done (by kernel_rfl) ?_ _
              have HE : Hid (((gn : Int) :: (rs.length : Int) :: regsN rs) ++ [(ls.length : Int)] ++ lutsN (ls.take (q + 1)) = (((gn : Int) :: (rs.length : Int) :: regsN rs) ++ [(ls.length : Int)] ++ lutsN (ls.take q)) ++ [(ins.length : Int)] ++ ins ++ [tb]) := hide (by rw [HRN.out]; simp [lutN, List.append_assoc])
              have HXF := hide HX6.out.row
              have hk6 : k + 1 + ins.length + 1 ≤ 40003 + 6 * (q + 1) := by omega
              go_wp2_with fail
              exact ⟨⟨q + 1, k + 1 + ins.length + 1, va12, vc12, by omega, by go_num, rfl, hk6, hide (by rw [HE.out]; exact HXF.out)⟩, by simp [intOf]; omega⟩
          · skip
            go_simp
            have HX2 := hide (HX1.out.add (.cells #[.int .i64 tb] 3))
            have HM2 := hide (Below.blk (below_alloc x1 (.cells #[.int .i64 tb] 3)) HM1.out)
            have HL11_2 := hide (blk_new x1 (.cells #[.int .i64 tb] 3))
            generalize x1.alloc (.cells #[.int .i64 tb] 3) = x2 at *
            generalize x1.heap.size = B11 at *
            refine hK.out _ _ (two_cells HM2.out) (fun _ => ?_)
            clear hK K
            refine wpAnyH_ready (rs := [4]) (by kernel_rfl) (by simp) ?_
            refine AllReadyH.cons rfl (fun K hK => ?_) AllReadyH.nil
            go_simp
            have HX3 := hide (HX2.out.add (.cells #[.int .i64 ins.length] 3))
            have HM3 := hide (Below.blk (below_alloc x2 (.cells #[.int .i64 ins.length] 3)) HM2.out)
            have HL4_3 := hide (blk_new x2 (.cells #[.int .i64 ins.length] 3))
            have HL11_3 := hide (Below.blk (below_alloc x2 (.cells #[.int .i64 ins.length] 3)) HL11_2.out)
            generalize x2.alloc (.cells #[.int .i64 ins.length] 3) = x3 at *
            generalize x2.heap.size = B4 at *
            refine hK.out _ _ (two_cells HM3.out) (fun _ => ?_)
            clear hK K
            refine wpAnyH_ready (rs := [5]) (by kernel_rfl) (by simp) ?_
            refine AllReadyH.cons rfl (fun K hK => ?_) AllReadyH.nil
            obtain ⟨va5, vc5, x4, happ, hx, hkx⟩ := HX3.out.app [(ins.length : Int)] (some ⟨B4, 0, none⟩) 1 1 (k + 1) (one_lies HL4_3.out) rfl rfl (by omega)
            have HX4 := hide hx
            have HM4 := hide ((hkx X (by simp)).trans HM3.out)
            have HL11_4 := hide ((hkx B11 (by simp)).trans HL11_3.out)
            have HL4_4 := hide ((hkx B4 (by simp)).trans HL4_3.out)
            clear hx hkx
            refine (if_pos (by kernel_rfl)).mpr ?_
            refine wp_append_run happ _ _ rfl rfl rfl ?_
            simp only [Act.put, List.getElem_toArray, List.getElem_cons_succ, List.getElem_cons_zero, List.setIfInBounds_toArray, List.set_cons_zero, List.set_cons_succ]
            refine hK.out _ _ (two_cells HM4.out) (fun _ => ?_)
            clear hK K
            clear happ
            refine wpAnyH_ready (rs := [8]) (by kernel_rfl) (by simp) ?_
            refine AllReadyH.cons rfl (fun K hK => ?_) AllReadyH.nil
            obtain ⟨va8, vc8, x5, happ, hx, hkx⟩ := HX4.out.app ins (s.A q) (s.C q) ins.length (k + 1 + ins.length) (HI0.out _ HX4.out.row.row.below) rfl rfl (by omega)
            have HX5 := hide hx
            have HM5 := hide ((hkx X (by simp)).trans HM4.out)
            have HL11_5 := hide ((hkx B11 (by simp)).trans HL11_4.out)
            have HL4_5 := hide ((hkx B4 (by simp)).trans HL4_4.out)
            clear hx hkx
            refine (if_pos (by kernel_rfl)).mpr ?_
            refine wp_append_run happ _ _ rfl rfl rfl ?_
            simp only [Act.put, List.getElem_toArray, List.getElem_cons_succ, List.getElem_cons_zero, List.setIfInBounds_toArray, List.set_cons_zero, List.set_cons_succ]
            refine hK.out _ _ (two_cells HM5.out) (fun _ => ?_)
            clear hK K
            clear happ
            refine wpAnyH_ready (rs := [12]) (by kernel_rfl) (by simp) ?_
            refine AllReadyH.cons rfl (fun K hK => ?_) AllReadyH.nil
            obtain ⟨va12, vc12, x6, happ, hx, hkx⟩ := HX5.out.app [tb] (some ⟨B11, 0, none⟩) 1 1 (k + 1 + ins.length + 1) (one_lies HL11_5.out) rfl rfl (by omega)
            have HX6 := hide hx
            have HM6 := hide ((hkx X (by simp)).trans HM5.out)
            have HL11_6 := hide ((hkx B11 (by simp)).trans HL11_5.out)
            have HL4_6 := hide ((hkx B4 (by simp)).trans HL4_5.out)
            clear hx hkx
            refine (if_pos (by kernel_rfl)).mpr ?_
            refine wp_append_run happ _ _ rfl rfl rfl ?_
            simp only [Act.put, List.getElem_toArray, List.getElem_cons_succ, List.getElem_cons_zero, List.setIfInBounds_toArray, List.set_cons_zero, List.set_cons_succ]
            refine hK.out _ _ (two_cells HM6.out) (fun _ => ?_)
            clear hK K
            clear happ
            refine wpAnyH_ready (rs := [13]) (by kernel_rfl) (by simp) ?_
            refine AllReadyH.cons rfl (fun K hK => ?_) AllReadyH.nil
            go_simp
            refine hK.out _ _ (two_cells HM6.out) (fun _ => ?_)
            clear hK K
            refine wpAnyH_done (by kernel_rfl) ?_ _
            have HE : Hid (((gn : Int) :: (rs.length : Int) :: regsN rs) ++ [(ls.length : Int)] ++ lutsN (ls.take (q + 1)) = (((gn : Int) :: (rs.length : Int) :: regsN rs) ++ [(ls.length : Int)] ++ lutsN (ls.take q)) ++ [(ins.length : Int)] ++ ins ++ [tb]) := hide (by rw [HRN.out]; simp [lutN, List.append_assoc])
            have HXF := hide HX6.out.row
            have hk6 : k + 1 + ins.length + 1 ≤ 40003 + 6 * (q + 1) := by omega
            go_wp2_with fail
            exact ⟨⟨q + 1, k + 1 + ins.length + 1, va12, vc12, by omega, by go_num, rfl, hk6, hide (by rw [HE.out]; exact HXF.out)⟩, by simp [intOf]; omega⟩
        · have HROW : Hid (RowI w wr va vc k (((gn : Int) :: (rs.length : Int) :: regsN rs) ++ [(ls.length : Int)] ++ lutsN ls)) := hide (by
            have e : q = ls.length := by omega
            have := hrow.out
            rwa [e, List.take_length] at this)
          clear hrow
          have HX0 := hide (RowX.begin HROW.out)
          go_wp2_with fail
          refine wp_region_held_drew (S := fun W => W.cell? ⟨s.p, 3, none⟩ = some (.slice s.oa os.length s.oc)) (by kernel_rfl) (HNW.out _ HX0.out.row.row.below).c3 (fun _ => ?_)
          have HX1 := hide HX0.out.drew
          generalize wr.drew = x1 at *
          refine wpAnyH_take (i := 0) (oi := ⟨some 66, _, _, _, _, _⟩) (v := (.slice va k vc)) rfl (by kernel_rfl) (by kernel_rfl) (by kernel_rfl) (fun _ _ _ h => h) (Or.inl ⟨by rfl, fun W hS => by (have s0 := hS; go_simp)⟩) (HNW.out _ HX1.out.row.row.below).c3 ?_
          simp only [Act.put, List.setIfInBounds_toArray, List.set_cons_zero, List.set_cons_succ]
          refine wpAnyH_take (i := 1) (oi := ⟨some 67, _, _, _, _, _⟩) (v := ((.pointer (some ⟨s.p, 0, none⟩)))) rfl (by kernel_rfl) (by kernel_rfl) (by kernel_rfl) (fun _ _ _ h => h) (Or.inl ⟨by rfl, fun W hS => by (have s0 := hS; go_simp)⟩) (HNW.out _ HX1.out.row.row.below).c3 ?_
          simp only [Act.put, List.setIfInBounds_toArray, List.set_cons_zero, List.set_cons_succ]
          refine wpAnyH_take (i := 8) (oi := ⟨some 74, _, _, _, _, _⟩) (v := ((.pointer (some ⟨s.p, 0, none⟩)))) rfl (by kernel_rfl) (by kernel_rfl) (by kernel_rfl) (fun _ _ _ h => h) (Or.inl ⟨by rfl, fun W hS => by (have s0 := hS; go_simp)⟩) (HNW.out _ HX1.out.row.row.below).c3 ?_
          simp only [Act.put, List.setIfInBounds_toArray, List.set_cons_zero, List.set_cons_succ]
          refine wpAnyH_take (i := 2) (oi := ⟨some 68, _, _, _, _, _⟩) (v := ((.pointer (some ⟨s.p, 0, none⟩)))) rfl (by kernel_rfl) (by kernel_rfl) (by kernel_rfl) (fun _ _ _ h => h) (Or.inl ⟨by rfl, fun W hS => by (have s0 := hS; go_simp)⟩) (HNW.out _ HX1.out.row.row.below).c3 ?_
          simp only [Act.put, List.setIfInBounds_toArray, List.set_cons_zero, List.set_cons_succ]
          refine wpAnyH_take (i := 9) (oi := ⟨some 75, _, _, _, _, _⟩) (v := ((.pointer (some ⟨s.p, 0, none⟩)))) rfl (by kernel_rfl) (by kernel_rfl) (by kernel_rfl) (fun _ _ _ h => h) (Or.inl ⟨by rfl, fun W hS => by (have s0 := hS; go_simp)⟩) (HNW.out _ HX1.out.row.row.below).c3 ?_
          simp only [Act.put, List.setIfInBounds_toArray, List.set_cons_zero, List.set_cons_succ]
          refine wpAnyH_take (i := 3) (oi := ⟨some 69, _, _, _, _, _⟩) (v := ((.pointer (some ⟨s.p, 3, none⟩)))) rfl (by kernel_rfl) (by kernel_rfl) (by kernel_rfl) (fun _ _ _ h => h) (Or.inl ⟨by rfl, fun W hS => by (have s0 := hS; go_simp)⟩) (HNW.out _ HX1.out.row.row.below).c3 ?_
          simp only [Act.put, List.setIfInBounds_toArray, List.set_cons_zero, List.set_cons_succ]
          refine wpAnyH_take (i := 10) (oi := ⟨some 76, _, _, _, _, _⟩) (v := ((.pointer (some ⟨s.p, 3, none⟩)))) rfl (by kernel_rfl) (by kernel_rfl) (by kernel_rfl) (fun _ _ _ h => h) (Or.inl ⟨by rfl, fun W hS => by (have s0 := hS; go_simp)⟩) (HNW.out _ HX1.out.row.row.below).c3 ?_
          simp only [Act.put, List.setIfInBounds_toArray, List.set_cons_zero, List.set_cons_succ]
          refine wpAnyH_take (i := 4) (oi := ⟨some 70, _, _, _, _, _⟩) (v := (.slice s.oa os.length s.oc)) rfl (by kernel_rfl) (by kernel_rfl) (by kernel_rfl) (fun _ _ _ h => h) (Or.inl ⟨by rfl, fun W hS => by (have s0 := hS; go_simp)⟩) (HNW.out _ HX1.out.row.row.below).c3 ?_
          simp only [Act.put, List.setIfInBounds_toArray, List.set_cons_zero, List.set_cons_succ]
          refine wpAnyH_take (i := 11) (oi := ⟨some 77, _, _, _, _, _⟩) (v := (.slice s.oa os.length s.oc)) rfl (by kernel_rfl) (by kernel_rfl) (by kernel_rfl) (fun _ _ _ h => h) (Or.inl ⟨by rfl, fun W hS => by (have s0 := hS; go_simp)⟩) (HNW.out _ HX1.out.row.row.below).c3 ?_
          simp only [Act.put, List.setIfInBounds_toArray, List.set_cons_zero, List.set_cons_succ]
          refine wpAnyH_take (i := 5) (oi := ⟨some 71, _, _, _, _, _⟩) (v := (.int .i64 os.length)) rfl (by kernel_rfl) (by kernel_rfl) (by kernel_rfl) (fun _ _ _ h => h) (Or.inl ⟨by rfl, fun W hS => by (have s0 := hS; go_simp)⟩) (HNW.out _ HX1.out.row.row.below).c3 ?_
          simp only [Act.put, List.setIfInBounds_toArray, List.set_cons_zero, List.set_cons_succ]
          have HX2 := hide (HX1.out.more (below_alloc x1 (.cells #[.int .i64 os.length] 3)))
          have HL2 := hide (blk_new x1 (.cells #[.int .i64 os.length] 3))
          refine wpAnyH_ready (rs := [6]) (by kernel_rfl) (by simp) ?_
          refine AllReadyH.cons rfl (fun K hK => ?_) AllReadyH.nil
          go_simp
          generalize x1.alloc (.cells #[.int .i64 os.length] 3) = x2 at *
          generalize x1.heap.size = B2 at *
          refine hK.out _ _ (HNW.out _ HX2.out.row.row.below).c3 (fun _ => ?_)
          clear hK K
          obtain ⟨va3, vc3, x3, happ, hx, -⟩ := HX2.out.app [(os.length : Int)] (some ⟨B2, 0, none⟩) 1 1 (k + 1) (one_lies HL2.out) rfl rfl (by omega)
          have HX3 := hide hx
          clear hx
          refine wpAnyH_ready (rs := [7]) (by kernel_rfl) (by simp) ?_
          refine AllReadyH.cons rfl (fun K hK => ?_) AllReadyH.nil
          refine (if_pos (by kernel_rfl)).mpr ?_
          refine wp_append_run happ _ _ rfl rfl rfl ?_
          simp only [Act.put, List.getElem_toArray, List.getElem_cons_succ, List.getElem_cons_zero, List.setIfInBounds_toArray, List.set_cons_zero, List.set_cons_succ]
          refine hK.out _ _ (HNW.out _ HX3.out.row.row.below).c3 (fun _ => ?_)
          clear hK K
          clear happ
          obtain ⟨va4, vc4, x4, happ, hx, -⟩ := HX3.out.app os s.oa s.oc os.length (k + 1 + os.length) (HNW.out _ HX3.out.row.row.below).outs.any rfl rfl (by omega)
          have HX4 := hide hx
          clear hx
          refine wpAnyH_ready (rs := [12]) (by kernel_rfl) (by simp) ?_
          refine AllReadyH.cons rfl (fun K hK => ?_) AllReadyH.nil
          refine (if_pos (by kernel_rfl)).mpr ?_
          refine wp_append_run happ _ _ rfl rfl rfl ?_
          simp only [Act.put, List.getElem_toArray, List.getElem_cons_succ, List.getElem_cons_zero, List.setIfInBounds_toArray, List.set_cons_zero, List.set_cons_succ]
          refine hK.out _ _ (HNW.out _ HX4.out.row.row.below).c3 (fun _ => ?_)
          clear hK K
          clear happ
          refine wpAnyH_ready (rs := [13]) (by kernel_rfl) (by simp) ?_
          refine AllReadyH.cons rfl (fun K hK => ?_) AllReadyH.nil
          go_simp
          refine hK.out _ _ (HNW.out _ HX4.out.row.row.below).c3 (fun _ => ?_)
          clear hK K
          refine wpAnyH_done (by kernel_rfl) ?_ _
          have HE : Hid ((((gn : Int) :: (rs.length : Int) :: regsN rs) ++ [(ls.length : Int)] ++ lutsN ls) ++ [(os.length : Int)] ++ os = netN gn rs ls os) := hide (by simp [netN, List.append_assoc])
          have HF : Hid (RowI w x4 va4 vc4 (k + 1 + os.length) (netN gn rs ls os)) := hide (by have := HX4.out.row; rwa [HE.out] at this)
          have HKE : Hid (k + 1 + os.length = (netN gn rs ls os).length) := hide HF.out.len.symm
          go_wp2_with fail
          go_ret
          rw [HKE.out]
          exact ⟨va4, vc4, rfl, HKE.out ▸ HF.out⟩
end Go.Proofs.YtndpehjbepfbkaaGreatDoor
