/-
  CONTRACT of the reference's ParseImage.
-/
import Derived.Test.YtndpehjbepfbkaaGreatDoorRRow
import Derived.Test.YtndpehjbepfbkaaGreatDoorLCop
import Derived.Test.YtndpehjbepfbkaaGreatDoorRWr
import Derived.Test.YtndpehjbepfbkaaGreatDoorIPa
import Derived.Deep.DeepCutAuto
set_option linter.unusedSimpArgs false
set_option linter.unusedVariables false
namespace Go.Proofs.YtndpehjbepfbkaaGreatDoor
open Go.RowKit

/-- what the reference's ParseImage comes to -/
def ParsedR (l : List UInt8) (B : Nat) (e : Ending) (w' : World) : Prop :=
  ∃ (given : Nat) (rs : List Rg) (ls : List Lt) (os : List Int) (t : Tk), NetQd l given rs ls os t ∧
    ((RightT given rs ls os ∧ netB given rs ls os = l ∧ ∃ (ra la oa : Option Addr) (rc lc oc : Nat) (A : Nat → Option Addr) (C : Nat → Nat), e = .returned (.tuple #[.agg #[.int .i64 given, .slice ra rs.length rc, .slice la ls.length lc, .slice oa os.length oc], .int .i64 0]) ∧ Lies (FromB B) w' ra (rgsC rs) ∧ LutsAt (FromB B) w' la A C ls ∧ Lies (FromB B) w' oa (intsC os)) ∨
      ((t ≠ ([], false) ∨ rightT given rs ls os = false ∨ netB given rs ls os ≠ l) ∧ e = .returned (.tuple #[.agg #[.int .i64 0, .slice none 0 0, .slice none 0 0, .slice none 0 0], .int .i64 3])))
theorem Below.ofS {S : Nat → Prop} {B : Nat} {w0 w w' : World} (h : Below B w0 w) (hB : B ≤ w.heap.size) (hk : KeptS S w w') (hS : ∀ b, S b → B ≤ b) : Below B w0 w' :=
  ⟨hk.os.trans h.os, hk.tape.trans h.tape, hk.output.trans h.output, Nat.le_trans h.size hk.size, fun k hl => (hk.block k (Nat.lt_of_lt_of_le hl hB) fun hs => by have := hS k hs; omega).trans (h.block k hl)⟩

set_option maxRecDepth 100000 in
set_option maxHeartbeats 25600000 in
theorem rparse_at (l : List UInt8) (w : World) (hl : l.length ≤ 500) :
    Calls Tryz.prog 15 #[.string ⟨l.toArray⟩] w fun e w' => ParsedR l w.heap.size e w' ∧ Below w.heap.size w w' := by
  have HWB := hide (Below.step (below_alloc w (.cells #[.int .i64 0, .slice none 0 0, .slice none 0 0, .slice none 0 0] 44)) (below_alloc (w.alloc (.cells #[.int .i64 0, .slice none 0 0, .slice none 0 0, .slice none 0 0] 44)) (.cells #[.string ⟨l.toArray⟩, .bool false] 91)))
  have HQ0 : Hid (((w.alloc (.cells #[.int .i64 0, .slice none 0 0, .slice none 0 0, .slice none 0 0] 44)).alloc (.cells #[.string ⟨l.toArray⟩, .bool false] 91)).heap[w.heap.size]? = some (.cells #[.int .i64 0, .slice none 0 0, .slice none 0 0, .slice none 0 0] 44 (0, 0))) := hide (Below.blk (below_alloc _ _) (blk_new _ _))
  have HT0 : Hid (TkAt (w.heap.size + 1) (l, false) ((w.alloc (.cells #[.int .i64 0, .slice none 0 0, .slice none 0 0, .slice none 0 0] 44)).alloc (.cells #[.string ⟨l.toArray⟩, .bool false] 91))) := hide (by
    have := blk_new (w.alloc (.cells #[.int .i64 0, .slice none 0 0, .slice none 0 0, .slice none 0 0] 44)) (.cells #[.string ⟨l.toArray⟩, .bool false] 91)
    rwa [show (w.alloc (.cells #[.int .i64 0, .slice none 0 0, .slice none 0 0, .slice none 0 0] 44)).heap.size = w.heap.size + 1 by simp] at this)
  have hTl := blk_lt HT0.out
  go_enter Tryz.func15, Tryz.ntmps15
  go_wp2_with fail
  generalize (w.alloc (.cells #[.int .i64 0, .slice none 0 0, .slice none 0 0, .slice none 0 0] 44)).alloc (.cells #[.string ⟨l.toArray⟩, .bool false] 91) = wb at *
  generalize hTe : w.heap.size + 1 = T at *
  have HTE : Hid (w.heap.size < T) := hide (by omega)
  clear hTe
  refine (rnum_at T (l, false) ALL wb HT0.out (by simp only; omega)).mono ?_
  rintro e w1 ⟨rfl, ht1, hk1⟩
  have HGV := hide (numR_lt ALL (l, false))
  have hle0 := (numR_len ALL (l, false)).1
  generalize hn0 : numR ALL (l, false) = n0 at *
  have HN0 := hide hn0
  clear hn0
  obtain ⟨gv, s1⟩ := n0
  simp only at ht1 HGV hle0
  have HB1 := hide (below_alloc w1 (.cells #[.int .i64 gv, .slice none 0 0, .slice none 0 0, .slice none 0 0] 44))
  have HT2 : Hid (TkAt T s1 (w1.alloc (.cells #[.int .i64 gv, .slice none 0 0, .slice none 0 0, .slice none 0 0] 44))) := hide (ht1.below HB1.out)
  have HP2 : Hid (NetBR w1.heap.size gv none 0 0 none 0 0 none 0 0 (w1.alloc (.cells #[.int .i64 gv, .slice none 0 0, .slice none 0 0, .slice none 0 0] 44))) := hide (blk_new _ _)
  have HQ2 : Hid ((w1.alloc (.cells #[.int .i64 gv, .slice none 0 0, .slice none 0 0, .slice none 0 0] 44)).heap[w.heap.size]? = some (.cells #[.int .i64 0, .slice none 0 0, .slice none 0 0, .slice none 0 0] 44 (0, 0))) := hide (Below.blk HB1.out (hk1.blk HQ0.out (by have := HTE.out; omega)))
  have HBW2 : Hid (Below w.heap.size w (w1.alloc (.cells #[.int .i64 gv, .slice none 0 0, .slice none 0 0, .slice none 0 0] 44))) := hide ((Below.keptOn HWB.out hk1 (by have := HTE.out; omega) HWB.out.size).trans (HB1.out.mono (Nat.le_trans HWB.out.size hk1.size)))
  have HPT : Hid (w1.heap.size ≠ T) := hide (by have := hk1.size; omega)
  have HPW : Hid (w.heap.size < w1.heap.size) := hide (by have := hk1.size; have := HTE.out; omega)
  have hPl : w1.heap.size < (w1.alloc (.cells #[.int .i64 gv, .slice none 0 0, .slice none 0 0, .slice none 0 0] 44)).heap.size := by simp
  clear ht1 hk1 HB1 HWB HQ0 HT0 hTl
  go_wp2_with fail
  generalize w1.alloc (.cells #[.int .i64 gv, .slice none 0 0, .slice none 0 0, .slice none 0 0] 44) = w2 at *
  generalize w1.heap.size = P at *
  refine (rnum_at T s1 ALL w2 HT2.out (by omega)).mono ?_
  rintro e w3 ⟨rfl, ht3, hk3⟩
  have HK1L := hide (numR_lt ALL s1)
  have hle1 := (numR_len ALL s1).1
  generalize hn1 : numR ALL s1 = n1 at *
  have HN1 := hide hn1
  clear hn1
  obtain ⟨k1, s2⟩ := n1
  simp only at ht3 HK1L hle1
  have hk1l := HK1L.out
  have HT3 := hide ht3
  have HP3 := hide (HP2.out.other (hk3.block P hPl HPT.out))
  have HQ3 := hide (hk3.blk HQ2.out (by have := HTE.out; omega))
  have HBW3 := hide (Below.keptOn HBW2.out hk3 (by have := HTE.out; omega) HBW2.out.size)
  have HS : Hid (∀ b, TwoB T P b → b < w3.heap.size) := hide fun b hb => by
    have h1 := hk3.size
    rcases hb with rfl | rfl
    · exact blk_lt ht3
    · omega
  have HSG : Hid (∀ b, TwoB T P b → w.heap.size < b) := hide fun b hb => by
    rcases hb with rfl | rfl
    · exact HTE.out
    · exact HPW.out
  clear ht3 hk3 HT2 HP2 HQ2 HBW2 hPl
  go_wp2_with fail
  go_loopw [6, 7] (fun k _ wr => ∃ (q m : Nat) (va : Option Addr) (vc : Nat), k = .int .i64 m ∧ m ≤ 5000000000000 ∧ q ≤ 501 ∧ Hid (m + q = k1) ∧ Hid (RowS (TwoB T P) 51 2 w3 wr va vc q (rgsC (regsQ s2 q).1)) ∧ Hid (TkAt T (regsQ s2 q).2 wr) ∧ Hid (NetBR P gv va q vc none 0 0 none 0 0 wr)) (fun k _ _ => (intOf k).toNat)
  case atStart => exact ⟨0, k1, none, 0, rfl, by omega, by omega, hide rfl, hide (RowS.none _ _ _ _), HT3, HP3⟩
  case round =>
    obtain ⟨q, m, va, vc, rfl, hm, hq, hmq, hrow, ht, hnb⟩ := hrel
    clear HT3 HP3
    have hlq := (regsQ_left s2 q).1
    have HLQ := hide (regsQ_left s2 q).2
    have HSU : Hid ((regsQ s2 (q + 1)).1 = (regsQ s2 q).1 ++ [⟨(numR 1 (regsQ s2 q).2).1 == 1, ((numR ALL (numR 1 (regsQ s2 q).2).2).1 : Int)⟩] ∧ (regsQ s2 (q + 1)).2 = (numR ALL (numR 1 (regsQ s2 q).2).2).2) := hide ⟨rfl, rfl⟩
    have HSE : Hid (((regsQ s2 q).1, (regsQ s2 q).2) = regsQ s2 q) := hide rfl
    have HRL := hide (regsQ_len s2 q)
    generalize (regsQ s2 q).1 = rs1 at *
    generalize (regsQ s2 q).2 = t1 at *
    obtain ⟨lq, bq⟩ := t1
    simp only at hlq HLQ
    go_upto_region 4 with fail
    go_cut [30] from 22 to 44 (fun v wx => v = .bool (decide (0 < m) && !bq) ∧ wx = wr)
    case first =>
      have b1 := ht.out.c1
      simp only at b1
      by_cases hm0 : (0 : Int) < (m : Int)
      · have hdm : decide (0 < m) = true := decide_eq_true (by omega)
        go_wp2_with fail
        go_meet
        case rel => exact ⟨by rw [hdm]; simp, rfl⟩
      · have hdm : decide (0 < m) = false := decide_eq_false (by omega)
        go_wp2_with fail
        go_meet
        case rel => exact ⟨by rw [hdm]; simp, rfl⟩
    case rest =>
      obtain ⟨rfl, hwc⟩ := hcut
      have hwc := hwc.symm
      subst hwc
      cases hg : (decide (0 < m) && !bq) with
      | true =>
        have hm1 : 0 < m ∧ bq = false := by simpa using hg
        obtain ⟨hm0, rfl⟩ := hm1
        obtain ⟨m, rfl⟩ : ∃ m', m = m' + 1 := ⟨m - 1, by omega⟩
        clear hg hm0 HSE
        have hq5 := (HLQ.out rfl).1
        have HNA := hide (rnum_at T (lq, false) 1 wr ht.out (by simp only; omega))
        have hla := (numR_len 1 (lq, false)).1
        generalize numR 1 (lq, false) = na at *
        obtain ⟨n1, ta⟩ := na
        have HNC := hide (fun W (h : TkAt T ta W) => rnum_at T ta ALL W h (by simp only at hla; omega))
        simp only at HSU HNA
        generalize numR ALL ta = nb at *
        obtain ⟨n2, tb⟩ := nb
        simp only at HSU HNC
        clear ht HLQ
        go_wp2_with fail
        refine HNA.out.mono ?_
        rintro e wy ⟨rfl, hty, hky⟩
        have HTY := hide hty
        have HRY := hide (hrow.out.more (KeptS.one hky (Or.inl rfl)) HS.out)
        have HBY := hide (hnb.out.other (hky.block P (blk_lt hnb.out) HPT.out))
        clear hty hky hrow hnb HNA
        clear hla
        go_wp2_with fail
        have n1b : Hid (((n1 : Int) == 1) = (n1 == 1)) := hide (natI n1 1)
        refine wp_region_held_drew (S := fun _ => True) (by kernel_rfl) trivial (fun _ => ?_)
        have HW0 : Hid (RowS (TwoB T P) 51 2 w3 wy.drew va vc q (rgsC rs1)) := hide (HRY.out.more (KeptS.of (Below.refl _ _).drew) HS.out)
        have HR0 : Hid (TkAt T ta wy.drew) := hide (HTY.out.below (Below.refl _ _).drew)
        have HB0 : Hid (NetBR P gv va q vc none 0 0 none 0 0 wy.drew) := hide (HBY.out.other rfl)
        clear HRY HTY HBY
        generalize wy.drew = x0 at *
        refine wpAnyH_take (i := 0) (oi := ⟨some 35, _, _, _, _, _⟩) (v := (.pointer (some ⟨P, 1, none⟩))) rfl (by kernel_rfl) (by kernel_rfl) (by kernel_rfl) (fun _ _ _ h => h) (Or.inl ⟨by rfl, fun W hS => by (go_simp)⟩) trivial ?_
        simp only [Act.put, List.setIfInBounds_toArray, List.set_cons_zero, List.set_cons_succ]
        refine wpAnyH_take (i := 2) (oi := ⟨some 37, _, _, _, _, _⟩) (v := (.int .i64 n1)) rfl (by kernel_rfl) (by kernel_rfl) (by kernel_rfl) (fun _ _ _ h => h) (Or.inl ⟨by rfl, fun W hS => by (go_simp)⟩) trivial ?_
        simp only [Act.put, List.setIfInBounds_toArray, List.set_cons_zero, List.set_cons_succ]
        refine wpAnyH_take (i := 4) (oi := ⟨some 39, _, _, _, _, _⟩) (v := (.pointer (some ⟨T, 0, none⟩))) rfl (by kernel_rfl) (by kernel_rfl) (by kernel_rfl) (fun _ _ _ h => h) (Or.inl ⟨by rfl, fun W hS => by (go_simp)⟩) trivial ?_
        simp only [Act.put, List.setIfInBounds_toArray, List.set_cons_zero, List.set_cons_succ]
        refine wpAnyH_take (i := 3) (oi := ⟨some 38, _, _, _, _, _⟩) (v := (.bool ((n1 : Int) == 1))) rfl (by kernel_rfl) (by kernel_rfl) (by kernel_rfl) (fun _ _ _ h => h) (Or.inl ⟨by rfl, fun W hS => by (go_simp)⟩) trivial ?_
        simp only [Act.put, List.setIfInBounds_toArray, List.set_cons_zero, List.set_cons_succ]
        refine wpAnyH_ready (rs := [1, 5]) (by kernel_rfl) (by simp) ?_
        refine AllReadyH.cons rfl (fun K hK => ?_) (AllReadyH.cons rfl (fun K hK => ?_) AllReadyH.nil)
        · skip
          have k1 := HB0.out.c1
          go_simp
          clear k1
          refine hK.out _ _ trivial (fun _ => ?_)
          clear hK K
          refine wpAnyH_ready (rs := [5]) (by kernel_rfl) (by simp) ?_
          refine AllReadyH.cons rfl (fun K hK => ?_) AllReadyH.nil
          go_simp
          refine (HNC.out x0 HR0.out).mono ?_
          rintro e x1 ⟨rfl, hr1, hk1⟩
          have HR1 := hide hr1
          have HW1 := hide (HW0.out.more (KeptS.one hk1 (Or.inl rfl)) HS.out)
          have HB1 := hide (HB0.out.other (hk1.block P (blk_lt HB0.out) HPT.out))
          clear hr1 hk1 HR0 HW0 HB0
          refine hK.out _ _ trivial (fun _ => ?_)
          clear hK K
          refine wpAnyH_ready (rs := [6]) (by kernel_rfl) (by simp) ?_
          refine AllReadyH.cons rfl (fun K hK => ?_) AllReadyH.nil
          go_simp
          refine hK.out _ _ trivial (fun _ => ?_)
          clear hK K
          refine wpAnyH_ready (rs := [7]) (by kernel_rfl) (by simp) ?_
          refine AllReadyH.cons rfl (fun K hK => ?_) AllReadyH.nil
          have HR2 : Hid (TkAt T tb (x1.alloc (.cells #[.bool ((n1 : Int) == 1), .int .i64 n2] 51))) := hide (HR1.out.below (below_alloc _ _))
          have HW2 := hide (HW1.out.more (KeptS.of (below_alloc x1 (.cells #[.bool ((n1 : Int) == 1), .int .i64 n2] 51))) HS.out)
          have HB2 := hide (HB1.out.other ((below_alloc x1 (.cells #[.bool ((n1 : Int) == 1), .int .i64 n2] 51)).block P (blk_lt HB1.out)))
          have HL3 : Hid (Lies AnyB (x1.alloc (.cells #[.bool ((n1 : Int) == 1), .int .i64 n2] 51)) (some ⟨x1.heap.size, 0, none⟩) [.bool ((n1 : Int) == 1), .int .i64 n2]) := hide (Lies.blk (cs := [.bool ((n1 : Int) == 1), .int .i64 n2]) (blk_new x1 (.cells #[.bool ((n1 : Int) == 1), .int .i64 n2] 51)) trivial)
          go_simp
          generalize x1.alloc (.cells #[.bool ((n1 : Int) == 1), .int .i64 n2] 51) = x2 at *
          generalize x1.heap.size = B2 at *
          refine hK.out _ _ trivial (fun _ => ?_)
          clear hK K
          refine wpAnyH_ready (rs := [8]) (by kernel_rfl) (by simp) ?_
          refine AllReadyH.cons rfl (fun K hK => ?_) AllReadyH.nil
          obtain ⟨va2, vc2, x3, happ, hrow4, hnb4, hg⟩ := HW2.out.app (t := 41) info_rr (by decide) (by decide) rfl (by kernel_rfl) HS.out [.bool ((n1 : Int) == 1), .int .i64 n2] (some ⟨B2, 0, none⟩) 1 1 (q + 1) HL3.out rfl (by intro u hu; simp at hu; rcases hu with rfl | rfl <;> rfl) rfl (by omega)
          have HR3 : Hid (TkAt T tb x3) := hide (HR2.out.other (HW2.out.other hg (HS.out T (Or.inl rfl))))
          have HB3 := hide (HB2.out.other (HW2.out.other hg (HS.out P (Or.inr rfl))))
          have HW3 := hide hrow4
          clear hrow4 hnb4 hg HL3
          refine (if_pos (by kernel_rfl)).mpr ?_
          refine wp_append_run happ _ _ rfl rfl rfl ?_
          simp only [Act.put, List.getElem_toArray, List.getElem_cons_succ, List.getElem_cons_zero, List.setIfInBounds_toArray, List.set_cons_zero, List.set_cons_succ]
          refine hK.out _ _ trivial (fun _ => ?_)
          clear hK K
          clear happ
          refine wpAnyH_take (i := 9) (oi := ⟨some 44, _, _, _, _, _⟩) (v := (.pointer (some ⟨P, 1, none⟩))) rfl (by kernel_rfl) (by kernel_rfl) (by kernel_rfl) (fun _ _ _ h => h) (Or.inl ⟨by rfl, fun W hS => by (go_simp)⟩) trivial ?_
          simp only [Act.put, List.setIfInBounds_toArray, List.set_cons_zero, List.set_cons_succ]
          refine wpAnyH_ready (rs := [10]) (by kernel_rfl) (by simp) ?_
          refine AllReadyH.cons rfl (fun K hK => ?_) AllReadyH.nil
          have f4 : x3.frozen? ⟨P, 1, none⟩ = false := blk_frozen HB3.out 1
          have k4 := HB3.out.c1
          go_simp
          clear f4 k4
          refine hK.out _ _ trivial (fun _ => ?_)
          clear hK K
          refine wpAnyH_done (by kernel_rfl) ?_ _
          have HBF := hide (HB3.out.set1 va2 (q + 1) vc2)
          have HRF : Hid (TkAt T tb (x3.setCell ⟨P, 1, none⟩ (.slice va2 (q + 1) vc2))) := hide (HR3.out.other (Below.heap_setCell x3 ⟨P, 1, none⟩ _ T (fun e => HPT.out e.symm)))
          have HWF := hide (HW3.out.more ((KeptS.refl _ x3).set P 1 (.slice va2 (q + 1) vc2) (Or.inr rfl)) HS.out)
          go_wp2_with fail
          exact ⟨⟨q + 1, m, va2, vc2, by go_num, by omega, by omega, hide (by have := hmq.out; omega), hide (by rw [HSU.out.1, rgsC_snoc, ← n1b.out]; exact HWF.out), hide (by rw [HSU.out.2]; exact HRF.out), HBF⟩, by simp [intOf]⟩
        · skip
          go_simp
          refine (HNC.out x0 HR0.out).mono ?_
          rintro e x1 ⟨rfl, hr1, hk1⟩
          have HR1 := hide hr1
          have HW1 := hide (HW0.out.more (KeptS.one hk1 (Or.inl rfl)) HS.out)
          have HB1 := hide (HB0.out.other (hk1.block P (blk_lt HB0.out) HPT.out))
          clear hr1 hk1 HR0 HW0 HB0
          refine hK.out _ _ trivial (fun _ => ?_)
          clear hK K
          refine wpAnyH_ready (rs := [1, 6]) (by kernel_rfl) (by simp) ?_
          refine AllReadyH.cons rfl (fun K hK => ?_) (AllReadyH.cons rfl (fun K hK => ?_) AllReadyH.nil)
          · skip
            have k1 := HB1.out.c1
            go_simp
            clear k1
            refine hK.out _ _ trivial (fun _ => ?_)
            clear hK K
            refine wpAnyH_ready (rs := [6]) (by kernel_rfl) (by simp) ?_
            refine AllReadyH.cons rfl (fun K hK => ?_) AllReadyH.nil
            go_simp
            refine hK.out _ _ trivial (fun _ => ?_)
            clear hK K
            refine wpAnyH_ready (rs := [7]) (by kernel_rfl) (by simp) ?_
            refine AllReadyH.cons rfl (fun K hK => ?_) AllReadyH.nil
            have HR2 : Hid (TkAt T tb (x1.alloc (.cells #[.bool ((n1 : Int) == 1), .int .i64 n2] 51))) := hide (HR1.out.below (below_alloc _ _))
            have HW2 := hide (HW1.out.more (KeptS.of (below_alloc x1 (.cells #[.bool ((n1 : Int) == 1), .int .i64 n2] 51))) HS.out)
            have HB2 := hide (HB1.out.other ((below_alloc x1 (.cells #[.bool ((n1 : Int) == 1), .int .i64 n2] 51)).block P (blk_lt HB1.out)))
            have HL3 : Hid (Lies AnyB (x1.alloc (.cells #[.bool ((n1 : Int) == 1), .int .i64 n2] 51)) (some ⟨x1.heap.size, 0, none⟩) [.bool ((n1 : Int) == 1), .int .i64 n2]) := hide (Lies.blk (cs := [.bool ((n1 : Int) == 1), .int .i64 n2]) (blk_new x1 (.cells #[.bool ((n1 : Int) == 1), .int .i64 n2] 51)) trivial)
            go_simp
            generalize x1.alloc (.cells #[.bool ((n1 : Int) == 1), .int .i64 n2] 51) = x2 at *
            generalize x1.heap.size = B2 at *
            refine hK.out _ _ trivial (fun _ => ?_)
            clear hK K
            refine wpAnyH_ready (rs := [8]) (by kernel_rfl) (by simp) ?_
            refine AllReadyH.cons rfl (fun K hK => ?_) AllReadyH.nil
            obtain ⟨va2, vc2, x3, happ, hrow4, hnb4, hg⟩ := HW2.out.app (t := 41) info_rr (by decide) (by decide) rfl (by kernel_rfl) HS.out [.bool ((n1 : Int) == 1), .int .i64 n2] (some ⟨B2, 0, none⟩) 1 1 (q + 1) HL3.out rfl (by intro u hu; simp at hu; rcases hu with rfl | rfl <;> rfl) rfl (by omega)
            have HR3 : Hid (TkAt T tb x3) := hide (HR2.out.other (HW2.out.other hg (HS.out T (Or.inl rfl))))
            have HB3 := hide (HB2.out.other (HW2.out.other hg (HS.out P (Or.inr rfl))))
            have HW3 := hide hrow4
            clear hrow4 hnb4 hg HL3
            refine (if_pos (by kernel_rfl)).mpr ?_
            refine wp_append_run happ _ _ rfl rfl rfl ?_
            simp only [Act.put, List.getElem_toArray, List.getElem_cons_succ, List.getElem_cons_zero, List.setIfInBounds_toArray, List.set_cons_zero, List.set_cons_succ]
            refine hK.out _ _ trivial (fun _ => ?_)
            clear hK K
            clear happ
            refine wpAnyH_take (i := 9) (oi := ⟨some 44, _, _, _, _, _⟩) (v := (.pointer (some ⟨P, 1, none⟩))) rfl (by kernel_rfl) (by kernel_rfl) (by kernel_rfl) (fun _ _ _ h => h) (Or.inl ⟨by rfl, fun W hS => by (go_simp)⟩) trivial ?_
            simp only [Act.put, List.setIfInBounds_toArray, List.set_cons_zero, List.set_cons_succ]
            refine wpAnyH_ready (rs := [10]) (by kernel_rfl) (by simp) ?_
            refine AllReadyH.cons rfl (fun K hK => ?_) AllReadyH.nil
            have f4 : x3.frozen? ⟨P, 1, none⟩ = false := blk_frozen HB3.out 1
            have k4 := HB3.out.c1
            go_simp
            clear f4 k4
            refine hK.out _ _ trivial (fun _ => ?_)
            clear hK K
            refine wpAnyH_done (by kernel_rfl) ?_ _
            have HBF := hide (HB3.out.set1 va2 (q + 1) vc2)
            have HRF : Hid (TkAt T tb (x3.setCell ⟨P, 1, none⟩ (.slice va2 (q + 1) vc2))) := hide (HR3.out.other (Below.heap_setCell x3 ⟨P, 1, none⟩ _ T (fun e => HPT.out e.symm)))
            have HWF := hide (HW3.out.more ((KeptS.refl _ x3).set P 1 (.slice va2 (q + 1) vc2) (Or.inr rfl)) HS.out)
            go_wp2_with fail
            exact ⟨⟨q + 1, m, va2, vc2, by go_num, by omega, by omega, hide (by have := hmq.out; omega), hide (by rw [HSU.out.1, rgsC_snoc, ← n1b.out]; exact HWF.out), hide (by rw [HSU.out.2]; exact HRF.out), HBF⟩, by simp [intOf]⟩
          · skip
            go_simp
            refine hK.out _ _ trivial (fun _ => ?_)
            clear hK K
            refine wpAnyH_ready (rs := [1, 7]) (by kernel_rfl) (by simp) ?_
            refine AllReadyH.cons rfl (fun K hK => ?_) (AllReadyH.cons rfl (fun K hK => ?_) AllReadyH.nil)
            · skip
              have k1 := HB1.out.c1
              go_simp
              clear k1
              refine hK.out _ _ trivial (fun _ => ?_)
              clear hK K
              refine wpAnyH_ready (rs := [7]) (by kernel_rfl) (by simp) ?_
              refine AllReadyH.cons rfl (fun K hK => ?_) AllReadyH.nil
              have HR2 : Hid (TkAt T tb (x1.alloc (.cells #[.bool ((n1 : Int) == 1), .int .i64 n2] 51))) := hide (HR1.out.below (below_alloc _ _))
              have HW2 := hide (HW1.out.more (KeptS.of (below_alloc x1 (.cells #[.bool ((n1 : Int) == 1), .int .i64 n2] 51))) HS.out)
              have HB2 := hide (HB1.out.other ((below_alloc x1 (.cells #[.bool ((n1 : Int) == 1), .int .i64 n2] 51)).block P (blk_lt HB1.out)))
              have HL3 : Hid (Lies AnyB (x1.alloc (.cells #[.bool ((n1 : Int) == 1), .int .i64 n2] 51)) (some ⟨x1.heap.size, 0, none⟩) [.bool ((n1 : Int) == 1), .int .i64 n2]) := hide (Lies.blk (cs := [.bool ((n1 : Int) == 1), .int .i64 n2]) (blk_new x1 (.cells #[.bool ((n1 : Int) == 1), .int .i64 n2] 51)) trivial)
              go_simp
              generalize x1.alloc (.cells #[.bool ((n1 : Int) == 1), .int .i64 n2] 51) = x2 at *
              generalize x1.heap.size = B2 at *
              refine hK.out _ _ trivial (fun _ => ?_)
              clear hK K
              refine wpAnyH_ready (rs := [8]) (by kernel_rfl) (by simp) ?_
              refine AllReadyH.cons rfl (fun K hK => ?_) AllReadyH.nil
              obtain ⟨va2, vc2, x3, happ, hrow4, hnb4, hg⟩ := HW2.out.app (t := 41) info_rr (by decide) (by decide) rfl (by kernel_rfl) HS.out [.bool ((n1 : Int) == 1), .int .i64 n2] (some ⟨B2, 0, none⟩) 1 1 (q + 1) HL3.out rfl (by intro u hu; simp at hu; rcases hu with rfl | rfl <;> rfl) rfl (by omega)
              have HR3 : Hid (TkAt T tb x3) := hide (HR2.out.other (HW2.out.other hg (HS.out T (Or.inl rfl))))
              have HB3 := hide (HB2.out.other (HW2.out.other hg (HS.out P (Or.inr rfl))))
              have HW3 := hide hrow4
              clear hrow4 hnb4 hg HL3
              refine (if_pos (by kernel_rfl)).mpr ?_
              refine wp_append_run happ _ _ rfl rfl rfl ?_
              simp only [Act.put, List.getElem_toArray, List.getElem_cons_succ, List.getElem_cons_zero, List.setIfInBounds_toArray, List.set_cons_zero, List.set_cons_succ]
              refine hK.out _ _ trivial (fun _ => ?_)
              clear hK K
              clear happ
              refine wpAnyH_take (i := 9) (oi := ⟨some 44, _, _, _, _, _⟩) (v := (.pointer (some ⟨P, 1, none⟩))) rfl (by kernel_rfl) (by kernel_rfl) (by kernel_rfl) (fun _ _ _ h => h) (Or.inl ⟨by rfl, fun W hS => by (go_simp)⟩) trivial ?_
              simp only [Act.put, List.setIfInBounds_toArray, List.set_cons_zero, List.set_cons_succ]
              refine wpAnyH_ready (rs := [10]) (by kernel_rfl) (by simp) ?_
              refine AllReadyH.cons rfl (fun K hK => ?_) AllReadyH.nil
              have f4 : x3.frozen? ⟨P, 1, none⟩ = false := blk_frozen HB3.out 1
              have k4 := HB3.out.c1
              go_simp
              clear f4 k4
              refine hK.out _ _ trivial (fun _ => ?_)
              clear hK K
              refine wpAnyH_done (by kernel_rfl) ?_ _
              have HBF := hide (HB3.out.set1 va2 (q + 1) vc2)
              have HRF : Hid (TkAt T tb (x3.setCell ⟨P, 1, none⟩ (.slice va2 (q + 1) vc2))) := hide (HR3.out.other (Below.heap_setCell x3 ⟨P, 1, none⟩ _ T (fun e => HPT.out e.symm)))
              have HWF := hide (HW3.out.more ((KeptS.refl _ x3).set P 1 (.slice va2 (q + 1) vc2) (Or.inr rfl)) HS.out)
              go_wp2_with fail
              exact ⟨⟨q + 1, m, va2, vc2, by go_num, by omega, by omega, hide (by have := hmq.out; omega), hide (by rw [HSU.out.1, rgsC_snoc, ← n1b.out]; exact HWF.out), hide (by rw [HSU.out.2]; exact HRF.out), HBF⟩, by simp [intOf]⟩
            · skip
              have HR2 : Hid (TkAt T tb (x1.alloc (.cells #[.bool ((n1 : Int) == 1), .int .i64 n2] 51))) := hide (HR1.out.below (below_alloc _ _))
              have HW2 := hide (HW1.out.more (KeptS.of (below_alloc x1 (.cells #[.bool ((n1 : Int) == 1), .int .i64 n2] 51))) HS.out)
              have HB2 := hide (HB1.out.other ((below_alloc x1 (.cells #[.bool ((n1 : Int) == 1), .int .i64 n2] 51)).block P (blk_lt HB1.out)))
              have HL3 : Hid (Lies AnyB (x1.alloc (.cells #[.bool ((n1 : Int) == 1), .int .i64 n2] 51)) (some ⟨x1.heap.size, 0, none⟩) [.bool ((n1 : Int) == 1), .int .i64 n2]) := hide (Lies.blk (cs := [.bool ((n1 : Int) == 1), .int .i64 n2]) (blk_new x1 (.cells #[.bool ((n1 : Int) == 1), .int .i64 n2] 51)) trivial)
              go_simp
              generalize x1.alloc (.cells #[.bool ((n1 : Int) == 1), .int .i64 n2] 51) = x2 at *
              generalize x1.heap.size = B2 at *
              refine hK.out _ _ trivial (fun _ => ?_)
              clear hK K
              refine wpAnyH_ready (rs := [1]) (by kernel_rfl) (by simp) ?_
              refine AllReadyH.cons rfl (fun K hK => ?_) AllReadyH.nil
              have k1 := HB2.out.c1
              go_simp
              clear k1
              refine hK.out _ _ trivial (fun _ => ?_)
              clear hK K
              refine wpAnyH_ready (rs := [8]) (by kernel_rfl) (by simp) ?_
              refine AllReadyH.cons rfl (fun K hK => ?_) AllReadyH.nil
              obtain ⟨va2, vc2, x3, happ, hrow4, hnb4, hg⟩ := HW2.out.app (t := 41) info_rr (by decide) (by decide) rfl (by kernel_rfl) HS.out [.bool ((n1 : Int) == 1), .int .i64 n2] (some ⟨B2, 0, none⟩) 1 1 (q + 1) HL3.out rfl (by intro u hu; simp at hu; rcases hu with rfl | rfl <;> rfl) rfl (by omega)
              have HR3 : Hid (TkAt T tb x3) := hide (HR2.out.other (HW2.out.other hg (HS.out T (Or.inl rfl))))
              have HB3 := hide (HB2.out.other (HW2.out.other hg (HS.out P (Or.inr rfl))))
              have HW3 := hide hrow4
              clear hrow4 hnb4 hg HL3
              refine (if_pos (by kernel_rfl)).mpr ?_
              refine wp_append_run happ _ _ rfl rfl rfl ?_
              simp only [Act.put, List.getElem_toArray, List.getElem_cons_succ, List.getElem_cons_zero, List.setIfInBounds_toArray, List.set_cons_zero, List.set_cons_succ]
              refine hK.out _ _ trivial (fun _ => ?_)
              clear hK K
              clear happ
              refine wpAnyH_take (i := 9) (oi := ⟨some 44, _, _, _, _, _⟩) (v := (.pointer (some ⟨P, 1, none⟩))) rfl (by kernel_rfl) (by kernel_rfl) (by kernel_rfl) (fun _ _ _ h => h) (Or.inl ⟨by rfl, fun W hS => by (go_simp)⟩) trivial ?_
              simp only [Act.put, List.setIfInBounds_toArray, List.set_cons_zero, List.set_cons_succ]
              refine wpAnyH_ready (rs := [10]) (by kernel_rfl) (by simp) ?_
              refine AllReadyH.cons rfl (fun K hK => ?_) AllReadyH.nil
              have f4 : x3.frozen? ⟨P, 1, none⟩ = false := blk_frozen HB3.out 1
              have k4 := HB3.out.c1
              go_simp
              clear f4 k4
              refine hK.out _ _ trivial (fun _ => ?_)
              clear hK K
              refine wpAnyH_done (by kernel_rfl) ?_ _
              have HBF := hide (HB3.out.set1 va2 (q + 1) vc2)
              have HRF : Hid (TkAt T tb (x3.setCell ⟨P, 1, none⟩ (.slice va2 (q + 1) vc2))) := hide (HR3.out.other (Below.heap_setCell x3 ⟨P, 1, none⟩ _ T (fun e => HPT.out e.symm)))
              have HWF := hide (HW3.out.more ((KeptS.refl _ x3).set P 1 (.slice va2 (q + 1) vc2) (Or.inr rfl)) HS.out)
              go_wp2_with fail
              exact ⟨⟨q + 1, m, va2, vc2, by go_num, by omega, by omega, hide (by have := hmq.out; omega), hide (by rw [HSU.out.1, rgsC_snoc, ← n1b.out]; exact HWF.out), hide (by rw [HSU.out.2]; exact HRF.out), HBF⟩, by simp [intOf]⟩
      | false =>
        have HEX1 : Hid (ExitQ q k1 (lq, bq)) := hide (by
          have h1 := hmq.out
          refine ⟨by omega, ?_⟩
          cases bq with
          | true => exact .inr rfl
          | false => left; simp at hg; omega)
        clear hg HSU HLQ hmq
        have HRG : Hid (∀ W, KeptS (TwoB T P) wr W → Lies (FromB T) W va (rgsC rs1)) := hide fun W hk => by
          have h1 := hrow.out.lies
          refine (h1.same fun b hb hl => hk.block b hl fun hs => ?_).imp fun b _ hb => ?_
          · have := HS.out b hs; unfold FromB at hb; omega
          · have := HS.out T (Or.inl rfl); unfold FromB at hb ⊢; omega
        have HBW4 := hide (Below.ofS HBW3.out HBW3.out.size hrow.out.kept fun b hb => Nat.le_of_lt (HSG.out b hb))
        have HQ4 := hide (hrow.out.kept.blk HQ3.out fun hs => Nat.lt_irrefl _ (HSG.out _ hs))
        have HS4 : Hid (∀ b, TwoB T P b → b < wr.heap.size) := hide fun b hb => Nat.lt_of_lt_of_le (HS.out b hb) hrow.out.kept.size
        have hrs501 := hq
        clear hrow HS HBW3 HQ3 hq hm
        generalize hs3 : (lq, bq) = s3 at *
        have hl3 : s3.1.length ≤ 500 := by rw [← hs3]; simp only; omega
        clear hs3 hlq
        have HNA := hide (rnum_at T s3 ALL wr ht.out (by omega))
        have HK2L := hide (numR_lt ALL s3)
        have hl4 := (numR_len ALL s3).1
        generalize hn2 : numR ALL s3 = n2 at *
        have HN2 := hide hn2
        clear hn2
        obtain ⟨k2, s4⟩ := n2
        simp only at HNA HK2L hl4
        have hk2l := HK2L.out
        go_wp2_with fail
        refine HNA.out.mono ?_
        rintro e w5 ⟨rfl, ht5, hk5⟩
        have HT5 := hide ht5
        have HP5 := hide (hnb.out.other (hk5.block P (blk_lt hnb.out) HPT.out))
        have HQ5 := hide (hk5.blk HQ4.out (by have := HTE.out; omega))
        have HBW5 := hide (Below.keptOn HBW4.out hk5 (by have := HTE.out; omega) HBW4.out.size)
        have HS5 : Hid (∀ b, TwoB T P b → b < w5.heap.size) := hide fun b hb => Nat.lt_of_lt_of_le (HS4.out b hb) hk5.size
        have HRG5 : Hid (∀ W, KeptS (TwoB T P) w5 W → Lies (FromB T) W va (rgsC rs1)) := hide fun W hk => HRG.out W ((KeptS.one hk5 (Or.inl rfl)).trans hk)
        clear ht5 hk5 ht hnb HQ4 HBW4 HS4 HRG HNA
        go_wp2_with fail
        go_loopw [8] (fun k wr => ∃ (m : Nat) (ya : Option Addr) (yc : Nat) (A : Nat → Option Addr) (C : Nat → Nat) (ls : List Lt) (t : Tk), k = .int .i64 m ∧ m ≤ 5000000000000 ∧ ls.length ≤ 501 ∧ Hid (m + ls.length = k2) ∧ Hid (LRowR (TwoB T P) w5 wr ya yc A C ls) ∧ Hid (TkAt T t wr) ∧ Hid (NetBR P gv va q vc ya ls.length yc none 0 0 wr) ∧ Hid (LutsQ s4 ls.length ls t) ∧ Hid (∀ l ∈ ls, l.ins.length ≤ 4)) (fun k _ => (intOf k).toNat)
        case atStart => exact ⟨k2, none, 0, fun _ => none, fun _ => 0, [], s4, rfl, by omega, by simp, hide rfl, hide (LRowR.none _ _), HT5, HP5, hide LutsQ.none, hide fun l hl => (by cases hl)⟩
        case round =>
          obtain ⟨m, ya, yc, A, C, ls, t1, rfl, hm, hq, hmq, hrow, ht, hnb, hrd, h4⟩ := hrel
          clear HT5 HP5
          have hlq := hrd.out.left.1
          have HLQ := hide hrd.out.left.2
          obtain ⟨lq, bq⟩ := t1
          simp only at hlq HLQ
          go_upto_region 9 with fail
          go_cut [55] from 47 to 86 (fun v wx => v = .bool (decide (0 < m) && !bq) ∧ wx = wr)
          case first =>
            have b1 := ht.out.c1
            simp only at b1
            by_cases hm0 : (0 : Int) < (m : Int)
            · have hdm : decide (0 < m) = true := decide_eq_true (by omega)
              go_wp2_with fail
              go_meet
              case rel => exact ⟨by rw [hdm]; simp, rfl⟩
            · have hdm : decide (0 < m) = false := decide_eq_false (by omega)
              go_wp2_with fail
              go_meet
              case rel => exact ⟨by rw [hdm]; simp, rfl⟩
          case rest =>
            obtain ⟨rfl, hwc⟩ := hcut
            have hwc := hwc.symm
            subst hwc
            cases hg : (decide (0 < m) && !bq) with
            | true =>
              have hm1 : 0 < m ∧ bq = false := by simpa using hg
              obtain ⟨hm0, rfl⟩ := hm1
              obtain ⟨m, rfl⟩ : ∃ m', m = m' + 1 := ⟨m - 1, by omega⟩
              clear hg hm0
              have hq5 := (HLQ.out rfl).1
              have HB0 := hide (below_alloc wr (.cells #[.slice none 0 0, .int .i64 0] 93))
              have HL0 : Hid (LtB wr.heap.size none 0 0 0 (wr.alloc (.cells #[.slice none 0 0, .int .i64 0] 93))) := hide (blk_new _ _)
              have HT0 : Hid (TkAt T (lq, false) (wr.alloc (.cells #[.slice none 0 0, .int .i64 0] 93))) := hide (ht.out.below HB0.out)
              have HNA := hide (rnum_at T (lq, false) 4 _ HT0.out (by simp only; omega))
              have HN4 := hide (numR_len 4 (lq, false))
              have HK3L := hide (numR_lt 4 (lq, false))
              have hla := (numR_len 4 (lq, false)).1
              generalize hn4 : numR 4 (lq, false) = n4 at *
              have HN4E := hide hn4
              clear hn4
              obtain ⟨k3, t2⟩ := n4
              simp only at HNA HN4 HK3L hla
              have hk3l := HK3L.out
              have HTL : Hid (wr.heap.size ≠ T) := hide (by have := blk_lt ht.out; omega)
              have HPL : Hid (P ≠ wr.heap.size) := hide (by have := blk_lt hnb.out; omega)
              have HLB : Hid (wr.heap.size < (wr.alloc (.cells #[.slice none 0 0, .int .i64 0] 93)).heap.size) := hide (by simp)
              clear HLQ
              go_wp2_with fail
              generalize wr.alloc (.cells #[.slice none 0 0, .int .i64 0] 93) = w6 at *
              generalize hLe : wr.heap.size = L at *
              have HLE := hide hLe
              clear hLe
              refine HNA.out.mono ?_
              rintro e w7 ⟨rfl, ht7, hk7⟩
              have HT7 := hide ht7
              have HL7 := hide (HL0.out.other (hk7.block L HLB.out HTL.out))
              have HK7 : Hid (KeptS (TwoB T L) wr w7) := hide ((KeptS.of (HLE.out ▸ HB0.out)).trans (KeptS.one hk7 (Or.inl rfl)))
              have HSI : Hid (∀ b, TwoB T L b → b < w7.heap.size) := hide fun b hb => by
                rcases hb with rfl | rfl
                · exact blk_lt ht7
                · exact Nat.lt_of_lt_of_le HLB.out hk7.size
              clear ht7 hk7 HNA HB0 HL0 HT0 HLB
              go_wp2_with fail
              have HROW := hrow; have HT := ht; have HNB := hnb; have HRD := hrd; have H4 := h4; have HMQ := hmq
              clear hrow ht hnb hrd h4 hmq
              generalize hwr : wr = wo at *
              clear hwr
              go_loopw [10] (fun k wr => ∃ (j m2 : Nat) (ia : Option Addr) (ic : Nat), k = .int .i64 m2 ∧ m2 ≤ 5000000000000 ∧ j ≤ 4 ∧ Hid (m2 + j = k3) ∧ Hid (RowS (TwoB T L) 3 1 w7 wr ia ic j (intsC (numsQ t2 j).1)) ∧ Hid (TkAt T (numsQ t2 j).2 wr) ∧ Hid (LtB L ia j ic 0 wr)) (fun k _ => (intOf k).toNat)
              case atStart => exact ⟨0, k3, none, 0, rfl, by omega, by omega, hide rfl, hide (RowS.none _ _ _ _), HT7, HL7⟩
              case round =>
                obtain ⟨j, m2, ia, ic, rfl, hm2, hj, hmj, hri, hti, hli⟩ := hrel
                clear HT7 HL7
                have hlj := (numsQ_left t2 j).1
                have HLJ := hide (numsQ_left t2 j).2
                have HSUI : Hid ((numsQ t2 (j + 1)).1 = (numsQ t2 j).1 ++ [((numR ALL (numsQ t2 j).2).1 : Int)] ∧ (numsQ t2 (j + 1)).2 = (numR ALL (numsQ t2 j).2).2) := hide ⟨rfl, rfl⟩
                have HSEI : Hid (((numsQ t2 j).1, (numsQ t2 j).2) = numsQ t2 j) := hide rfl
                have HJL := hide (numsQ_len t2 j)
                generalize (numsQ t2 j).1 = ins at *
                generalize (numsQ t2 j).2 = t3 at *
                obtain ⟨lj, bj⟩ := t3
                simp only at hlj HLJ
                go_upto_region 13 with fail
                go_cut [68] from 60 to 77 (fun v wx => v = .bool (decide (0 < m2) && !bj) ∧ wx = wr)
                case first =>
                  have b1 := hti.out.c1
                  simp only at b1
                  by_cases hm0 : (0 : Int) < (m2 : Int)
                  · have hdm : decide (0 < m2) = true := decide_eq_true (by omega)
                    go_wp2_with fail
                    go_meet
                    case rel => exact ⟨by rw [hdm]; simp, rfl⟩
                  · have hdm : decide (0 < m2) = false := decide_eq_false (by omega)
                    go_wp2_with fail
                    go_meet
                    case rel => exact ⟨by rw [hdm]; simp, rfl⟩
                case rest =>
                  obtain ⟨rfl, hwc⟩ := hcut
                  have hwc := hwc.symm
                  subst hwc
                  cases hg : (decide (0 < m2) && !bj) with
                  | true =>
                    have hm1 : 0 < m2 ∧ bj = false := by simpa using hg
                    obtain ⟨hm0, rfl⟩ := hm1
                    obtain ⟨m2, rfl⟩ : ∃ m', m2 = m' + 1 := ⟨m2 - 1, by omega⟩
                    clear hg hm0 HSEI
                    have hj4 : j + 1 ≤ 4 := by
                      have h1 := (HLJ.out rfl).2
                      have h2 := (HN4.out.2 h1).2.2
                      have h3 := hmj.out
                      omega
                    have HNC := hide (fun W (h : TkAt T (lj, false) W) => rnum_at T (lj, false) ALL W h (by simp only; omega))
                    generalize numR ALL (lj, false) = nb at *
                    obtain ⟨n2, tb⟩ := nb
                    simp only at HSUI HNC
                    clear HLJ
                    go_wp2_with fail
                    refine wp_region_held_drew (S := fun _ => True) (by kernel_rfl) trivial (fun _ => ?_)
                    have HW0 : Hid (RowS (TwoB T L) 3 1 w7 wr.drew ia ic j (intsC ins)) := hide (hri.out.more (KeptS.of (Below.refl _ _).drew) HSI.out)
                    have HR0 : Hid (TkAt T (lj, false) wr.drew) := hide (hti.out.below (Below.refl _ _).drew)
                    have HB0 : Hid (LtB L ia j ic 0 wr.drew) := hide (hli.out.other rfl)
                    clear hri hti hli
                    generalize wr.drew = x0 at *
                    refine wpAnyH_take (i := 0) (oi := ⟨some 71, _, _, _, _, _⟩) (v := (.pointer (some ⟨L, 0, none⟩))) rfl (by kernel_rfl) (by kernel_rfl) (by kernel_rfl) (fun _ _ _ h => h) (Or.inl ⟨by rfl, fun W hS => by (go_simp)⟩) trivial ?_
                    simp only [Act.put, List.setIfInBounds_toArray, List.set_cons_zero, List.set_cons_succ]
                    refine wpAnyH_take (i := 2) (oi := ⟨some 73, _, _, _, _, _⟩) (v := (.pointer (some ⟨T, 0, none⟩))) rfl (by kernel_rfl) (by kernel_rfl) (by kernel_rfl) (fun _ _ _ h => h) (Or.inl ⟨by rfl, fun W hS => by (go_simp)⟩) trivial ?_
                    simp only [Act.put, List.setIfInBounds_toArray, List.set_cons_zero, List.set_cons_succ]
                    refine wpAnyH_ready (rs := [1, 3]) (by kernel_rfl) (by simp) ?_
                    refine AllReadyH.cons rfl (fun K hK => ?_) (AllReadyH.cons rfl (fun K hK => ?_) AllReadyH.nil)
                    · skip
                      have k1 := HB0.out.c0
                      go_simp
                      clear k1
                      refine hK.out _ _ trivial (fun _ => ?_)
                      clear hK K
                      refine wpAnyH_ready (rs := [3]) (by kernel_rfl) (by simp) ?_
                      refine AllReadyH.cons rfl (fun K hK => ?_) AllReadyH.nil
                      go_simp
                      refine (HNC.out x0 HR0.out).mono ?_
                      rintro e x1 ⟨rfl, hr1, hk1⟩
                      have HR1 := hide hr1
                      have HW1 := hide (HW0.out.more (KeptS.one hk1 (Or.inl rfl)) HSI.out)
                      have HB1 := hide (HB0.out.other (hk1.block L (blk_lt HB0.out) HTL.out))
                      clear hr1 hk1 HR0 HW0 HB0
                      refine hK.out _ _ trivial (fun _ => ?_)
                      clear hK K
                      refine wpAnyH_ready (rs := [4]) (by kernel_rfl) (by simp) ?_
                      refine AllReadyH.cons rfl (fun K hK => ?_) AllReadyH.nil
                      have HR2 : Hid (TkAt T tb (x1.alloc (.cells #[.int .i64 n2] 3))) := hide (HR1.out.below (below_alloc _ _))
                      have HW2 := hide (HW1.out.more (KeptS.of (below_alloc x1 (.cells #[.int .i64 n2] 3))) HSI.out)
                      have HB2 := hide (HB1.out.other ((below_alloc x1 (.cells #[.int .i64 n2] 3)).block L (blk_lt HB1.out)))
                      have HL3 : Hid (Lies AnyB (x1.alloc (.cells #[.int .i64 n2] 3)) (some ⟨x1.heap.size, 0, none⟩) [.int .i64 n2]) := hide (Lies.blk (cs := [.int .i64 n2]) (blk_new x1 (.cells #[.int .i64 n2] 3)) trivial)
                      go_simp
                      generalize x1.alloc (.cells #[.int .i64 n2] 3) = x2 at *
                      generalize x1.heap.size = B2 at *
                      refine hK.out _ _ trivial (fun _ => ?_)
                      clear hK K
                      refine wpAnyH_ready (rs := [5]) (by kernel_rfl) (by simp) ?_
                      refine AllReadyH.cons rfl (fun K hK => ?_) AllReadyH.nil
                      obtain ⟨va2, vc2, x3, happ, hrow4, hnb4, hg⟩ := HW2.out.app (t := 22) info_in (by decide) (by decide) rfl (by kernel_rfl) HSI.out [.int .i64 n2] (some ⟨B2, 0, none⟩) 1 1 (j + 1) HL3.out rfl (by intro u hu; simp at hu; subst hu; rfl) rfl (by omega)
                      have HR3 : Hid (TkAt T tb x3) := hide (HR2.out.other (HW2.out.other hg (HSI.out T (Or.inl rfl))))
                      have HB3 := hide (HB2.out.other (HW2.out.other hg (HSI.out L (Or.inr rfl))))
                      have HW3 := hide hrow4
                      clear hrow4 hnb4 hg HL3
                      refine (if_pos (by kernel_rfl)).mpr ?_
                      refine wp_append_run happ _ _ rfl rfl rfl ?_
                      simp only [Act.put, List.getElem_toArray, List.getElem_cons_succ, List.getElem_cons_zero, List.setIfInBounds_toArray, List.set_cons_zero, List.set_cons_succ]
                      refine hK.out _ _ trivial (fun _ => ?_)
                      clear hK K
                      clear happ
                      refine wpAnyH_take (i := 6) (oi := ⟨some 77, _, _, _, _, _⟩) (v := (.pointer (some ⟨L, 0, none⟩))) rfl (by kernel_rfl) (by kernel_rfl) (by kernel_rfl) (fun _ _ _ h => h) (Or.inl ⟨by rfl, fun W hS => by (go_simp)⟩) trivial ?_
                      simp only [Act.put, List.setIfInBounds_toArray, List.set_cons_zero, List.set_cons_succ]
                      refine wpAnyH_ready (rs := [7]) (by kernel_rfl) (by simp) ?_
                      refine AllReadyH.cons rfl (fun K hK => ?_) AllReadyH.nil
                      have f4 : x3.frozen? ⟨L, 0, none⟩ = false := blk_frozen HB3.out 0
                      have k4 := HB3.out.c0
                      go_simp
                      clear f4 k4
                      refine hK.out _ _ trivial (fun _ => ?_)
                      clear hK K
                      refine wpAnyH_done (by kernel_rfl) ?_ _
                      have HBF := hide (HB3.out.set0 va2 (j + 1) vc2)
                      have HRF : Hid (TkAt T tb (x3.setCell ⟨L, 0, none⟩ (.slice va2 (j + 1) vc2))) := hide (HR3.out.other (Below.heap_setCell x3 ⟨L, 0, none⟩ _ T (fun e => HTL.out e.symm)))
                      have HWF := hide (HW3.out.more ((KeptS.refl _ x3).set L 0 (.slice va2 (j + 1) vc2) (Or.inr rfl)) HSI.out)
                      go_wp2_with fail
                      exact ⟨⟨j + 1, m2, va2, vc2, by go_num, by omega, hj4, hide (by have := hmj.out; omega), hide (by rw [HSUI.out.1, intsC_app]; exact HWF.out), hide (by rw [HSUI.out.2]; exact HRF.out), HBF⟩, by simp [intOf]⟩
                    · skip
                      go_simp
                      refine (HNC.out x0 HR0.out).mono ?_
                      rintro e x1 ⟨rfl, hr1, hk1⟩
                      have HR1 := hide hr1
                      have HW1 := hide (HW0.out.more (KeptS.one hk1 (Or.inl rfl)) HSI.out)
                      have HB1 := hide (HB0.out.other (hk1.block L (blk_lt HB0.out) HTL.out))
                      clear hr1 hk1 HR0 HW0 HB0
                      refine hK.out _ _ trivial (fun _ => ?_)
                      clear hK K
                      refine wpAnyH_ready (rs := [1, 4]) (by kernel_rfl) (by simp) ?_
                      refine AllReadyH.cons rfl (fun K hK => ?_) (AllReadyH.cons rfl (fun K hK => ?_) AllReadyH.nil)
                      · skip
                        have k1 := HB1.out.c0
                        go_simp
                        clear k1
                        refine hK.out _ _ trivial (fun _ => ?_)
                        clear hK K
                        refine wpAnyH_ready (rs := [4]) (by kernel_rfl) (by simp) ?_
                        refine AllReadyH.cons rfl (fun K hK => ?_) AllReadyH.nil
                        have HR2 : Hid (TkAt T tb (x1.alloc (.cells #[.int .i64 n2] 3))) := hide (HR1.out.below (below_alloc _ _))
                        have HW2 := hide (HW1.out.more (KeptS.of (below_alloc x1 (.cells #[.int .i64 n2] 3))) HSI.out)
                        have HB2 := hide (HB1.out.other ((below_alloc x1 (.cells #[.int .i64 n2] 3)).block L (blk_lt HB1.out)))
                        have HL3 : Hid (Lies AnyB (x1.alloc (.cells #[.int .i64 n2] 3)) (some ⟨x1.heap.size, 0, none⟩) [.int .i64 n2]) := hide (Lies.blk (cs := [.int .i64 n2]) (blk_new x1 (.cells #[.int .i64 n2] 3)) trivial)
                        go_simp
                        generalize x1.alloc (.cells #[.int .i64 n2] 3) = x2 at *
                        generalize x1.heap.size = B2 at *
                        refine hK.out _ _ trivial (fun _ => ?_)
                        clear hK K
                        refine wpAnyH_ready (rs := [5]) (by kernel_rfl) (by simp) ?_
                        refine AllReadyH.cons rfl (fun K hK => ?_) AllReadyH.nil
                        obtain ⟨va2, vc2, x3, happ, hrow4, hnb4, hg⟩ := HW2.out.app (t := 22) info_in (by decide) (by decide) rfl (by kernel_rfl) HSI.out [.int .i64 n2] (some ⟨B2, 0, none⟩) 1 1 (j + 1) HL3.out rfl (by intro u hu; simp at hu; subst hu; rfl) rfl (by omega)
                        have HR3 : Hid (TkAt T tb x3) := hide (HR2.out.other (HW2.out.other hg (HSI.out T (Or.inl rfl))))
                        have HB3 := hide (HB2.out.other (HW2.out.other hg (HSI.out L (Or.inr rfl))))
                        have HW3 := hide hrow4
                        clear hrow4 hnb4 hg HL3
                        refine (if_pos (by kernel_rfl)).mpr ?_
                        refine wp_append_run happ _ _ rfl rfl rfl ?_
                        simp only [Act.put, List.getElem_toArray, List.getElem_cons_succ, List.getElem_cons_zero, List.setIfInBounds_toArray, List.set_cons_zero, List.set_cons_succ]
                        refine hK.out _ _ trivial (fun _ => ?_)
                        clear hK K
                        clear happ
                        refine wpAnyH_take (i := 6) (oi := ⟨some 77, _, _, _, _, _⟩) (v := (.pointer (some ⟨L, 0, none⟩))) rfl (by kernel_rfl) (by kernel_rfl) (by kernel_rfl) (fun _ _ _ h => h) (Or.inl ⟨by rfl, fun W hS => by (go_simp)⟩) trivial ?_
                        simp only [Act.put, List.setIfInBounds_toArray, List.set_cons_zero, List.set_cons_succ]
                        refine wpAnyH_ready (rs := [7]) (by kernel_rfl) (by simp) ?_
                        refine AllReadyH.cons rfl (fun K hK => ?_) AllReadyH.nil
                        have f4 : x3.frozen? ⟨L, 0, none⟩ = false := blk_frozen HB3.out 0
                        have k4 := HB3.out.c0
                        go_simp
                        clear f4 k4
                        refine hK.out _ _ trivial (fun _ => ?_)
                        clear hK K
                        refine wpAnyH_done (by kernel_rfl) ?_ _
                        have HBF := hide (HB3.out.set0 va2 (j + 1) vc2)
                        have HRF : Hid (TkAt T tb (x3.setCell ⟨L, 0, none⟩ (.slice va2 (j + 1) vc2))) := hide (HR3.out.other (Below.heap_setCell x3 ⟨L, 0, none⟩ _ T (fun e => HTL.out e.symm)))
                        have HWF := hide (HW3.out.more ((KeptS.refl _ x3).set L 0 (.slice va2 (j + 1) vc2) (Or.inr rfl)) HSI.out)
                        go_wp2_with fail
                        exact ⟨⟨j + 1, m2, va2, vc2, by go_num, by omega, hj4, hide (by have := hmj.out; omega), hide (by rw [HSUI.out.1, intsC_app]; exact HWF.out), hide (by rw [HSUI.out.2]; exact HRF.out), HBF⟩, by simp [intOf]⟩
                      · skip
                        have HR2 : Hid (TkAt T tb (x1.alloc (.cells #[.int .i64 n2] 3))) := hide (HR1.out.below (below_alloc _ _))
                        have HW2 := hide (HW1.out.more (KeptS.of (below_alloc x1 (.cells #[.int .i64 n2] 3))) HSI.out)
                        have HB2 := hide (HB1.out.other ((below_alloc x1 (.cells #[.int .i64 n2] 3)).block L (blk_lt HB1.out)))
                        have HL3 : Hid (Lies AnyB (x1.alloc (.cells #[.int .i64 n2] 3)) (some ⟨x1.heap.size, 0, none⟩) [.int .i64 n2]) := hide (Lies.blk (cs := [.int .i64 n2]) (blk_new x1 (.cells #[.int .i64 n2] 3)) trivial)
                        go_simp
                        generalize x1.alloc (.cells #[.int .i64 n2] 3) = x2 at *
                        generalize x1.heap.size = B2 at *
                        refine hK.out _ _ trivial (fun _ => ?_)
                        clear hK K
                        refine wpAnyH_ready (rs := [1]) (by kernel_rfl) (by simp) ?_
                        refine AllReadyH.cons rfl (fun K hK => ?_) AllReadyH.nil
                        have k1 := HB2.out.c0
                        go_simp
                        clear k1
                        refine hK.out _ _ trivial (fun _ => ?_)
                        clear hK K
                        refine wpAnyH_ready (rs := [5]) (by kernel_rfl) (by simp) ?_
                        refine AllReadyH.cons rfl (fun K hK => ?_) AllReadyH.nil
                        obtain ⟨va2, vc2, x3, happ, hrow4, hnb4, hg⟩ := HW2.out.app (t := 22) info_in (by decide) (by decide) rfl (by kernel_rfl) HSI.out [.int .i64 n2] (some ⟨B2, 0, none⟩) 1 1 (j + 1) HL3.out rfl (by intro u hu; simp at hu; subst hu; rfl) rfl (by omega)
                        have HR3 : Hid (TkAt T tb x3) := hide (HR2.out.other (HW2.out.other hg (HSI.out T (Or.inl rfl))))
                        have HB3 := hide (HB2.out.other (HW2.out.other hg (HSI.out L (Or.inr rfl))))
                        have HW3 := hide hrow4
                        clear hrow4 hnb4 hg HL3
                        refine (if_pos (by kernel_rfl)).mpr ?_
                        refine wp_append_run happ _ _ rfl rfl rfl ?_
                        simp only [Act.put, List.getElem_toArray, List.getElem_cons_succ, List.getElem_cons_zero, List.setIfInBounds_toArray, List.set_cons_zero, List.set_cons_succ]
                        refine hK.out _ _ trivial (fun _ => ?_)
                        clear hK K
                        clear happ
                        refine wpAnyH_take (i := 6) (oi := ⟨some 77, _, _, _, _, _⟩) (v := (.pointer (some ⟨L, 0, none⟩))) rfl (by kernel_rfl) (by kernel_rfl) (by kernel_rfl) (fun _ _ _ h => h) (Or.inl ⟨by rfl, fun W hS => by (go_simp)⟩) trivial ?_
                        simp only [Act.put, List.setIfInBounds_toArray, List.set_cons_zero, List.set_cons_succ]
                        refine wpAnyH_ready (rs := [7]) (by kernel_rfl) (by simp) ?_
                        refine AllReadyH.cons rfl (fun K hK => ?_) AllReadyH.nil
                        have f4 : x3.frozen? ⟨L, 0, none⟩ = false := blk_frozen HB3.out 0
                        have k4 := HB3.out.c0
                        go_simp
                        clear f4 k4
                        refine hK.out _ _ trivial (fun _ => ?_)
                        clear hK K
                        refine wpAnyH_done (by kernel_rfl) ?_ _
                        have HBF := hide (HB3.out.set0 va2 (j + 1) vc2)
                        have HRF : Hid (TkAt T tb (x3.setCell ⟨L, 0, none⟩ (.slice va2 (j + 1) vc2))) := hide (HR3.out.other (Below.heap_setCell x3 ⟨L, 0, none⟩ _ T (fun e => HTL.out e.symm)))
                        have HWF := hide (HW3.out.more ((KeptS.refl _ x3).set L 0 (.slice va2 (j + 1) vc2) (Or.inr rfl)) HSI.out)
                        go_wp2_with fail
                        exact ⟨⟨j + 1, m2, va2, vc2, by go_num, by omega, hj4, hide (by have := hmj.out; omega), hide (by rw [HSUI.out.1, intsC_app]; exact HWF.out), hide (by rw [HSUI.out.2]; exact HRF.out), HBF⟩, by simp [intOf]⟩
                  | false =>
                    have HEXI : Hid (ExitQ j k3 (lj, bj)) := hide (by
                      have h1 := hmj.out
                      refine ⟨by omega, ?_⟩
                      cases bj with
                      | true => exact .inr rfl
                      | false => left; simp at hg; omega)
                    clear hg HSUI HLJ hmj
                    generalize ht3 : (lj, bj) = t3 at *
                    have hl3 : t3.1.length ≤ 500 := by rw [← ht3]; simp only; omega
                    clear ht3 hlj
                    have HNA := hide (rnum_at T t3 ALL wr hti.out (by omega))
                    have hl5 := (numR_len ALL t3).1
                    generalize hn5 : numR ALL t3 = n5 at *
                    have HN5 := hide hn5
                    clear hn5
                    obtain ⟨tv, t4⟩ := n5
                    simp only at HNA hl5
                    have HRDN : Hid (LutsQ s4 (ls.length + 1) (ls ++ [(⟨ins, (tv : Int)⟩ : Lt)]) t4) := hide (by
                      have h1 := LutsQ.more (c := j) HRD.out (by rw [HN4E.out]; show ExitQ j k3 (numsQ t2 j).2; rw [← HSEI.out]; exact HEXI.out)
                      rw [HN4E.out] at h1
                      simp only at h1
                      rw [← HSEI.out] at h1
                      simp only at h1
                      rw [HN5.out] at h1
                      exact h1)
                    go_wp2_with fail
                    refine HNA.out.mono ?_
                    rintro e w9 ⟨rfl, ht9, hk9⟩
                    have HL9 := hide (hli.out.other (hk9.block L (blk_lt hli.out) HTL.out))
                    have hlf : w9.frozen? ⟨L, 1, none⟩ = false := blk_frozen HL9.out 1
                    have hlc := HL9.out.c1
                    have HLZ := hide (HL9.out.set1 (tv : Int))
                    have HTZ : Hid (TkAt T t4 (w9.setCell ⟨L, 1, none⟩ (.int .i64 tv))) := hide (ht9.other (Below.heap_setCell w9 ⟨L, 1, none⟩ _ T (fun e => HTL.out e.symm)))
                    have HKI : Hid (KeptS (TwoB T L) wr (w9.setCell ⟨L, 1, none⟩ (.int .i64 tv))) := hide ((KeptS.one hk9 (Or.inl rfl)).set L 1 _ (Or.inr rfl))
                    have HKO : Hid (KeptS (TwoB T L) wo (w9.setCell ⟨L, 1, none⟩ (.int .i64 tv))) := hide ((HK7.out.trans hri.out.kept).trans HKI.out)
                    have HKP : Hid (KeptS (TwoB T P) wo (w9.setCell ⟨L, 1, none⟩ (.int .i64 tv))) := hide (HKO.out.imp fun k hk hs => by
                      rcases hs with rfl | rfl
                      · exact Or.inl rfl
                      · exfalso; have := HLE.out; omega)
                    have HRZ := hide (HROW.out.more HKP.out HS5.out)
                    have HBZ : Hid (NetBR P gv va q vc ya ls.length yc none 0 0 (w9.setCell ⟨L, 1, none⟩ (.int .i64 tv))) := hide (HNB.out.other (HKO.out.block P (blk_lt HNB.out) (by rintro (h | h); exact HPT.out h; exact HPL.out h)))
                    have HIZ : Hid (Lies (fun b => w5.heap.size ≤ b ∧ b < (w9.setCell ⟨L, 1, none⟩ (.int .i64 tv)).heap.size ∧ (Value.slice ya ls.length yc).ownBlock ≠ some b) (w9.setCell ⟨L, 1, none⟩ (.int .i64 tv)) ia (intsC ins)) := hide (by
                      have h1 := hri.out.lies
                      refine (h1.same fun b hb hl => HKI.out.block b hl fun hs => ?_).imp fun b hl hb => ⟨?_, hl, fun e => ?_⟩
                      · have := HSI.out b hs; unfold FromB at hb; omega
                      · have h2 := HROW.out.row.kept.size; have h3 := HK7.out.size; unfold FromB at hb; omega
                      · have h2 := HROW.out.row.mine.lt b e; have h3 := HK7.out.size; unfold FromB at hb; omega)
                    clear ht9 hk9 hri hti hli HNA HKI HKO HK7
                    have hjl := HJL.out
                    subst hjl
                    clear HL9
                    have p2 := HBZ.out.c2
                    have l0 := HLZ.out.c0
                    have l1 := HLZ.out.c1
                    have HBA := hide (below_alloc (w9.setCell ⟨L, 1, none⟩ (.int .i64 tv)) (.cells #[.slice ia ins.length ic, .int .i64 tv] 93))
                    have HLN : Hid (Lies AnyB ((w9.setCell ⟨L, 1, none⟩ (.int .i64 tv)).alloc (.cells #[.slice ia ins.length ic, .int .i64 tv] 93)) (some ⟨w9.heap.size, 0, none⟩) [.slice ia ins.length ic, .int .i64 tv]) := hide (by
                      have h1 : Lies AnyB _ _ _ := Lies.blk (cs := [.slice ia ins.length ic, .int .i64 tv]) (blk_new (w9.setCell ⟨L, 1, none⟩ (.int .i64 tv)) (.cells #[.slice ia ins.length ic, .int .i64 tv] 93)) trivial
                      rwa [show (w9.setCell ⟨L, 1, none⟩ (.int .i64 tv)).heap.size = w9.heap.size by simp [World.setCell]] at h1)
                    have HRA := hide (HRZ.out.more (KeptS.of HBA.out) HS5.out)
                    obtain ⟨ya2, yc2, wa, happ, hrow4, hg⟩ := HRA.out.app HS5.out ⟨ins, (tv : Int)⟩ ia ic ((HIZ.out.below HBA.out).imp fun b hl hs => ⟨hs.1, hl, hs.2.2⟩) (some ⟨w9.heap.size, 0, none⟩) HLN.out (ls.length + 1) rfl (by omega)
                    have HTA : Hid (TkAt T t4 wa) := hide ((HTZ.out.below HBA.out).other (HRA.out.row.other hg (HS5.out T (Or.inl rfl))))
                    have HPA : Hid (NetBR P gv va q vc ya ls.length yc none 0 0 wa) := hide ((HBZ.out.other (HBA.out.block P (blk_lt HBZ.out))).other (HRA.out.row.other hg (HS5.out P (Or.inr rfl))))
                    have HRW := hide hrow4
                    have pf : wa.frozen? ⟨P, 2, none⟩ = false := blk_frozen HPA.out 2
                    have pc := HPA.out.c2
                    clear hrow4 hg HIZ HLN HRA HRZ HBA
                    have HLEN : Hid ((ls ++ [(⟨ins, (tv : Int)⟩ : Lt)]).length = ls.length + 1) := hide (by simp)
                    have HBF : Hid (NetBR P gv va q vc ya2 (ls ++ [(⟨ins, (tv : Int)⟩ : Lt)]).length yc2 none 0 0 (wa.setCell ⟨P, 2, none⟩ (.slice ya2 (ls.length + 1) yc2))) := hide (by rw [HLEN.out]; exact HPA.out.set2 ya2 (ls.length + 1) yc2)
                    have HRF : Hid (TkAt T t4 (wa.setCell ⟨P, 2, none⟩ (.slice ya2 (ls.length + 1) yc2))) := hide (HTA.out.other (Below.heap_setCell wa ⟨P, 2, none⟩ _ T (fun e => HPT.out e.symm)))
                    have HWF := hide (HRW.out.more ((KeptS.refl _ wa).set P 2 (.slice ya2 (ls.length + 1) yc2) (Or.inr rfl)) HS5.out)
                    have HRDF : Hid (LutsQ s4 (ls ++ [(⟨ins, (tv : Int)⟩ : Lt)]).length (ls ++ [⟨ins, (tv : Int)⟩]) t4) := hide (by rw [HLEN.out]; exact HRDN.out)
                    have H4F : Hid (∀ l ∈ ls ++ [(⟨ins, (tv : Int)⟩ : Lt)], l.ins.length ≤ 4) := hide fun l hl => by
                      rcases List.mem_append.1 hl with h | h
                      · exact H4.out l h
                      · rw [List.mem_singleton.1 h]; exact hj
                    have HMF : Hid (m + (ls ++ [(⟨ins, (tv : Int)⟩ : Lt)]).length = k2) := hide (by rw [HLEN.out]; have := HMQ.out; omega)
                    have hqF : (ls ++ [(⟨ins, (tv : Int)⟩ : Lt)]).length ≤ 501 := by rw [HLEN.out]; omega
                    clear hl3 hl5 hj
                    go_wp2_with (at_builtin; (refine wpl_append_run happ rfl _ _ rfl rfl rfl ?_))
                    exact ⟨⟨m, ya2, yc2, _, _, ls ++ [⟨ins, (tv : Int)⟩], t4, by go_num, by omega, hqF, HMF, HWF, HRF, HBF, HRDF, H4F⟩, by simp [intOf]⟩
            | false =>
              have HEX2 : Hid (ExitQ ls.length k2 (lq, bq)) := hide (by
                have h1 := hmq.out
                refine ⟨by omega, ?_⟩
                cases bq with
                | true => exact .inr rfl
                | false => left; simp at hg; omega)
              clear hg HLQ hmq
              have HRG6 : Hid (∀ W, KeptS (TwoB T P) wr W → Lies (FromB T) W va (rgsC rs1)) := hide fun W hk => HRG5.out W (hrow.out.row.kept.trans hk)
              have HLU6 : Hid (∀ W, KeptS (TwoB T P) wr W → LutsAt (FromB T) W ya A C ls) := hide fun W hk => by
                have h1 := hrow.out.more hk HS5.out
                have hz := HS5.out T (Or.inl rfl)
                exact ⟨h1.row.lies.imp fun b _ hb => by unfold FromB at *; omega, fun i hi => (h1.ins i hi).imp fun b _ hb => by unfold FromB; omega⟩
              have HBW6 := hide (Below.ofS HBW5.out HBW5.out.size hrow.out.row.kept fun b hb => Nat.le_of_lt (HSG.out b hb))
              have HQ6 := hide (hrow.out.row.kept.blk HQ5.out fun hs => Nat.lt_irrefl _ (HSG.out _ hs))
              have HS6 : Hid (∀ b, TwoB T P b → b < wr.heap.size) := hide fun b hb => Nat.lt_of_lt_of_le (HS5.out b hb) hrow.out.row.kept.size
              clear hrow HS5 HBW5 HQ5 HRG5 hm
              generalize hs5 : (lq, bq) = s5 at *
              have hl5 : s5.1.length ≤ 500 := by rw [← hs5]; simp only; omega
              clear hs5 hlq
              have HNA := hide (rnum_at T s5 ALL wr ht.out (by omega))
              have HK4L := hide (numR_lt ALL s5)
              have hl6 := (numR_len ALL s5).1
              generalize hn6 : numR ALL s5 = n6 at *
              have HN6 := hide hn6
              clear hn6
              obtain ⟨k4, s6⟩ := n6
              simp only at HNA HK4L hl6
              have hk4l := HK4L.out
              go_wp2_with fail
              refine HNA.out.mono ?_
              rintro e w7 ⟨rfl, ht7, hk7⟩
              have HT7 := hide ht7
              have HP7 := hide (hnb.out.other (hk7.block P (blk_lt hnb.out) HPT.out))
              have HQ7 := hide (hk7.blk HQ6.out (by have := HTE.out; omega))
              have HBW7 := hide (Below.keptOn HBW6.out hk7 (by have := HTE.out; omega) HBW6.out.size)
              have HS7 : Hid (∀ b, TwoB T P b → b < w7.heap.size) := hide fun b hb => Nat.lt_of_lt_of_le (HS6.out b hb) hk7.size
              have HRG7 : Hid (∀ W, KeptS (TwoB T P) w7 W → Lies (FromB T) W va (rgsC rs1)) := hide fun W hk => HRG6.out W ((KeptS.one hk7 (Or.inl rfl)).trans hk)
              have HLU7 : Hid (∀ W, KeptS (TwoB T P) w7 W → LutsAt (FromB T) W ya A C ls) := hide fun W hk => HLU6.out W ((KeptS.one hk7 (Or.inl rfl)).trans hk)
              clear ht7 hk7 ht hnb HQ6 HBW6 HS6 HRG6 HLU6 HNA
              go_wp2_with fail
              go_loopw [11] (fun k wr => ∃ (c m : Nat) (oa : Option Addr) (oc : Nat), k = .int .i64 m ∧ m ≤ 5000000000000 ∧ c ≤ 501 ∧ Hid (m + c = k4) ∧ Hid (RowS (TwoB T P) 3 1 w7 wr oa oc c (intsC (numsQ s6 c).1)) ∧ Hid (TkAt T (numsQ s6 c).2 wr) ∧ Hid (NetBR P gv va q vc ya ls.length yc oa c oc wr)) (fun k _ => (intOf k).toNat)
              case atStart => exact ⟨0, k4, none, 0, rfl, by omega, by omega, hide rfl, hide (RowS.none _ _ _ _), HT7, HP7⟩
              case round =>
                obtain ⟨c, m, oa, oc, rfl, hm, hc, hmq, hrow, ht, hnb⟩ := hrel
                clear HT7 HP7
                have hlq := (numsQ_left s6 c).1
                have HLQ := hide (numsQ_left s6 c).2
                have HSU : Hid ((numsQ s6 (c + 1)).1 = (numsQ s6 c).1 ++ [((numR ALL (numsQ s6 c).2).1 : Int)] ∧ (numsQ s6 (c + 1)).2 = (numR ALL (numsQ s6 c).2).2) := hide ⟨rfl, rfl⟩
                have HSE6 : Hid (((numsQ s6 c).1, (numsQ s6 c).2) = numsQ s6 c) := hide rfl
                have HOL := hide (numsQ_len s6 c)
                generalize (numsQ s6 c).1 = os at *
                generalize (numsQ s6 c).2 = t7 at *
                obtain ⟨lq, bq⟩ := t7
                simp only at hlq HLQ
                go_upto_region 19 with fail
                go_cut [97] from 89 to 106 (fun v wx => v = .bool (decide (0 < m) && !bq) ∧ wx = wr)
                case first =>
                  have b1 := ht.out.c1
                  simp only at b1
                  by_cases hm0 : (0 : Int) < (m : Int)
                  · have hdm : decide (0 < m) = true := decide_eq_true (by omega)
                    go_wp2_with fail
                    go_meet
                    case rel => exact ⟨by rw [hdm]; simp, rfl⟩
                  · have hdm : decide (0 < m) = false := decide_eq_false (by omega)
                    go_wp2_with fail
                    go_meet
                    case rel => exact ⟨by rw [hdm]; simp, rfl⟩
                case rest =>
                  obtain ⟨rfl, hwc⟩ := hcut
                  have hwc := hwc.symm
                  subst hwc
                  cases hg : (decide (0 < m) && !bq) with
                  | true =>
                    have hm1 : 0 < m ∧ bq = false := by simpa using hg
                    obtain ⟨hm0, rfl⟩ := hm1
                    obtain ⟨m, rfl⟩ : ∃ m', m = m' + 1 := ⟨m - 1, by omega⟩
                    clear hg hm0 HSE6
                    have hq5 := (HLQ.out rfl).1
                    have HNC := hide (fun W (h : TkAt T (lq, false) W) => rnum_at T (lq, false) ALL W h (by simp only; omega))
                    generalize numR ALL (lq, false) = nb at *
                    obtain ⟨n2, tb⟩ := nb
                    simp only at HSU HNC
                    clear HLQ
                    go_wp2_with fail
                    refine wp_region_held_drew (S := fun _ => True) (by kernel_rfl) trivial (fun _ => ?_)
                    have HW0 : Hid (RowS (TwoB T P) 3 1 w7 wr.drew oa oc c (intsC os)) := hide (hrow.out.more (KeptS.of (Below.refl _ _).drew) HS7.out)
                    have HR0 : Hid (TkAt T (lq, false) wr.drew) := hide (ht.out.below (Below.refl _ _).drew)
                    have HB0 : Hid (NetBR P gv va q vc ya ls.length yc oa c oc wr.drew) := hide (hnb.out.other rfl)
                    clear hrow ht hnb
                    generalize wr.drew = x0 at *
                    refine wpAnyH_take (i := 0) (oi := ⟨some 100, _, _, _, _, _⟩) (v := (.pointer (some ⟨P, 3, none⟩))) rfl (by kernel_rfl) (by kernel_rfl) (by kernel_rfl) (fun _ _ _ h => h) (Or.inl ⟨by rfl, fun W hS => by (go_simp)⟩) trivial ?_
                    simp only [Act.put, List.setIfInBounds_toArray, List.set_cons_zero, List.set_cons_succ]
                    refine wpAnyH_take (i := 2) (oi := ⟨some 102, _, _, _, _, _⟩) (v := (.pointer (some ⟨T, 0, none⟩))) rfl (by kernel_rfl) (by kernel_rfl) (by kernel_rfl) (fun _ _ _ h => h) (Or.inl ⟨by rfl, fun W hS => by (go_simp)⟩) trivial ?_
                    simp only [Act.put, List.setIfInBounds_toArray, List.set_cons_zero, List.set_cons_succ]
                    refine wpAnyH_ready (rs := [1, 3]) (by kernel_rfl) (by simp) ?_
                    refine AllReadyH.cons rfl (fun K hK => ?_) (AllReadyH.cons rfl (fun K hK => ?_) AllReadyH.nil)
                    · skip
                      have k1 := HB0.out.c3
                      go_simp
                      clear k1
                      refine hK.out _ _ trivial (fun _ => ?_)
                      clear hK K
                      refine wpAnyH_ready (rs := [3]) (by kernel_rfl) (by simp) ?_
                      refine AllReadyH.cons rfl (fun K hK => ?_) AllReadyH.nil
                      go_simp
                      refine (HNC.out x0 HR0.out).mono ?_
                      rintro e x1 ⟨rfl, hr1, hk1⟩
                      have HR1 := hide hr1
                      have HW1 := hide (HW0.out.more (KeptS.one hk1 (Or.inl rfl)) HS7.out)
                      have HB1 := hide (HB0.out.other (hk1.block P (blk_lt HB0.out) HPT.out))
                      clear hr1 hk1 HR0 HW0 HB0
                      refine hK.out _ _ trivial (fun _ => ?_)
                      clear hK K
                      refine wpAnyH_ready (rs := [4]) (by kernel_rfl) (by simp) ?_
                      refine AllReadyH.cons rfl (fun K hK => ?_) AllReadyH.nil
                      have HR2 : Hid (TkAt T tb (x1.alloc (.cells #[.int .i64 n2] 3))) := hide (HR1.out.below (below_alloc _ _))
                      have HW2 := hide (HW1.out.more (KeptS.of (below_alloc x1 (.cells #[.int .i64 n2] 3))) HS7.out)
                      have HB2 := hide (HB1.out.other ((below_alloc x1 (.cells #[.int .i64 n2] 3)).block P (blk_lt HB1.out)))
                      have HL3 : Hid (Lies AnyB (x1.alloc (.cells #[.int .i64 n2] 3)) (some ⟨x1.heap.size, 0, none⟩) [.int .i64 n2]) := hide (Lies.blk (cs := [.int .i64 n2]) (blk_new x1 (.cells #[.int .i64 n2] 3)) trivial)
                      go_simp
                      generalize x1.alloc (.cells #[.int .i64 n2] 3) = x2 at *
                      generalize x1.heap.size = B2 at *
                      refine hK.out _ _ trivial (fun _ => ?_)
                      clear hK K
                      refine wpAnyH_ready (rs := [5]) (by kernel_rfl) (by simp) ?_
                      refine AllReadyH.cons rfl (fun K hK => ?_) AllReadyH.nil
                      obtain ⟨va2, vc2, x3, happ, hrow4, hnb4, hg⟩ := HW2.out.app (t := 22) info_in (by decide) (by decide) rfl (by kernel_rfl) HS7.out [.int .i64 n2] (some ⟨B2, 0, none⟩) 1 1 (c + 1) HL3.out rfl (by intro u hu; simp at hu; subst hu; rfl) rfl (by omega)
                      have HR3 : Hid (TkAt T tb x3) := hide (HR2.out.other (HW2.out.other hg (HS7.out T (Or.inl rfl))))
                      have HB3 := hide (HB2.out.other (HW2.out.other hg (HS7.out P (Or.inr rfl))))
                      have HW3 := hide hrow4
                      clear hrow4 hnb4 hg HL3
                      refine (if_pos (by kernel_rfl)).mpr ?_
                      refine wp_append_run happ _ _ rfl rfl rfl ?_
                      simp only [Act.put, List.getElem_toArray, List.getElem_cons_succ, List.getElem_cons_zero, List.setIfInBounds_toArray, List.set_cons_zero, List.set_cons_succ]
                      refine hK.out _ _ trivial (fun _ => ?_)
                      clear hK K
                      clear happ
                      refine wpAnyH_take (i := 6) (oi := ⟨some 106, _, _, _, _, _⟩) (v := (.pointer (some ⟨P, 3, none⟩))) rfl (by kernel_rfl) (by kernel_rfl) (by kernel_rfl) (fun _ _ _ h => h) (Or.inl ⟨by rfl, fun W hS => by (go_simp)⟩) trivial ?_
                      simp only [Act.put, List.setIfInBounds_toArray, List.set_cons_zero, List.set_cons_succ]
                      refine wpAnyH_ready (rs := [7]) (by kernel_rfl) (by simp) ?_
                      refine AllReadyH.cons rfl (fun K hK => ?_) AllReadyH.nil
                      have f4 : x3.frozen? ⟨P, 3, none⟩ = false := blk_frozen HB3.out 3
                      have k4 := HB3.out.c3
                      go_simp
                      clear f4 k4
                      refine hK.out _ _ trivial (fun _ => ?_)
                      clear hK K
                      refine wpAnyH_done (by kernel_rfl) ?_ _
                      have HBF := hide (HB3.out.set3 va2 (c + 1) vc2)
                      have HRF : Hid (TkAt T tb (x3.setCell ⟨P, 3, none⟩ (.slice va2 (c + 1) vc2))) := hide (HR3.out.other (Below.heap_setCell x3 ⟨P, 3, none⟩ _ T (fun e => HPT.out e.symm)))
                      have HWF := hide (HW3.out.more ((KeptS.refl _ x3).set P 3 (.slice va2 (c + 1) vc2) (Or.inr rfl)) HS7.out)
                      go_wp2_with fail
                      exact ⟨⟨c + 1, m, va2, vc2, by go_num, by omega, by omega, hide (by have := hmq.out; omega), hide (by rw [HSU.out.1, intsC_app]; exact HWF.out), hide (by rw [HSU.out.2]; exact HRF.out), HBF⟩, by simp [intOf]⟩
                    · skip
                      go_simp
                      refine (HNC.out x0 HR0.out).mono ?_
                      rintro e x1 ⟨rfl, hr1, hk1⟩
                      have HR1 := hide hr1
                      have HW1 := hide (HW0.out.more (KeptS.one hk1 (Or.inl rfl)) HS7.out)
                      have HB1 := hide (HB0.out.other (hk1.block P (blk_lt HB0.out) HPT.out))
                      clear hr1 hk1 HR0 HW0 HB0
                      refine hK.out _ _ trivial (fun _ => ?_)
                      clear hK K
                      refine wpAnyH_ready (rs := [1, 4]) (by kernel_rfl) (by simp) ?_
                      refine AllReadyH.cons rfl (fun K hK => ?_) (AllReadyH.cons rfl (fun K hK => ?_) AllReadyH.nil)
                      · skip
                        have k1 := HB1.out.c3
                        go_simp
                        clear k1
                        refine hK.out _ _ trivial (fun _ => ?_)
                        clear hK K
                        refine wpAnyH_ready (rs := [4]) (by kernel_rfl) (by simp) ?_
                        refine AllReadyH.cons rfl (fun K hK => ?_) AllReadyH.nil
                        have HR2 : Hid (TkAt T tb (x1.alloc (.cells #[.int .i64 n2] 3))) := hide (HR1.out.below (below_alloc _ _))
                        have HW2 := hide (HW1.out.more (KeptS.of (below_alloc x1 (.cells #[.int .i64 n2] 3))) HS7.out)
                        have HB2 := hide (HB1.out.other ((below_alloc x1 (.cells #[.int .i64 n2] 3)).block P (blk_lt HB1.out)))
                        have HL3 : Hid (Lies AnyB (x1.alloc (.cells #[.int .i64 n2] 3)) (some ⟨x1.heap.size, 0, none⟩) [.int .i64 n2]) := hide (Lies.blk (cs := [.int .i64 n2]) (blk_new x1 (.cells #[.int .i64 n2] 3)) trivial)
                        go_simp
                        generalize x1.alloc (.cells #[.int .i64 n2] 3) = x2 at *
                        generalize x1.heap.size = B2 at *
                        refine hK.out _ _ trivial (fun _ => ?_)
                        clear hK K
                        refine wpAnyH_ready (rs := [5]) (by kernel_rfl) (by simp) ?_
                        refine AllReadyH.cons rfl (fun K hK => ?_) AllReadyH.nil
                        obtain ⟨va2, vc2, x3, happ, hrow4, hnb4, hg⟩ := HW2.out.app (t := 22) info_in (by decide) (by decide) rfl (by kernel_rfl) HS7.out [.int .i64 n2] (some ⟨B2, 0, none⟩) 1 1 (c + 1) HL3.out rfl (by intro u hu; simp at hu; subst hu; rfl) rfl (by omega)
                        have HR3 : Hid (TkAt T tb x3) := hide (HR2.out.other (HW2.out.other hg (HS7.out T (Or.inl rfl))))
                        have HB3 := hide (HB2.out.other (HW2.out.other hg (HS7.out P (Or.inr rfl))))
                        have HW3 := hide hrow4
                        clear hrow4 hnb4 hg HL3
                        refine (if_pos (by kernel_rfl)).mpr ?_
                        refine wp_append_run happ _ _ rfl rfl rfl ?_
                        simp only [Act.put, List.getElem_toArray, List.getElem_cons_succ, List.getElem_cons_zero, List.setIfInBounds_toArray, List.set_cons_zero, List.set_cons_succ]
                        refine hK.out _ _ trivial (fun _ => ?_)
                        clear hK K
                        clear happ
                        refine wpAnyH_take (i := 6) (oi := ⟨some 106, _, _, _, _, _⟩) (v := (.pointer (some ⟨P, 3, none⟩))) rfl (by kernel_rfl) (by kernel_rfl) (by kernel_rfl) (fun _ _ _ h => h) (Or.inl ⟨by rfl, fun W hS => by (go_simp)⟩) trivial ?_
                        simp only [Act.put, List.setIfInBounds_toArray, List.set_cons_zero, List.set_cons_succ]
                        refine wpAnyH_ready (rs := [7]) (by kernel_rfl) (by simp) ?_
                        refine AllReadyH.cons rfl (fun K hK => ?_) AllReadyH.nil
                        have f4 : x3.frozen? ⟨P, 3, none⟩ = false := blk_frozen HB3.out 3
                        have k4 := HB3.out.c3
                        go_simp
                        clear f4 k4
                        refine hK.out _ _ trivial (fun _ => ?_)
                        clear hK K
                        refine wpAnyH_done (by kernel_rfl) ?_ _
                        have HBF := hide (HB3.out.set3 va2 (c + 1) vc2)
                        have HRF : Hid (TkAt T tb (x3.setCell ⟨P, 3, none⟩ (.slice va2 (c + 1) vc2))) := hide (HR3.out.other (Below.heap_setCell x3 ⟨P, 3, none⟩ _ T (fun e => HPT.out e.symm)))
                        have HWF := hide (HW3.out.more ((KeptS.refl _ x3).set P 3 (.slice va2 (c + 1) vc2) (Or.inr rfl)) HS7.out)
                        go_wp2_with fail
                        exact ⟨⟨c + 1, m, va2, vc2, by go_num, by omega, by omega, hide (by have := hmq.out; omega), hide (by rw [HSU.out.1, intsC_app]; exact HWF.out), hide (by rw [HSU.out.2]; exact HRF.out), HBF⟩, by simp [intOf]⟩
                      · skip
                        have HR2 : Hid (TkAt T tb (x1.alloc (.cells #[.int .i64 n2] 3))) := hide (HR1.out.below (below_alloc _ _))
                        have HW2 := hide (HW1.out.more (KeptS.of (below_alloc x1 (.cells #[.int .i64 n2] 3))) HS7.out)
                        have HB2 := hide (HB1.out.other ((below_alloc x1 (.cells #[.int .i64 n2] 3)).block P (blk_lt HB1.out)))
                        have HL3 : Hid (Lies AnyB (x1.alloc (.cells #[.int .i64 n2] 3)) (some ⟨x1.heap.size, 0, none⟩) [.int .i64 n2]) := hide (Lies.blk (cs := [.int .i64 n2]) (blk_new x1 (.cells #[.int .i64 n2] 3)) trivial)
                        go_simp
                        generalize x1.alloc (.cells #[.int .i64 n2] 3) = x2 at *
                        generalize x1.heap.size = B2 at *
                        refine hK.out _ _ trivial (fun _ => ?_)
                        clear hK K
                        refine wpAnyH_ready (rs := [1]) (by kernel_rfl) (by simp) ?_
                        refine AllReadyH.cons rfl (fun K hK => ?_) AllReadyH.nil
                        have k1 := HB2.out.c3
                        go_simp
                        clear k1
                        refine hK.out _ _ trivial (fun _ => ?_)
                        clear hK K
                        refine wpAnyH_ready (rs := [5]) (by kernel_rfl) (by simp) ?_
                        refine AllReadyH.cons rfl (fun K hK => ?_) AllReadyH.nil
                        obtain ⟨va2, vc2, x3, happ, hrow4, hnb4, hg⟩ := HW2.out.app (t := 22) info_in (by decide) (by decide) rfl (by kernel_rfl) HS7.out [.int .i64 n2] (some ⟨B2, 0, none⟩) 1 1 (c + 1) HL3.out rfl (by intro u hu; simp at hu; subst hu; rfl) rfl (by omega)
                        have HR3 : Hid (TkAt T tb x3) := hide (HR2.out.other (HW2.out.other hg (HS7.out T (Or.inl rfl))))
                        have HB3 := hide (HB2.out.other (HW2.out.other hg (HS7.out P (Or.inr rfl))))
                        have HW3 := hide hrow4
                        clear hrow4 hnb4 hg HL3
                        refine (if_pos (by kernel_rfl)).mpr ?_
                        refine wp_append_run happ _ _ rfl rfl rfl ?_
                        simp only [Act.put, List.getElem_toArray, List.getElem_cons_succ, List.getElem_cons_zero, List.setIfInBounds_toArray, List.set_cons_zero, List.set_cons_succ]
                        refine hK.out _ _ trivial (fun _ => ?_)
                        clear hK K
                        clear happ
                        refine wpAnyH_take (i := 6) (oi := ⟨some 106, _, _, _, _, _⟩) (v := (.pointer (some ⟨P, 3, none⟩))) rfl (by kernel_rfl) (by kernel_rfl) (by kernel_rfl) (fun _ _ _ h => h) (Or.inl ⟨by rfl, fun W hS => by (go_simp)⟩) trivial ?_
                        simp only [Act.put, List.setIfInBounds_toArray, List.set_cons_zero, List.set_cons_succ]
                        refine wpAnyH_ready (rs := [7]) (by kernel_rfl) (by simp) ?_
                        refine AllReadyH.cons rfl (fun K hK => ?_) AllReadyH.nil
                        have f4 : x3.frozen? ⟨P, 3, none⟩ = false := blk_frozen HB3.out 3
                        have k4 := HB3.out.c3
                        go_simp
                        clear f4 k4
                        refine hK.out _ _ trivial (fun _ => ?_)
                        clear hK K
                        refine wpAnyH_done (by kernel_rfl) ?_ _
                        have HBF := hide (HB3.out.set3 va2 (c + 1) vc2)
                        have HRF : Hid (TkAt T tb (x3.setCell ⟨P, 3, none⟩ (.slice va2 (c + 1) vc2))) := hide (HR3.out.other (Below.heap_setCell x3 ⟨P, 3, none⟩ _ T (fun e => HPT.out e.symm)))
                        have HWF := hide (HW3.out.more ((KeptS.refl _ x3).set P 3 (.slice va2 (c + 1) vc2) (Or.inr rfl)) HS7.out)
                        go_wp2_with fail
                        exact ⟨⟨c + 1, m, va2, vc2, by go_num, by omega, by omega, hide (by have := hmq.out; omega), hide (by rw [HSU.out.1, intsC_app]; exact HWF.out), hide (by rw [HSU.out.2]; exact HRF.out), HBF⟩, by simp [intOf]⟩
                  | false =>
                    have HEX3 : Hid (ExitQ c k4 (lq, bq)) := hide (by
                      have h1 := hmq.out
                      refine ⟨by omega, ?_⟩
                      cases bq with
                      | true => exact .inr rfl
                      | false => left; simp at hg; omega)
                    clear hg HSU HLQ hmq
                    have HNQ : Hid (NetQd l gv rs1 ls os (lq, bq)) := hide (by
                      refine ⟨by rw [HN0.out], q, s3, ls.length, s5, c, ?_, ?_, ?_, ?_, ?_, ?_⟩
                      · rw [HN0.out]; simp only; rw [HN1.out]; exact HSE.out
                      · rw [HN0.out]; simp only; rw [HN1.out]; exact HEX1.out
                      · rw [HN2.out]; exact hrd.out
                      · rw [HN2.out]; exact HEX2.out
                      · rw [HN6.out]; exact HSE6.out
                      · rw [HN6.out]; exact HEX3.out)
                    have HQ8 := hide (hrow.out.kept.blk HQ7.out fun hs => Nat.lt_irrefl _ (HSG.out _ hs))
                    have HBW8 := hide (Below.ofS HBW7.out HBW7.out.size hrow.out.kept fun b hb => Nat.le_of_lt (HSG.out b hb))
                    have HRG8 := hide (HRG7.out wr hrow.out.kept)
                    have HLU8 := hide (HLU7.out wr hrow.out.kept)
                    have HOS8 : Hid (Lies (FromB T) wr oa (intsC os)) := hide (hrow.out.lies.imp fun b _ hb => by have := HS7.out T (Or.inl rfl); unfold FromB at *; omega)
                    have hcl := HOL.out
                    subst hcl
                    have hql := HRL.out
                    subst hql
                    have t0 := ht.out.c0
                    have t1 := ht.out.c1
                    simp only at t0 t1
                    clear hrow HQ7 HBW7 HRG7 HLU7 HS7 HSE HSE6 HEX1 HEX2 HEX3 hlq hm hk1l hk2l hk4l hl3 hl4 hl5 hl6 hle0 hle1 HN0 HN1 HN2 HN6 HK1L HK2L HK4L HGV
                    cases bq with
                    | true =>
                      have r0 : wr.cell? ⟨w.heap.size, 0, none⟩ = some (.int .i64 0) := by rw [blk_cell HQ8.out]; rfl
                      have r1 : wr.cell? ⟨w.heap.size, 1, none⟩ = some (.slice none 0 0) := by rw [blk_cell HQ8.out]; rfl
                      have r2 : wr.cell? ⟨w.heap.size, 2, none⟩ = some (.slice none 0 0) := by rw [blk_cell HQ8.out]; rfl
                      have r3 : wr.cell? ⟨w.heap.size, 3, none⟩ = some (.slice none 0 0) := by rw [blk_cell HQ8.out]; rfl
                      have f0 : wr.frozen? ⟨w.heap.size, 0, none⟩ = false := blk_frozen HQ8.out 0
                      have f1 : wr.frozen? ⟨w.heap.size, 1, none⟩ = false := blk_frozen HQ8.out 1
                      have f2 : wr.frozen? ⟨w.heap.size, 2, none⟩ = false := blk_frozen HQ8.out 2
                      have f3 : wr.frozen? ⟨w.heap.size, 3, none⟩ = false := blk_frozen HQ8.out 3
                      go_wp2_with fail
                      refine bodyPost_ret (results_cell_tmp rfl _ _ w.heap.size _ _ (0, 0) _ rfl (set4_me HQ8.out) Tryz.underlying44 rfl (by kernel_rfl)) rfl ?_
                      exact ⟨⟨gv, rs1, ls, os, (lq, _), HNQ.out, .inr ⟨.inl (by simp), rfl⟩⟩, (((HBW8.out.setCell (Nat.le_refl _) _).setCell (Nat.le_refl _) _).setCell (Nat.le_refl _) _).setCell (Nat.le_refl _) _⟩
                    | false =>
                      rcases lq with _ | ⟨b, lq⟩
                      case cons =>
                        have hne : (⟨(b :: lq).toArray⟩ : ByteArray).toList ≠ (⟨#[]⟩ : ByteArray).toList := by
                          rw [ByteArray.toList_eq, ByteArray.toList_eq]; simp
                        have r0 : wr.cell? ⟨w.heap.size, 0, none⟩ = some (.int .i64 0) := by rw [blk_cell HQ8.out]; rfl
                        have r1 : wr.cell? ⟨w.heap.size, 1, none⟩ = some (.slice none 0 0) := by rw [blk_cell HQ8.out]; rfl
                        have r2 : wr.cell? ⟨w.heap.size, 2, none⟩ = some (.slice none 0 0) := by rw [blk_cell HQ8.out]; rfl
                        have r3 : wr.cell? ⟨w.heap.size, 3, none⟩ = some (.slice none 0 0) := by rw [blk_cell HQ8.out]; rfl
                        have f0 : wr.frozen? ⟨w.heap.size, 0, none⟩ = false := blk_frozen HQ8.out 0
                        have f1 : wr.frozen? ⟨w.heap.size, 1, none⟩ = false := blk_frozen HQ8.out 1
                        have f2 : wr.frozen? ⟨w.heap.size, 2, none⟩ = false := blk_frozen HQ8.out 2
                        have f3 : wr.frozen? ⟨w.heap.size, 3, none⟩ = false := blk_frozen HQ8.out 3
                        go_wp2_with fail
                        refine bodyPost_ret (results_cell_tmp rfl _ _ w.heap.size _ _ (0, 0) _ rfl (set4_me HQ8.out) Tryz.underlying44 rfl (by kernel_rfl)) rfl ?_
                        exact ⟨⟨gv, rs1, ls, os, (b :: lq, _), HNQ.out, .inr ⟨.inl (by simp), rfl⟩⟩, (((HBW8.out.setCell (Nat.le_refl _) _).setCell (Nat.le_refl _) _).setCell (Nat.le_refl _) _).setCell (Nat.le_refl _) _⟩
                      case nil =>
                        have p0 : wr.cell? ⟨P, 0, none⟩ = some (.int .i64 gv) := by rw [blk_cell hnb.out]; rfl
                        have p1 := hnb.out.c1
                        have p2 := hnb.out.c2
                        have p3 := hnb.out.c3
                        cases hrt : rightT gv rs1 ls os with
                        | false =>
                          have HW := hide (rWrite_no gv rs1 ls os vc yc oc va ya oa A C wr HRG8.out HLU8.out HOS8.out (by omega) (by omega) (by omega) (fun i hi => by have := h4.out ls[i] (List.getElem_mem _); rw [ltAt_mem] at this; omega) hrt)
                          have HRT := hide hrt
                          clear hrt
                          go_wp2_with fail
                          refine HW.out.mono ?_
                          rintro e w9 ⟨rfl, hb9⟩
                          have HQ9 := hide (Below.blk hb9 HQ8.out)
                          have HBW9 := hide (Below.step HBW8.out hb9)
                          clear hb9 HW p0 p1 p2 p3 t0 t1 ht hnb
                          have r0 : w9.cell? ⟨w.heap.size, 0, none⟩ = some (.int .i64 0) := by rw [blk_cell HQ9.out]; rfl
                          have r1 : w9.cell? ⟨w.heap.size, 1, none⟩ = some (.slice none 0 0) := by rw [blk_cell HQ9.out]; rfl
                          have r2 : w9.cell? ⟨w.heap.size, 2, none⟩ = some (.slice none 0 0) := by rw [blk_cell HQ9.out]; rfl
                          have r3 : w9.cell? ⟨w.heap.size, 3, none⟩ = some (.slice none 0 0) := by rw [blk_cell HQ9.out]; rfl
                          have f0 : w9.frozen? ⟨w.heap.size, 0, none⟩ = false := blk_frozen HQ9.out 0
                          have f1 : w9.frozen? ⟨w.heap.size, 1, none⟩ = false := blk_frozen HQ9.out 1
                          have f2 : w9.frozen? ⟨w.heap.size, 2, none⟩ = false := blk_frozen HQ9.out 2
                          have f3 : w9.frozen? ⟨w.heap.size, 3, none⟩ = false := blk_frozen HQ9.out 3
                          go_wp2_with fail
                          refine bodyPost_ret (results_cell_tmp rfl _ _ w.heap.size _ _ (0, 0) _ rfl (set4_me HQ9.out) Tryz.underlying44 rfl (by kernel_rfl)) rfl ?_
                          exact ⟨⟨gv, rs1, ls, os, ([], _), HNQ.out, .inr ⟨.inr (.inl HRT.out), rfl⟩⟩, (((HBW9.out.setCell (Nat.le_refl _) _).setCell (Nat.le_refl _) _).setCell (Nat.le_refl _) _).setCell (Nat.le_refl _) _⟩
                        | true =>
                          have hRT := rightT_iff.1 hrt
                          have HRT := hide hRT
                          have HW := hide (rWrite_at gv rs1 ls os vc yc oc va ya oa A C wr HRG8.out HLU8.out HOS8.out hRT)
                          have HEQ := hide (wroteS_eq (given := gv) (rs := rs1) (ls := ls) (os := os) (l := l))
                          clear hrt hRT
                          go_wp2_with fail
                          refine HW.out.mono ?_
                          rintro e w9 ⟨rfl, hb9⟩
                          have HQ9 := hide (Below.blk hb9 HQ8.out)
                          have HP9 := hide (hnb.out.other (hb9.block P (blk_lt hnb.out)))
                          have HBW9 := hide (Below.step HBW8.out hb9)
                          have HBS := hide hb9
                          clear hb9 HW p0 p1 p2 p3 t0 t1 ht hnb
                          by_cases he : wroteS gv rs1 ls os = ⟨l.toArray⟩
                          · have HE := hide (HEQ.out.1 he)
                            rw [he]
                            clear he HEQ
                            have p0 : w9.cell? ⟨P, 0, none⟩ = some (.int .i64 gv) := by rw [blk_cell HP9.out]; rfl
                            have p1 := HP9.out.c1
                            have p2 := HP9.out.c2
                            have p3 := HP9.out.c3
                            have r0 : w9.cell? ⟨w.heap.size, 0, none⟩ = some (.int .i64 0) := by rw [blk_cell HQ9.out]; rfl
                            have r1 : w9.cell? ⟨w.heap.size, 1, none⟩ = some (.slice none 0 0) := by rw [blk_cell HQ9.out]; rfl
                            have r2 : w9.cell? ⟨w.heap.size, 2, none⟩ = some (.slice none 0 0) := by rw [blk_cell HQ9.out]; rfl
                            have r3 : w9.cell? ⟨w.heap.size, 3, none⟩ = some (.slice none 0 0) := by rw [blk_cell HQ9.out]; rfl
                            have f0 : w9.frozen? ⟨w.heap.size, 0, none⟩ = false := blk_frozen HQ9.out 0
                            have f1 : w9.frozen? ⟨w.heap.size, 1, none⟩ = false := blk_frozen HQ9.out 1
                            have f2 : w9.frozen? ⟨w.heap.size, 2, none⟩ = false := blk_frozen HQ9.out 2
                            have f3 : w9.frozen? ⟨w.heap.size, 3, none⟩ = false := blk_frozen HQ9.out 3
                            go_wp2_with fail
                            refine bodyPost_ret (results_cell_tmp rfl _ _ w.heap.size _ _ (0, 0) _ rfl (set4_me HQ9.out) Tryz.underlying44 rfl (by kernel_rfl)) rfl ?_
                            have hsm : ∀ {S : Nat → Prop} (v0 v1 v2 v3 : Value) (b : Nat), FromB T b → b < w9.heap.size → ((((w9.setCell ⟨w.heap.size, 0, none⟩ v0).setCell ⟨w.heap.size, 1, none⟩ v1).setCell ⟨w.heap.size, 2, none⟩ v2).setCell ⟨w.heap.size, 3, none⟩ v3).heap[b]? = w9.heap[b]? := fun v0 v1 v2 v3 b hb _ => set4_ne (by have := HTE.out; unfold FromB at hb; omega)
                            have him : ∀ b, FromB T b → FromB w.heap.size b := fun b hb => by have := HTE.out; unfold FromB at *; omega
                            exact ⟨⟨gv, rs1, ls, os, ([], _), HNQ.out, .inl ⟨HRT.out, HE.out, va, ya, oa, vc, yc, oc, A, C, rfl, ((HRG8.out.below HBS.out).same (hsm (S := AnyB) _ _ _ _)).imp fun b _ hb => him b hb, ((HLU8.out.below HBS.out).same (hsm (S := AnyB) _ _ _ _)).imp fun b _ hb => him b hb, ((HOS8.out.below HBS.out).same (hsm (S := AnyB) _ _ _ _)).imp fun b _ hb => him b hb⟩⟩, (((HBW9.out.setCell (Nat.le_refl _) _).setCell (Nat.le_refl _) _).setCell (Nat.le_refl _) _).setCell (Nat.le_refl _) _⟩
                          · have HE : Hid (netB gv rs1 ls os ≠ l) := hide fun h => he (HEQ.out.2 h)
                            have hne : ((wroteS gv rs1 ls os).toList == l) = false := by
                              rw [beq_eq_false_iff_ne, ByteArray.toList_eq]
                              intro h
                              exact he (ByteArray.ext (Array.toList_inj.mp (by rw [h])))
                            generalize wroteS gv rs1 ls os = TX at *
                            clear he
                            have r0 : w9.cell? ⟨w.heap.size, 0, none⟩ = some (.int .i64 0) := by rw [blk_cell HQ9.out]; rfl
                            have r1 : w9.cell? ⟨w.heap.size, 1, none⟩ = some (.slice none 0 0) := by rw [blk_cell HQ9.out]; rfl
                            have r2 : w9.cell? ⟨w.heap.size, 2, none⟩ = some (.slice none 0 0) := by rw [blk_cell HQ9.out]; rfl
                            have r3 : w9.cell? ⟨w.heap.size, 3, none⟩ = some (.slice none 0 0) := by rw [blk_cell HQ9.out]; rfl
                            have f0 : w9.frozen? ⟨w.heap.size, 0, none⟩ = false := blk_frozen HQ9.out 0
                            have f1 : w9.frozen? ⟨w.heap.size, 1, none⟩ = false := blk_frozen HQ9.out 1
                            have f2 : w9.frozen? ⟨w.heap.size, 2, none⟩ = false := blk_frozen HQ9.out 2
                            have f3 : w9.frozen? ⟨w.heap.size, 3, none⟩ = false := blk_frozen HQ9.out 3
                            go_wp2_with fail
                            refine bodyPost_ret (results_cell_tmp rfl _ _ w.heap.size _ _ (0, 0) _ rfl (set4_me HQ9.out) Tryz.underlying44 rfl (by kernel_rfl)) rfl ?_
                            exact ⟨⟨gv, rs1, ls, os, ([], _), HNQ.out, .inr ⟨.inr (.inr HE.out), rfl⟩⟩, (((HBW9.out.setCell (Nat.le_refl _) _).setCell (Nat.le_refl _) _).setCell (Nat.le_refl _) _).setCell (Nat.le_refl _) _⟩
end Go.Proofs.YtndpehjbepfbkaaGreatDoor
