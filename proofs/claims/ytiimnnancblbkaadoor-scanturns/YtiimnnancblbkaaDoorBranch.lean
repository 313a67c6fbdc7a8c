/-
  CONTRACT of branch: an if, or an elsif, and all that belongs to it; and of all statements.
-/
import Derived.Test.YtiimnnancblbkaaDoorJStm
namespace Go.Proofs.YtiimnnancblbkaaDoor
open Go.RowKit

theorem set_size (w : World) (a : Addr) (v : Value) : (w.setCell a v).heap.size = w.heap.size := by simp [World.setCell]
theorem lit_row (w : World) (c : List Value) (hc : c.length = 8) {N : Nat} (hN : N ≤ w.heap.size) : IsRow (From N) (w.alloc (.cells c.toArray 48)) 48 8 (.slice (some ⟨w.heap.size, 0, none⟩) 1 1) 1 [c].flatten := by
  refine ⟨⟨by simp [hc], .inr ⟨w.heap.size, 1, c.toArray, rfl, Nat.zero_le _, blk_new w _, Nat.le_refl _, by decide, by simp [hc], by simp [← hc]⟩⟩, fun b hb => ?_⟩
  simp [Value.ownBlock] at hb
  show N ≤ b
  omega

set_option maxRecDepth 100000 in
set_option maxHeartbeats 6400000 in
theorem branch_deep (f : Nat) {w : World} {R T cap : Nat} {ts : List Tok} {deep k : Nat} (h : Rd w R T cap ts k) (hd : 8 ≤ deep) (hd8 : deep ≤ 8) (hmore : k + 1 < ts.length) :
    Calls Tryd.prog 55 #[.pointer (some ⟨R, 0, none⟩), .int .i64 deep] w (Rds w R T cap ts (StRep w) (branchP ts (f + 1) deep k)) := by
    have hdi : (8 : Int) ≤ (deep : Int) := by omega
    have HDP := hide hd
    clear hd
    have q2 := fld2
    have q1 := fld1
    have HR := hide h
    have HSR := hide (show w.heap.size ≠ R by have := h.Rlt; omega)
    have HST := hide (show w.heap.size ≠ T by have := h.Tlt; omega)
    have HSB := hide (show 5 ≤ w.heap.size by have := h.Rlt; have := h.big; omega)
    have HWS := hide (Nat.le_refl w.heap.size)
    have HMO := hide hmore
    clear h hmore
    go_enter Tryd.func55, Tryd.ntmps55
    go_wp2_with fail
    have HN0 := hide (blk_new w (.cells #[.int .i64 0, .int .i64 0, .string ⟨#[]⟩, .pointer none, .slice none 0 0, .int .i64 0, .slice none 0 0, .slice none 0 0] 48))
    have HB0 := hide (below_alloc w (.cells #[.int .i64 0, .int .i64 0, .string ⟨#[]⟩, .pointer none, .slice none 0 0, .int .i64 0, .slice none 0 0, .slice none 0 0] 48))
    have HD0 := hide (HR.out.below HB0.out)
    generalize (w.alloc (.cells #[.int .i64 0, .int .i64 0, .string ⟨#[]⟩, .pointer none, .slice none 0 0, .int .i64 0, .slice none 0 0, .slice none 0 0] 48)) = w0 at *
    refine (take_at HD0.out HMO.out).mono ?_
    rintro e w1 ⟨rfl, hd1, hk1⟩
    have HD1 := hide hd1
    have HK1 := hide ((Kept.of HB0.out).trans hk1)
    have HS1 := hide (hk1.blk HN0.out HSR.out)
    clear hd1 hk1
    go_wp2_with fail
    refine (wrong_at 4 (HD1.out.below (below_alloc _ _))).mono ?_
    rintro e w2 ⟨A, rfl, hA, hb2⟩
    have HA := hide hA
    have HB2 := hide hb2
    clear hA hb2
    go_wp2_with fail
    exact ⟨rfl, Rds.bad (by simp only [branchP, if_pos HDP.out]) ((HK1.out.alloc _).below HB2.out) HA.out⟩

set_option maxRecDepth 100000 in
set_option maxHeartbeats 6400000 in
theorem branch_main (f : Nat) (ihs : StmtsOK f) (ihb : BranchOK f) {w : World} {R T cap : Nat} {ts : List Tok} {deep k : Nat} (h : Rd w R T cap ts k) (hd : ¬ 8 ≤ deep) (hmore : k + 1 < ts.length) (hout : branchP ts (f + 1) deep k ≠ .out) :
    Calls Tryd.prog 55 #[.pointer (some ⟨R, 0, none⟩), .int .i64 deep] w (Rds w R T cap ts (StRep w) (branchP ts (f + 1) deep k)) := by
    have hdi : ¬ (8 : Int) ≤ (deep : Int) := by omega
    have hdb : deep < 8 := by omega
    have HDP := hide hd
    have HO := hide hout
    have IHS := hide ihs
    have IHB := hide ihb
    have HOE : Hid (twoP ts f 1 0 (k + 1) ≠ .out) := fun e => hout (by simp only [branchP, if_neg hd, e, Res.bind])
    clear hd hout ihs ihb
    have q2 := fld2
    have q1 := fld1
    have HR := hide h
    have HSR := hide (show w.heap.size ≠ R by have := h.Rlt; omega)
    have HST := hide (show w.heap.size ≠ T by have := h.Tlt; omega)
    have HSB := hide (show 5 ≤ w.heap.size by have := h.Rlt; have := h.big; omega)
    have HWS := hide (Nat.le_refl w.heap.size)
    have HMO := hide hmore
    clear h hmore
    go_enter Tryd.func55, Tryd.ntmps55
    go_wp2_with fail
    have HN0 := hide (blk_new w (.cells #[.int .i64 0, .int .i64 0, .string ⟨#[]⟩, .pointer none, .slice none 0 0, .int .i64 0, .slice none 0 0, .slice none 0 0] 48))
    have HB0 := hide (below_alloc w (.cells #[.int .i64 0, .int .i64 0, .string ⟨#[]⟩, .pointer none, .slice none 0 0, .int .i64 0, .slice none 0 0, .slice none 0 0] 48))
    have HD0 := hide (HR.out.below HB0.out)
    generalize (w.alloc (.cells #[.int .i64 0, .int .i64 0, .string ⟨#[]⟩, .pointer none, .slice none 0 0, .int .i64 0, .slice none 0 0, .slice none 0 0] 48)) = w0 at *
    refine (take_at HD0.out HMO.out).mono ?_
    rintro e w1 ⟨rfl, hd1, hk1⟩
    have HD1 := hide hd1
    have HK1 := hide ((Kept.of HB0.out).trans hk1)
    have HS1 := hide (hk1.blk HN0.out HSR.out)
    clear hd1 hk1
    go_wp2_with fail
    have HVR := hide (show w1.heap.size ≠ R by have := HD1.out.Rlt; omega)
    have HVT := hide (show w1.heap.size ≠ T by have := HD1.out.Tlt; omega)
    have HVB := hide (show 5 ≤ w1.heap.size by have := HD1.out.Rlt; have := HD1.out.big; omega)
    have HSV := hide (show w.heap.size ≠ w1.heap.size by have := blk_lt HS1.out; omega)
    have HN3 := hide (blk_new w1 (.cells #[.int .i64 2, .int .i64 (tk ts k).pos, .string ⟨#[]⟩, .pointer none, .slice none 0 0, .int .i64 0, .slice none 0 0, .slice none 0 0] 48))
    have HD3 := hide (HD1.out.below (below_alloc w1 (.cells #[.int .i64 2, .int .i64 (tk ts k).pos, .string ⟨#[]⟩, .pointer none, .slice none 0 0, .int .i64 0, .slice none 0 0, .slice none 0 0] 48)))
    have HK3 := hide (HK1.out.alloc (.cells #[.int .i64 2, .int .i64 (tk ts k).pos, .string ⟨#[]⟩, .pointer none, .slice none 0 0, .int .i64 0, .slice none 0 0, .slice none 0 0] 48))
    have HS3 := hide (Below.blk (below_alloc w1 (.cells #[.int .i64 2, .int .i64 (tk ts k).pos, .string ⟨#[]⟩, .pointer none, .slice none 0 0, .int .i64 0, .slice none 0 0, .slice none 0 0] 48)) HS1.out)
    have HWV := hide HK1.out.size
    generalize (w1.alloc (.cells #[.int .i64 2, .int .i64 (tk ts k).pos, .string ⟨#[]⟩, .pointer none, .slice none 0 0, .int .i64 0, .slice none 0 0, .slice none 0 0] 48)) = w3 at *
    generalize w1.heap.size = V at *
    have HVLT := hide (blk_lt HN3.out)
    have HSLT := hide (blk_lt HS3.out)
    have HRLT := hide HD3.out.Rlt
    refine (expr_at f HD3.out HOE.out).mono ?_
    rintro e w4 h4
    rcases h4.cases with ⟨er4, p4, A4, hr4, rfl, hA4, hk4⟩ | ⟨a4, k4, v4, hr4, rfl, hv4, hd4, hk4⟩
    · have Hr4 := hide hr4
      have HA4 := hide hA4
      have HK4 := hide (HK3.out.trans hk4)
      clear h4 hr4 hA4 hk4
      go_wp2_with fail
      exact ⟨rfl, Rds.bad (by simp only [branchP, if_neg HDP.out, Hr4.out, Res.bind]) HK4.out HA4.out⟩
    · have Hr4 := hide hr4
      have HD4 := hide hd4
      have HK4 := hide (HK3.out.trans hk4)
      obtain ⟨Q4, rfl⟩ := hv4.ptr
      have HX4 := hide hv4
      clear hv4
      have HV4 := hide (hk4.blk HN3.out HVR.out)
      have HS4 := hide (hk4.blk HS3.out HSR.out)
      have HK34 := hide hk4.size
      clear h4 hr4 hd4 hk4
      have HV5 := hide (blk_set HV4.out 3 (.pointer (some ⟨Q4, 0, none⟩)))
      have HS5 : Hid ((w4.setCell ⟨V, 3, none⟩ (.pointer (some ⟨Q4, 0, none⟩))).heap[w.heap.size]? = _) := (set_other _ 3 _ HSV.out).trans HS4.out
      have HD5 := hide (HD4.out.other 3 (.pointer (some ⟨Q4, 0, none⟩)) HVR.out HVT.out HVB.out)
      have HK5 := hide (HK4.out.new 3 (.pointer (some ⟨Q4, 0, none⟩)) HWV.out)
      have HK35 := hide (show w3.heap.size ≤ (w4.setCell ⟨V, 3, none⟩ (.pointer (some ⟨Q4, 0, none⟩))).heap.size by rw [set_size]; exact HK34.out)
      have HX5 := hide (HX4.out.same (w' := w4.setCell ⟨V, 3, none⟩ (.pointer (some ⟨Q4, 0, none⟩))) fun b h1 _ => set_other _ 3 _ (by have : w3.heap.size ≤ b := h1; have := HVLT.out; omega))
      have vv3 : w4.cell? ⟨V, 3, none⟩ = some (.pointer none) := by rw [blk_cell HV4.out]; rfl
      have vvf : ∀ i, w4.frozen? ⟨V, i, none⟩ = false := blk_frozen HV4.out
      go_wp2_with fail
      clear vv3 vvf
      generalize (w4.setCell ⟨V, 3, none⟩ (.pointer (some ⟨Q4, 0, none⟩))) = w5 at *
      refine (need_at [116, 104, 101, 110] (by decide) HD5.out).mono ?_
      rintro e w6 h6
      rcases h6.cases with ⟨er6, p6, A6, hr6, rfl, hA6, hk6⟩ | ⟨a6, k6, v6, hr6, rfl, hv6, hd6, hk6⟩
      · have Hr6 := hide hr6
        have HA6 := hide hA6
        have HK6 := hide (HK5.out.trans hk6)
        clear h6 hr6 hA6 hk6
        go_wp2_with fail
        exact ⟨rfl, Rds.bad (by simp only [branchP, if_neg HDP.out, Hr4.out, Hr6.out, Res.bind]) HK6.out HA6.out⟩
      · have Hr6 := hide hr6
        have HD6 := hide hd6
        have HK6 := hide (HK5.out.trans hk6)
        subst hv6
        have HV6 := hide (hk6.blk HV5.out HVR.out)
        have HS6 := hide (hk6.blk HS5.out HSR.out)
        have HX6 := hide (HX5.out.same fun b h1 h2 => hk6.block b h2 (by have : w3.heap.size ≤ b := h1; have := HRLT.out; omega))
        have HK36 := hide (Nat.le_trans HK35.out hk6.size)
        clear h6 hr6 hd6 hk6
        go_wp2_with fail
        have HOS : Hid (stmtsP ts f (deep + 1) k6 [] ≠ .out) := fun e => HO.out (by simp only [branchP, if_neg HDP.out, Hr4.out, Hr6.out, e, Res.bind])
        rw [show ((deep : Int) + 1) = ((deep + 1 : Nat) : Int) by omega]
        refine (IHS.out w6 R T cap ts (deep + 1) k6 HD6.out (by omega) HOS.out).mono ?_
        rintro e w7 h7
        rcases h7.cases with ⟨er7, p7, A7, hr7, rfl, hA7, hk7⟩ | ⟨a7, k7, v7, hr7, rfl, hv7, hd7, hk7⟩
        · have Hr7 := hide hr7
          have HA7 := hide hA7
          have HK7 := hide (HK6.out.trans hk7)
          clear h7 hr7 hA7 hk7
          go_wp2_with fail
          exact ⟨rfl, Rds.bad (by simp only [branchP, if_neg HDP.out, Hr4.out, Hr6.out, Hr7.out, Res.bind]) HK7.out HA7.out⟩
        · have Hr7 := hide hr7
          have HD7 := hide hd7
          have HK7 := hide (HK6.out.trans hk7)
          obtain ⟨sa, sc, rfl⟩ := (show ∃ (a : Option Addr) (c : Nat), v7 = .slice a a7.length c from by obtain ⟨cs, hr, _⟩ := hv7; exact hr.val)
          have HT7 := hide (hv7.imp fun b _ h => Nat.le_trans HK36.out h)
          clear hv7
          have HV7 := hide (hk7.blk HV6.out HVR.out)
          have HS7 := hide (hk7.blk HS6.out HSR.out)
          have HX7 := hide (HX6.out.same fun b h1 h2 => hk7.block b h2 (by have : w3.heap.size ≤ b := h1; have := HRLT.out; omega))
          have HK37 := hide (Nat.le_trans HK36.out hk7.size)
          clear h7 hr7 hd7 hk7
          have HV8 := hide (blk_set HV7.out 6 (.slice sa a7.length sc))
          have HS8 : Hid ((w7.setCell ⟨V, 6, none⟩ (.slice sa a7.length sc)).heap[w.heap.size]? = _) := (set_other _ 6 _ HSV.out).trans HS7.out
          have HD8 := hide (HD7.out.other 6 (.slice sa a7.length sc) HVR.out HVT.out HVB.out)
          have HK8 := hide (HK7.out.new 6 (.slice sa a7.length sc) HWV.out)
          have HK38 := hide (show w3.heap.size ≤ (w7.setCell ⟨V, 6, none⟩ (.slice sa a7.length sc)).heap.size by rw [set_size]; exact HK37.out)
          have HX8 := hide (HX7.out.same (w' := w7.setCell ⟨V, 6, none⟩ (.slice sa a7.length sc)) fun b h1 _ => set_other _ 6 _ (by have : w3.heap.size ≤ b := h1; have := HVLT.out; omega))
          have HT8 := hide (HT7.out.same (w' := w7.setCell ⟨V, 6, none⟩ (.slice sa a7.length sc)) fun b h1 _ => set_other _ 6 _ (by have : w3.heap.size ≤ b := h1; have := HVLT.out; omega))
          have vv6 : w7.cell? ⟨V, 6, none⟩ = some (.slice none 0 0) := by rw [blk_cell HV7.out]; rfl
          have vvf : ∀ i, w7.frozen? ⟨V, i, none⟩ = false := blk_frozen HV7.out
          go_wp2_with fail
          clear vv6 vvf
          generalize (w7.setCell ⟨V, 6, none⟩ (.slice sa a7.length sc)) = w8 at *
          refine (now_at HD8.out).mono ?_
          rintro e w10 ⟨rfl, hb10⟩
          have hk10 := Kept.of (R := R) hb10
          have HD10 := hide (HD8.out.below hb10)
          have HK10 := hide (HK8.out.trans hk10)
          have HK310 := hide (Nat.le_trans HK38.out hk10.size)
          have HV10 := hide (hk10.blk HV8.out HVR.out)
          have HS10 := hide (hk10.blk HS8.out HSR.out)
          have HX10 := hide (HX8.out.same fun b h1 h2 => hk10.block b h2 (by have : w3.heap.size ≤ b := h1; have := HRLT.out; omega))
          have HT10 := hide (HT8.out.same fun b h1 h2 => hk10.block b h2 (by have : w3.heap.size ≤ b := h1; have := HRLT.out; omega))
          clear hb10 hk10
          cases hef : (tx ts k7 == [101, 108, 115, 105, 102]) with
          | true =>
            have HEF := hide hef
            have htx : ((tk ts k7).text.toList == [101, 108, 115, 105, 102]) = true := hef
            have HM7 := hide (HD10.out.fit.more HD10.out.lt hef (by decide))
            have HOB : Hid (branchP ts f (deep + 1) k7 ≠ .out) := fun e => HO.out (by simp only [branchP, if_neg HDP.out, Hr4.out, Hr6.out, Hr7.out, hef, if_true, e, Res.bind])
            clear hef
            go_wp2_with fail
            rw [show ((deep : Int) + 1) = ((deep + 1 : Nat) : Int) by omega]
            refine (IHB.out w10 R T cap ts (deep + 1) k7 HD10.out (by omega) HM7.out HOB.out).mono ?_
            rintro e w12 h12
            rcases h12.cases with ⟨er12, p12, A12, hr12, rfl, hA12, hk12⟩ | ⟨a12, k12, v12, hr12, rfl, hv12, hd12, hk12⟩
            · have Hr12 := hide hr12
              have HA12 := hide hA12
              have HK12 := hide (HK10.out.trans hk12)
              clear h12 hr12 hA12 hk12
              go_wp2_with fail
              exact ⟨rfl, Rds.bad (by simp only [branchP, if_neg HDP.out, Hr4.out, Hr6.out, Hr7.out, HEF.out, if_true, Hr12.out, Res.bind]) HK12.out HA12.out⟩
            · have Hr12 := hide hr12
              have HD12 := hide hd12
              have HK12 := hide (HK10.out.trans hk12)
              obtain ⟨c, rfl, hst⟩ := hv12
              obtain ⟨hc8, _⟩ := IsSt.form _ _ hst
              obtain ⟨c0, c1, c2, c3, c4, c5, c6, c7, rfl⟩ := eight c hc8
              have HST12 : Hid (IsSt (From w3.heap.size) w12 a12 [c0, c1, c2, c3, c4, c5, c6, c7]) := IsSt.imp (fun b _ h => Nat.le_trans HK310.out h) _ _ hst
              clear hst hc8
              have HV12 := hide (hk12.blk HV10.out HVR.out)
              have HS12 := hide (hk12.blk HS10.out HSR.out)
              have HX12 := hide (HX10.out.same fun b h1 h2 => hk12.block b h2 (by have : w3.heap.size ≤ b := h1; have := HRLT.out; omega))
              have HT12 := hide (HT10.out.same fun b h1 h2 => hk12.block b h2 (by have : w3.heap.size ≤ b := h1; have := HRLT.out; omega))
              have HK312 := hide (Nat.le_trans HK310.out hk12.size)
              clear h12 hr12 hd12 hk12
              have HD13 := hide (HD12.out.below (below_alloc w12 (.cells #[c0, c1, c2, c3, c4, c5, c6, c7] 48)))
              have HK13 := hide (HK12.out.alloc (.cells #[c0, c1, c2, c3, c4, c5, c6, c7] 48))
              have HV13 := hide (Below.blk (below_alloc w12 (.cells #[c0, c1, c2, c3, c4, c5, c6, c7] 48)) HV12.out)
              have HS13 := hide (Below.blk (below_alloc w12 (.cells #[c0, c1, c2, c3, c4, c5, c6, c7] 48)) HS12.out)
              have HX13 := hide (HX12.out.same fun b _ h2 => (below_alloc w12 (.cells #[c0, c1, c2, c3, c4, c5, c6, c7] 48)).block b h2)
              have HT13 := hide (HT12.out.same fun b _ h2 => (below_alloc w12 (.cells #[c0, c1, c2, c3, c4, c5, c6, c7] 48)).block b h2)
              have HE13 : Hid (IsSts (From w3.heap.size) (w12.alloc (.cells #[c0, c1, c2, c3, c4, c5, c6, c7] 48)) [a12] (.slice (some ⟨w12.heap.size, 0, none⟩) 1 1)) := ⟨[[c0, c1, c2, c3, c4, c5, c6, c7]], lit_row w12 [c0, c1, c2, c3, c4, c5, c6, c7] rfl HK312.out, by
                simp only [IsStL, and_true]
                exact IsSt.same (fun b _ h2 => (below_alloc w12 _).block b h2) _ _ HST12.out⟩
              have v0 : (w12.alloc (.cells #[c0, c1, c2, c3, c4, c5, c6, c7] 48)).cell? ⟨V, 0, none⟩ = some (.int .i64 2) := by rw [blk_cell HV13.out]; rfl
              have v1 : (w12.alloc (.cells #[c0, c1, c2, c3, c4, c5, c6, c7] 48)).cell? ⟨V, 1, none⟩ = some (.int .i64 (tk ts k).pos) := by rw [blk_cell HV13.out]; rfl
              have v2 : (w12.alloc (.cells #[c0, c1, c2, c3, c4, c5, c6, c7] 48)).cell? ⟨V, 2, none⟩ = some (.string ⟨#[]⟩) := by rw [blk_cell HV13.out]; rfl
              have v3 : (w12.alloc (.cells #[c0, c1, c2, c3, c4, c5, c6, c7] 48)).cell? ⟨V, 3, none⟩ = some (.pointer (some ⟨Q4, 0, none⟩)) := by rw [blk_cell HV13.out]; rfl
              have v4 : (w12.alloc (.cells #[c0, c1, c2, c3, c4, c5, c6, c7] 48)).cell? ⟨V, 4, none⟩ = some (.slice none 0 0) := by rw [blk_cell HV13.out]; rfl
              have v5 : (w12.alloc (.cells #[c0, c1, c2, c3, c4, c5, c6, c7] 48)).cell? ⟨V, 5, none⟩ = some (.int .i64 0) := by rw [blk_cell HV13.out]; rfl
              have v6 : (w12.alloc (.cells #[c0, c1, c2, c3, c4, c5, c6, c7] 48)).cell? ⟨V, 6, none⟩ = some (.slice sa a7.length sc) := by rw [blk_cell HV13.out]; rfl
              have v7 : (w12.alloc (.cells #[c0, c1, c2, c3, c4, c5, c6, c7] 48)).cell? ⟨V, 7, none⟩ = some (.slice none 0 0) := by rw [blk_cell HV13.out]; rfl
              have vf : ∀ i, (w12.alloc (.cells #[c0, c1, c2, c3, c4, c5, c6, c7] 48)).frozen? ⟨V, i, none⟩ = false := blk_frozen HV13.out
              have s0 : (w12.alloc (.cells #[c0, c1, c2, c3, c4, c5, c6, c7] 48)).cell? ⟨w.heap.size, 0, none⟩ = some (.int .i64 0) := by rw [blk_cell HS13.out]; rfl
              have s1 : (w12.alloc (.cells #[c0, c1, c2, c3, c4, c5, c6, c7] 48)).cell? ⟨w.heap.size, 1, none⟩ = some (.int .i64 0) := by rw [blk_cell HS13.out]; rfl
              have s2 : (w12.alloc (.cells #[c0, c1, c2, c3, c4, c5, c6, c7] 48)).cell? ⟨w.heap.size, 2, none⟩ = some (.string ⟨#[]⟩) := by rw [blk_cell HS13.out]; rfl
              have s3 : (w12.alloc (.cells #[c0, c1, c2, c3, c4, c5, c6, c7] 48)).cell? ⟨w.heap.size, 3, none⟩ = some (.pointer none) := by rw [blk_cell HS13.out]; rfl
              have s4 : (w12.alloc (.cells #[c0, c1, c2, c3, c4, c5, c6, c7] 48)).cell? ⟨w.heap.size, 4, none⟩ = some (.slice none 0 0) := by rw [blk_cell HS13.out]; rfl
              have s5 : (w12.alloc (.cells #[c0, c1, c2, c3, c4, c5, c6, c7] 48)).cell? ⟨w.heap.size, 5, none⟩ = some (.int .i64 0) := by rw [blk_cell HS13.out]; rfl
              have s6 : (w12.alloc (.cells #[c0, c1, c2, c3, c4, c5, c6, c7] 48)).cell? ⟨w.heap.size, 6, none⟩ = some (.slice none 0 0) := by rw [blk_cell HS13.out]; rfl
              have s7 : (w12.alloc (.cells #[c0, c1, c2, c3, c4, c5, c6, c7] 48)).cell? ⟨w.heap.size, 7, none⟩ = some (.slice none 0 0) := by rw [blk_cell HS13.out]; rfl
              have sf : ∀ i, (w12.alloc (.cells #[c0, c1, c2, c3, c4, c5, c6, c7] 48)).frozen? ⟨w.heap.size, i, none⟩ = false := blk_frozen HS13.out
              have hne1 : ¬ V = w.heap.size := fun e => HSV.out e.symm
              have hne2 : ¬ w.heap.size = V := HSV.out
              go_wp2_with fail
              refine bodyPost_ret (v := .agg #[.int .i64 2, .int .i64 (tk ts k).pos, .string ⟨#[]⟩, .pointer (some ⟨Q4, 0, none⟩), .slice none 0 0, .int .i64 0, .slice sa a7.length sc, .slice (some ⟨w12.heap.size, 0, none⟩) 1 1]) (by simp [results, Tryd.results55, go_sem, s0, s1, s2, s3, s4, s5, s6, s7]) rfl ?_
              refine Rds.ok (a := St.cond (tk ts k).pos a4 a7 [a12]) (k' := k12) (by simp only [branchP, if_neg HDP.out, Hr4.out, Hr6.out, Hr7.out, HEF.out, if_true, Hr12.out, Res.bind]) (Kept.put8 (HK13.out.new 7 _ HWV.out) _ _ _ _ _ _ _ _ HWS.out) (Rd.put8 (HD13.out.other 7 _ HVR.out HVT.out HVB.out) _ _ _ _ _ _ _ _ HSR.out HST.out HSB.out) ⟨[.int .i64 2, .int .i64 (tk ts k).pos, .string ⟨#[]⟩, .pointer (some ⟨Q4, 0, none⟩), .slice none 0 0, .int .i64 0, .slice sa a7.length sc, .slice (some ⟨w12.heap.size, 0, none⟩) 1 1], rfl, ?_⟩
              have keep : ∀ b, From w3.heap.size b → b < (w12.alloc (.cells #[c0, c1, c2, c3, c4, c5, c6, c7] 48)).heap.size → (put8 ((w12.alloc (.cells #[c0, c1, c2, c3, c4, c5, c6, c7] 48)).setCell ⟨V, 7, none⟩ (.slice (some ⟨w12.heap.size, 0, none⟩) 1 1)) w.heap.size (.int .i64 2) (.int .i64 (tk ts k).pos) (.string ⟨#[]⟩) (.pointer (some ⟨Q4, 0, none⟩)) (.slice none 0 0) (.int .i64 0) (.slice sa a7.length sc) (.slice (some ⟨w12.heap.size, 0, none⟩) 1 1)).heap[b]? = (w12.alloc (.cells #[c0, c1, c2, c3, c4, c5, c6, c7] 48)).heap[b]? := fun b h1 _ => (put8_other _ _ _ _ _ _ _ _ _ (by have : w3.heap.size ≤ b := h1; have := HSLT.out; omega)).trans (set_other _ 7 _ (by have : w3.heap.size ≤ b := h1; have := HVLT.out; omega))
              obtain ⟨cs, h1, h2⟩ := HT13.out.same (w' := put8 ((w12.alloc (.cells #[c0, c1, c2, c3, c4, c5, c6, c7] 48)).setCell ⟨V, 7, none⟩ (.slice (some ⟨w12.heap.size, 0, none⟩) 1 1)) w.heap.size (.int .i64 2) (.int .i64 (tk ts k).pos) (.string ⟨#[]⟩) (.pointer (some ⟨Q4, 0, none⟩)) (.slice none 0 0) (.int .i64 0) (.slice sa a7.length sc) (.slice (some ⟨w12.heap.size, 0, none⟩) 1 1)) keep
              obtain ⟨ds, h3, h4⟩ := HE13.out.same (w' := put8 ((w12.alloc (.cells #[c0, c1, c2, c3, c4, c5, c6, c7] 48)).setCell ⟨V, 7, none⟩ (.slice (some ⟨w12.heap.size, 0, none⟩) 1 1)) w.heap.size (.int .i64 2) (.int .i64 (tk ts k).pos) (.string ⟨#[]⟩) (.pointer (some ⟨Q4, 0, none⟩)) (.slice none 0 0) (.int .i64 0) (.slice sa a7.length sc) (.slice (some ⟨w12.heap.size, 0, none⟩) 1 1)) keep
              have low : ∀ b, b < (put8 ((w12.alloc (.cells #[c0, c1, c2, c3, c4, c5, c6, c7] 48)).setCell ⟨V, 7, none⟩ (.slice (some ⟨w12.heap.size, 0, none⟩) 1 1)) w.heap.size (.int .i64 2) (.int .i64 (tk ts k).pos) (.string ⟨#[]⟩) (.pointer (some ⟨Q4, 0, none⟩)) (.slice none 0 0) (.int .i64 0) (.slice sa a7.length sc) (.slice (some ⟨w12.heap.size, 0, none⟩) 1 1)).heap.size → From w3.heap.size b → From w.heap.size b := fun b _ h => Nat.le_trans HK3.out.size h
              simp only [IsSt]
              exact ⟨_, _, _, cs, ds, rfl, (HX13.out.same (w' := put8 ((w12.alloc (.cells #[c0, c1, c2, c3, c4, c5, c6, c7] 48)).setCell ⟨V, 7, none⟩ (.slice (some ⟨w12.heap.size, 0, none⟩) 1 1)) w.heap.size (.int .i64 2) (.int .i64 (tk ts k).pos) (.string ⟨#[]⟩) (.pointer (some ⟨Q4, 0, none⟩)) (.slice none 0 0) (.int .i64 0) (.slice sa a7.length sc) (.slice (some ⟨w12.heap.size, 0, none⟩) 1 1)) keep).low HK3.out.size, h1.imp low, IsStL.imp low _ _ h2, h3.imp low, IsStL.imp low _ _ h4⟩
          | false =>
            have HEF := hide hef
            have htx : ((tk ts k7).text.toList == [101, 108, 115, 105, 102]) = false := hef
            clear hef
            go_wp2_with fail
            cases hel : (tx ts k7 == [101, 108, 115, 101]) with
            | true =>
              have HEL := hide hel
              have HOS : Hid (stmtsP ts f (deep + 1) (k7 + 1) [] ≠ .out) := fun e => HO.out (by simp only [branchP, if_neg HDP.out, Hr4.out, Hr6.out, Hr7.out, HEF.out, hel, Bool.false_eq_true, if_false, if_true, e, Res.bind])
              clear hel
              refine (yes_at [101, 108, 115, 101] (by decide) HD10.out HEL.out).mono ?_
              rintro e w11 ⟨rfl, hd11, hk11⟩
              have HD11 := hide hd11
              have HK11 := hide (HK10.out.trans hk11)
              have HV11 := hide (hk11.blk HV10.out HVR.out)
              have HS11 := hide (hk11.blk HS10.out HSR.out)
              have HX11 := hide (HX10.out.same fun b h1 h2 => hk11.block b h2 (by have : w3.heap.size ≤ b := h1; have := HRLT.out; omega))
              have HT11 := hide (HT10.out.same fun b h1 h2 => hk11.block b h2 (by have : w3.heap.size ≤ b := h1; have := HRLT.out; omega))
              have HK311 := hide (Nat.le_trans HK310.out hk11.size)
              clear hd11 hk11
              go_wp2_with fail
              rw [show ((deep : Int) + 1) = ((deep + 1 : Nat) : Int) by omega]
              refine (IHS.out w11 R T cap ts (deep + 1) (k7 + 1) HD11.out (by omega) HOS.out).mono ?_
              rintro e w12 h12
              rcases h12.cases with ⟨er12, p12, A12, hr12, rfl, hA12, hk12⟩ | ⟨a12, k12, v12, hr12, rfl, hv12, hd12, hk12⟩
              · have Hr12 := hide hr12
                have HA12 := hide hA12
                have HK12 := hide (HK11.out.trans hk12)
                clear h12 hr12 hA12 hk12
                go_wp2_with fail
                exact ⟨rfl, Rds.bad (by simp only [branchP, if_neg HDP.out, Hr4.out, Hr6.out, Hr7.out, HEF.out, HEL.out, Bool.false_eq_true, if_false, if_true, Hr12.out, Res.bind]) HK12.out HA12.out⟩
              · have Hr12 := hide hr12
                have HD12 := hide hd12
                have HK12 := hide (HK11.out.trans hk12)
                obtain ⟨ea, ec, rfl⟩ := (show ∃ (a : Option Addr) (c : Nat), v12 = .slice a a12.length c from by obtain ⟨cs, hr, _⟩ := hv12; exact hr.val)
                have HE12 := hide (hv12.imp fun b _ h => Nat.le_trans HK311.out h)
                clear hv12
                have HV12 := hide (hk12.blk HV11.out HVR.out)
                have HS12 := hide (hk12.blk HS11.out HSR.out)
                have HX12 := hide (HX11.out.same fun b h1 h2 => hk12.block b h2 (by have : w3.heap.size ≤ b := h1; have := HRLT.out; omega))
                have HT12 := hide (HT11.out.same fun b h1 h2 => hk12.block b h2 (by have : w3.heap.size ≤ b := h1; have := HRLT.out; omega))
                clear h12 hr12 hd12 hk12
                have HV13 := hide (blk_set HV12.out 7 (.slice ea a12.length ec))
                have HS13 : Hid ((w12.setCell ⟨V, 7, none⟩ (.slice ea a12.length ec)).heap[w.heap.size]? = _) := (set_other _ 7 _ HSV.out).trans HS12.out
                have HD13 := hide (HD12.out.other 7 (.slice ea a12.length ec) HVR.out HVT.out HVB.out)
                have HK13 := hide (HK12.out.new 7 (.slice ea a12.length ec) HWV.out)
                have HX13 := hide (HX12.out.same (w' := w12.setCell ⟨V, 7, none⟩ (.slice ea a12.length ec)) fun b h1 _ => set_other _ 7 _ (by have : w3.heap.size ≤ b := h1; have := HVLT.out; omega))
                have HT13 := hide (HT12.out.same (w' := w12.setCell ⟨V, 7, none⟩ (.slice ea a12.length ec)) fun b h1 _ => set_other _ 7 _ (by have : w3.heap.size ≤ b := h1; have := HVLT.out; omega))
                have HE13 := hide (HE12.out.same (w' := w12.setCell ⟨V, 7, none⟩ (.slice ea a12.length ec)) fun b h1 _ => set_other _ 7 _ (by have : w3.heap.size ≤ b := h1; have := HVLT.out; omega))
                have vv7 : w12.cell? ⟨V, 7, none⟩ = some (.slice none 0 0) := by rw [blk_cell HV12.out]; rfl
                have vvf : ∀ i, w12.frozen? ⟨V, i, none⟩ = false := blk_frozen HV12.out
                go_wp2_with fail
                clear vv7 vvf
                generalize (w12.setCell ⟨V, 7, none⟩ (.slice ea a12.length ec)) = w13 at *
                refine (need_at [101, 110, 100] (by decide) HD13.out).mono ?_
                rintro e w14 h14
                rcases h14.cases with ⟨er14, p14, A14, hr14, rfl, hA14, hk14⟩ | ⟨a14, k14, v14, hr14, rfl, hv14, hd14, hk14⟩
                · have Hr14 := hide hr14
                  have HA14 := hide hA14
                  have HK14 := hide (HK13.out.trans hk14)
                  clear h14 hr14 hA14 hk14
                  go_wp2_with fail
                  exact ⟨rfl, Rds.bad (by simp only [branchP, if_neg HDP.out, Hr4.out, Hr6.out, Hr7.out, HEF.out, HEL.out, Bool.false_eq_true, if_false, if_true, Hr12.out, Hr14.out, Res.bind]) HK14.out HA14.out⟩
                · have Hr14 := hide hr14
                  have HD14 := hide hd14
                  have HK14 := hide (HK13.out.trans hk14)
                  subst hv14
                  have HV14 := hide (hk14.blk HV13.out HVR.out)
                  have HS14 := hide (hk14.blk HS13.out HSR.out)
                  have HX14 := hide (HX13.out.same fun b h1 h2 => hk14.block b h2 (by have : w3.heap.size ≤ b := h1; have := HRLT.out; omega))
                  have HT14 := hide (HT13.out.same fun b h1 h2 => hk14.block b h2 (by have : w3.heap.size ≤ b := h1; have := HRLT.out; omega))
                  have HE14 := hide (HE13.out.same fun b h1 h2 => hk14.block b h2 (by have : w3.heap.size ≤ b := h1; have := HRLT.out; omega))
                  clear h14 hr14 hd14 hk14
                  go_wp2_with fail
                  refine (need_at [59] (by decide) HD14.out).mono ?_
                  rintro e w15 h15
                  rcases h15.cases with ⟨er15, p15, A15, hr15, rfl, hA15, hk15⟩ | ⟨a15, k15, v15, hr15, rfl, hv15, hd15, hk15⟩
                  · have Hr15 := hide hr15
                    have HA15 := hide hA15
                    have HK15 := hide (HK14.out.trans hk15)
                    clear h15 hr15 hA15 hk15
                    go_wp2_with fail
                    exact ⟨rfl, Rds.bad (by simp only [branchP, if_neg HDP.out, Hr4.out, Hr6.out, Hr7.out, HEF.out, HEL.out, Bool.false_eq_true, if_false, if_true, Hr12.out, Hr14.out, Hr15.out, Res.bind]) HK15.out HA15.out⟩
                  · have Hr15 := hide hr15
                    have HD15 := hide hd15
                    have HK15 := hide (HK14.out.trans hk15)
                    subst hv15
                    have HV15 := hide (hk15.blk HV14.out HVR.out)
                    have HS15 := hide (hk15.blk HS14.out HSR.out)
                    have HX15 := hide (HX14.out.same fun b h1 h2 => hk15.block b h2 (by have : w3.heap.size ≤ b := h1; have := HRLT.out; omega))
                    have HT15 := hide (HT14.out.same fun b h1 h2 => hk15.block b h2 (by have : w3.heap.size ≤ b := h1; have := HRLT.out; omega))
                    have HE15 := hide (HE14.out.same fun b h1 h2 => hk15.block b h2 (by have : w3.heap.size ≤ b := h1; have := HRLT.out; omega))
                    clear h15 hr15 hd15 hk15
                    have v0 : w15.cell? ⟨V, 0, none⟩ = some (.int .i64 2) := by rw [blk_cell HV15.out]; rfl
                    have v1 : w15.cell? ⟨V, 1, none⟩ = some (.int .i64 (tk ts k).pos) := by rw [blk_cell HV15.out]; rfl
                    have v2 : w15.cell? ⟨V, 2, none⟩ = some (.string ⟨#[]⟩) := by rw [blk_cell HV15.out]; rfl
                    have v3 : w15.cell? ⟨V, 3, none⟩ = some (.pointer (some ⟨Q4, 0, none⟩)) := by rw [blk_cell HV15.out]; rfl
                    have v4 : w15.cell? ⟨V, 4, none⟩ = some (.slice none 0 0) := by rw [blk_cell HV15.out]; rfl
                    have v5 : w15.cell? ⟨V, 5, none⟩ = some (.int .i64 0) := by rw [blk_cell HV15.out]; rfl
                    have v6 : w15.cell? ⟨V, 6, none⟩ = some (.slice sa a7.length sc) := by rw [blk_cell HV15.out]; rfl
                    have v7 : w15.cell? ⟨V, 7, none⟩ = some (.slice ea a12.length ec) := by rw [blk_cell HV15.out]; rfl
                    have vf : ∀ i, w15.frozen? ⟨V, i, none⟩ = false := blk_frozen HV15.out
                    have s0 : w15.cell? ⟨w.heap.size, 0, none⟩ = some (.int .i64 0) := by rw [blk_cell HS15.out]; rfl
                    have s1 : w15.cell? ⟨w.heap.size, 1, none⟩ = some (.int .i64 0) := by rw [blk_cell HS15.out]; rfl
                    have s2 : w15.cell? ⟨w.heap.size, 2, none⟩ = some (.string ⟨#[]⟩) := by rw [blk_cell HS15.out]; rfl
                    have s3 : w15.cell? ⟨w.heap.size, 3, none⟩ = some (.pointer none) := by rw [blk_cell HS15.out]; rfl
                    have s4 : w15.cell? ⟨w.heap.size, 4, none⟩ = some (.slice none 0 0) := by rw [blk_cell HS15.out]; rfl
                    have s5 : w15.cell? ⟨w.heap.size, 5, none⟩ = some (.int .i64 0) := by rw [blk_cell HS15.out]; rfl
                    have s6 : w15.cell? ⟨w.heap.size, 6, none⟩ = some (.slice none 0 0) := by rw [blk_cell HS15.out]; rfl
                    have s7 : w15.cell? ⟨w.heap.size, 7, none⟩ = some (.slice none 0 0) := by rw [blk_cell HS15.out]; rfl
                    have sf : ∀ i, w15.frozen? ⟨w.heap.size, i, none⟩ = false := blk_frozen HS15.out
                    go_wp2_with fail
                    refine bodyPost_ret (v := .agg #[.int .i64 2, .int .i64 (tk ts k).pos, .string ⟨#[]⟩, .pointer (some ⟨Q4, 0, none⟩), .slice none 0 0, .int .i64 0, .slice sa a7.length sc, .slice ea a12.length ec]) (by simp [results, Tryd.results55, go_sem, s0, s1, s2, s3, s4, s5, s6, s7]) rfl ?_
                    refine Rds.ok (a := St.cond (tk ts k).pos a4 a7 a12) (k' := k15) (by simp only [branchP, if_neg HDP.out, Hr4.out, Hr6.out, Hr7.out, HEF.out, HEL.out, Bool.false_eq_true, if_false, if_true, Hr12.out, Hr14.out, Hr15.out, Res.bind]) (Kept.put8 HK15.out _ _ _ _ _ _ _ _ HWS.out) (Rd.put8 HD15.out _ _ _ _ _ _ _ _ HSR.out HST.out HSB.out) ⟨[.int .i64 2, .int .i64 (tk ts k).pos, .string ⟨#[]⟩, .pointer (some ⟨Q4, 0, none⟩), .slice none 0 0, .int .i64 0, .slice sa a7.length sc, .slice ea a12.length ec], rfl, ?_⟩
                    simp only [IsSt]
                    obtain ⟨cs, h1, h2⟩ := HT15.out.same (w' := put8 w15 w.heap.size (.int .i64 2) (.int .i64 (tk ts k).pos) (.string ⟨#[]⟩) (.pointer (some ⟨Q4, 0, none⟩)) (.slice none 0 0) (.int .i64 0) (.slice sa a7.length sc) (.slice ea a12.length ec)) fun b h1 _ => put8_other _ _ _ _ _ _ _ _ _ (by have : w3.heap.size ≤ b := h1; have := HSLT.out; omega)
                    obtain ⟨ds, h3, h4⟩ := HE15.out.same (w' := put8 w15 w.heap.size (.int .i64 2) (.int .i64 (tk ts k).pos) (.string ⟨#[]⟩) (.pointer (some ⟨Q4, 0, none⟩)) (.slice none 0 0) (.int .i64 0) (.slice sa a7.length sc) (.slice ea a12.length ec)) fun b h1 _ => put8_other _ _ _ _ _ _ _ _ _ (by have : w3.heap.size ≤ b := h1; have := HSLT.out; omega)
                    have low : ∀ b, b < (put8 w15 w.heap.size (.int .i64 2) (.int .i64 (tk ts k).pos) (.string ⟨#[]⟩) (.pointer (some ⟨Q4, 0, none⟩)) (.slice none 0 0) (.int .i64 0) (.slice sa a7.length sc) (.slice ea a12.length ec)).heap.size → From w3.heap.size b → From w.heap.size b := fun b _ h => Nat.le_trans HK3.out.size h
                    exact ⟨_, _, _, cs, ds, rfl, (HX15.out.same fun b h1 _ => put8_other _ _ _ _ _ _ _ _ _ (by have : w3.heap.size ≤ b := h1; have := HSLT.out; omega)).low HK3.out.size, h1.imp low, IsStL.imp low _ _ h2, h3.imp low, IsStL.imp low _ _ h4⟩
            | false =>
              have HEL := hide hel
              clear hel
              refine (no_at [101, 108, 115, 101] HD10.out HEL.out).mono ?_
              rintro e w11 ⟨rfl, hd11, hk11⟩
              have HD11 := hide hd11
              have HK11 := hide (HK10.out.trans hk11)
              have HV11 := hide (hk11.blk HV10.out HVR.out)
              have HS11 := hide (hk11.blk HS10.out HSR.out)
              have HX11 := hide (HX10.out.same fun b h1 h2 => hk11.block b h2 (by have : w3.heap.size ≤ b := h1; have := HRLT.out; omega))
              have HT11 := hide (HT10.out.same fun b h1 h2 => hk11.block b h2 (by have : w3.heap.size ≤ b := h1; have := HRLT.out; omega))
              clear hd11 hk11
              go_wp2_with fail
              have HE11 := hide (IsSts.nil (From w3.heap.size) w11)
              refine (need_at [101, 110, 100] (by decide) HD11.out).mono ?_
              rintro e w14 h14
              rcases h14.cases with ⟨er14, p14, A14, hr14, rfl, hA14, hk14⟩ | ⟨a14, k14, v14, hr14, rfl, hv14, hd14, hk14⟩
              · have Hr14 := hide hr14
                have HA14 := hide hA14
                have HK14 := hide (HK11.out.trans hk14)
                clear h14 hr14 hA14 hk14
                go_wp2_with fail
                exact ⟨rfl, Rds.bad (by simp only [branchP, if_neg HDP.out, Hr4.out, Hr6.out, Hr7.out, HEF.out, HEL.out, Bool.false_eq_true, if_false, Hr14.out, Res.bind]) HK14.out HA14.out⟩
              · have Hr14 := hide hr14
                have HD14 := hide hd14
                have HK14 := hide (HK11.out.trans hk14)
                subst hv14
                have HV14 := hide (hk14.blk HV11.out HVR.out)
                have HS14 := hide (hk14.blk HS11.out HSR.out)
                have HX14 := hide (HX11.out.same fun b h1 h2 => hk14.block b h2 (by have : w3.heap.size ≤ b := h1; have := HRLT.out; omega))
                have HT14 := hide (HT11.out.same fun b h1 h2 => hk14.block b h2 (by have : w3.heap.size ≤ b := h1; have := HRLT.out; omega))
                have HE14 := hide (HE11.out.same fun b h1 h2 => hk14.block b h2 (by have : w3.heap.size ≤ b := h1; have := HRLT.out; omega))
                clear h14 hr14 hd14 hk14
                go_wp2_with fail
                refine (need_at [59] (by decide) HD14.out).mono ?_
                rintro e w15 h15
                rcases h15.cases with ⟨er15, p15, A15, hr15, rfl, hA15, hk15⟩ | ⟨a15, k15, v15, hr15, rfl, hv15, hd15, hk15⟩
                · have Hr15 := hide hr15
                  have HA15 := hide hA15
                  have HK15 := hide (HK14.out.trans hk15)
                  clear h15 hr15 hA15 hk15
                  go_wp2_with fail
                  exact ⟨rfl, Rds.bad (by simp only [branchP, if_neg HDP.out, Hr4.out, Hr6.out, Hr7.out, HEF.out, HEL.out, Bool.false_eq_true, if_false, Hr14.out, Hr15.out, Res.bind]) HK15.out HA15.out⟩
                · have Hr15 := hide hr15
                  have HD15 := hide hd15
                  have HK15 := hide (HK14.out.trans hk15)
                  subst hv15
                  have HV15 := hide (hk15.blk HV14.out HVR.out)
                  have HS15 := hide (hk15.blk HS14.out HSR.out)
                  have HX15 := hide (HX14.out.same fun b h1 h2 => hk15.block b h2 (by have : w3.heap.size ≤ b := h1; have := HRLT.out; omega))
                  have HT15 := hide (HT14.out.same fun b h1 h2 => hk15.block b h2 (by have : w3.heap.size ≤ b := h1; have := HRLT.out; omega))
                  have HE15 := hide (HE14.out.same fun b h1 h2 => hk15.block b h2 (by have : w3.heap.size ≤ b := h1; have := HRLT.out; omega))
                  clear h15 hr15 hd15 hk15
                  have v0 : w15.cell? ⟨V, 0, none⟩ = some (.int .i64 2) := by rw [blk_cell HV15.out]; rfl
                  have v1 : w15.cell? ⟨V, 1, none⟩ = some (.int .i64 (tk ts k).pos) := by rw [blk_cell HV15.out]; rfl
                  have v2 : w15.cell? ⟨V, 2, none⟩ = some (.string ⟨#[]⟩) := by rw [blk_cell HV15.out]; rfl
                  have v3 : w15.cell? ⟨V, 3, none⟩ = some (.pointer (some ⟨Q4, 0, none⟩)) := by rw [blk_cell HV15.out]; rfl
                  have v4 : w15.cell? ⟨V, 4, none⟩ = some (.slice none 0 0) := by rw [blk_cell HV15.out]; rfl
                  have v5 : w15.cell? ⟨V, 5, none⟩ = some (.int .i64 0) := by rw [blk_cell HV15.out]; rfl
                  have v6 : w15.cell? ⟨V, 6, none⟩ = some (.slice sa a7.length sc) := by rw [blk_cell HV15.out]; rfl
                  have v7 : w15.cell? ⟨V, 7, none⟩ = some (.slice none 0 0) := by rw [blk_cell HV15.out]; rfl
                  have vf : ∀ i, w15.frozen? ⟨V, i, none⟩ = false := blk_frozen HV15.out
                  have s0 : w15.cell? ⟨w.heap.size, 0, none⟩ = some (.int .i64 0) := by rw [blk_cell HS15.out]; rfl
                  have s1 : w15.cell? ⟨w.heap.size, 1, none⟩ = some (.int .i64 0) := by rw [blk_cell HS15.out]; rfl
                  have s2 : w15.cell? ⟨w.heap.size, 2, none⟩ = some (.string ⟨#[]⟩) := by rw [blk_cell HS15.out]; rfl
                  have s3 : w15.cell? ⟨w.heap.size, 3, none⟩ = some (.pointer none) := by rw [blk_cell HS15.out]; rfl
                  have s4 : w15.cell? ⟨w.heap.size, 4, none⟩ = some (.slice none 0 0) := by rw [blk_cell HS15.out]; rfl
                  have s5 : w15.cell? ⟨w.heap.size, 5, none⟩ = some (.int .i64 0) := by rw [blk_cell HS15.out]; rfl
                  have s6 : w15.cell? ⟨w.heap.size, 6, none⟩ = some (.slice none 0 0) := by rw [blk_cell HS15.out]; rfl
                  have s7 : w15.cell? ⟨w.heap.size, 7, none⟩ = some (.slice none 0 0) := by rw [blk_cell HS15.out]; rfl
                  have sf : ∀ i, w15.frozen? ⟨w.heap.size, i, none⟩ = false := blk_frozen HS15.out
                  go_wp2_with fail
                  refine bodyPost_ret (v := .agg #[.int .i64 2, .int .i64 (tk ts k).pos, .string ⟨#[]⟩, .pointer (some ⟨Q4, 0, none⟩), .slice none 0 0, .int .i64 0, .slice sa a7.length sc, .slice none 0 0]) (by simp [results, Tryd.results55, go_sem, s0, s1, s2, s3, s4, s5, s6, s7]) rfl ?_
                  refine Rds.ok (a := St.cond (tk ts k).pos a4 a7 []) (k' := k15) (by simp only [branchP, if_neg HDP.out, Hr4.out, Hr6.out, Hr7.out, HEF.out, HEL.out, Bool.false_eq_true, if_false, Hr14.out, Hr15.out, Res.bind]) (Kept.put8 HK15.out _ _ _ _ _ _ _ _ HWS.out) (Rd.put8 HD15.out _ _ _ _ _ _ _ _ HSR.out HST.out HSB.out) ⟨[.int .i64 2, .int .i64 (tk ts k).pos, .string ⟨#[]⟩, .pointer (some ⟨Q4, 0, none⟩), .slice none 0 0, .int .i64 0, .slice sa a7.length sc, .slice none 0 0], rfl, ?_⟩
                  simp only [IsSt]
                  obtain ⟨cs, h1, h2⟩ := HT15.out.same (w' := put8 w15 w.heap.size (.int .i64 2) (.int .i64 (tk ts k).pos) (.string ⟨#[]⟩) (.pointer (some ⟨Q4, 0, none⟩)) (.slice none 0 0) (.int .i64 0) (.slice sa a7.length sc) (.slice none 0 0)) fun b h1 _ => put8_other _ _ _ _ _ _ _ _ _ (by have : w3.heap.size ≤ b := h1; have := HSLT.out; omega)
                  obtain ⟨ds, h3, h4⟩ := HE15.out.same (w' := put8 w15 w.heap.size (.int .i64 2) (.int .i64 (tk ts k).pos) (.string ⟨#[]⟩) (.pointer (some ⟨Q4, 0, none⟩)) (.slice none 0 0) (.int .i64 0) (.slice sa a7.length sc) (.slice none 0 0)) fun b h1 _ => put8_other _ _ _ _ _ _ _ _ _ (by have : w3.heap.size ≤ b := h1; have := HSLT.out; omega)
                  have low : ∀ b, b < (put8 w15 w.heap.size (.int .i64 2) (.int .i64 (tk ts k).pos) (.string ⟨#[]⟩) (.pointer (some ⟨Q4, 0, none⟩)) (.slice none 0 0) (.int .i64 0) (.slice sa a7.length sc) (.slice none 0 0)).heap.size → From w3.heap.size b → From w.heap.size b := fun b _ h => Nat.le_trans HK3.out.size h
                  exact ⟨_, _, _, cs, ds, rfl, (HX15.out.same fun b h1 _ => put8_other _ _ _ _ _ _ _ _ _ (by have : w3.heap.size ≤ b := h1; have := HSLT.out; omega)).low HK3.out.size, h1.imp low, IsStL.imp low _ _ h2, h3.imp low, IsStL.imp low _ _ h4⟩

theorem branch_ok (f : Nat) (ihs : StmtsOK f) (ihb : BranchOK f) : BranchOK (f + 1) := by
  intro w R T cap ts deep k h hd8 hmore hout
  by_cases hd : 8 ≤ deep
  · exact branch_deep f h hd hd8 hmore
  · exact branch_main f ihs ihb h hd hmore hout
theorem branch_all : ∀ n, ∀ f, f ≤ n → BranchOK f
  | 0, f, hf => fun _ _ _ _ _ _ _ _ _ _ h => absurd (by rw [show f = 0 by omega]; simp only [branchP]) h
  | n + 1, f, hf => by
    by_cases h : f ≤ n
    · exact branch_all n f h
    · rw [show f = n + 1 by omega]
      exact branch_ok n (stmts_ok n fun g hg => branch_all n g (by omega)) (branch_all n n (Nat.le_refl _))
theorem stmts_at (f : Nat) : StmtsOK f := stmts_ok f fun g hg => branch_all f g (by omega)
end Go.Proofs.YtiimnnancblbkaaDoor
