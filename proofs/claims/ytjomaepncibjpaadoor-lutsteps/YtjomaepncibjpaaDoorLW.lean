/-
  THE LAW LutSteps, its walk.
-/
import Derived.Test.YtjomaepncibjpaaDoorLNew
import Derived.Test.YtjomaepncibjpaaDoorLDeep
import Derived.Test.YtjomaepncibjpaaDoorLRf
import Derived.Test.YtjomaepncibjpaaDoorLRd
import Derived.Test.YtjomaepncibjpaaDoorLRs
import Derived.Test.YtjomaepncibjpaaDoorLErr
import Derived.Test.YtjomaepncibjpaaDoorLTab
import Derived.Test.YtjomaepncibjpaaDoorLGrid
set_option linter.unusedSimpArgs false
set_option linter.unusedVariables false
namespace Go.Proofs.YtjomaepncibjpaaDoor
open Go.RowKit

set_option maxRecDepth 100000 in
set_option maxHeartbeats 6400000 in
theorem lw_at (given : Int) (rs : List Rg) (ls : List Lt) (os : List Int) (ra la oa ga pa : Option Addr) (rc lc oc gc pc : Nat) (A : Nat → Option Addr) (C : Nat → Nat) (GA : Nat → Option Addr) (GC : Nat → Nat) (gs : List (List Bool)) (ps : List Bool) (w : World) (hr : Lies AnyB w ra (rgsC rs)) (hl : LutsAt AnyB w la A C ls) (ho : Lies AnyB w oa (intsC os)) (hgr : Grid w ga GA GC gs) (hps : Lies AnyB w pa (bitsC ps)) (hdl : w.cell? ⟨0, 0, none⟩ = some (.iface 100 (.agg #[.pointer (some ⟨1, 37, none⟩)]))) (hrn : (rs.length : Int) ≤ 40) (hln : (ls.length : Int) ≤ 60) (hon : (os.length : Int) ≤ 40) (hgv : given ≤ 1000 ∨ 20000 < given) :
    Calls Tryd.prog 3 #[.agg #[.int .i64 given, .slice ra rs.length rc, .slice la ls.length lc, .slice oa os.length oc], .slice ga gs.length gc, .slice pa ps.length pc] w fun e w' => e = .returned (.bool true) ∧ Below w.heap.size w w' := by
  have HB1 := hide (below_alloc w (.cells #[.int .i64 given, .slice ra rs.length rc, .slice la ls.length lc, .slice oa os.length oc] 26))
  have HN1 := hide (blk_new w (.cells #[.int .i64 given, .slice ra rs.length rc, .slice la ls.length lc, .slice oa os.length oc] 26))
  have HTAB := hide (tables_e given rs ls os.length rc lc oc ra la oa A C (w.alloc (.cells #[.int .i64 given, .slice ra rs.length rc, .slice la ls.length lc, .slice oa os.length oc] 26)) (hr.below HB1.out) (hl.below HB1.out) hrn hln hon hgv)
  have HR := hide hr
  have HL := hide hl
  have HO := hide ho
  have HGR := hide hgr
  have HPS := hide hps
  have HDL := hide hdl
  have HNT : Hid (NetT ⟨w.heap.size, ra, rc, la, lc, oa, oc, A, C⟩ AnyB (w.alloc (.cells #[.int .i64 given, .slice ra rs.length rc, .slice la ls.length lc, .slice oa os.length oc] 26)) given rs ls os) := hide ⟨HN1.out, hr.below HB1.out, hl.below HB1.out, ho.below HB1.out⟩
  have hqe : ∀ (v : Value) (w : World), (binOp .eql 37 (.iface 43 v) .nilIface).run Tryd.prog w = .ok (.bool false) w := fun _ _ => rfl
  have hqn : ∀ (v : Value) (w : World), (binOp .neq 37 (.iface 43 v) .nilIface).run Tryd.prog w = .ok (.bool true) w := fun _ _ => rfl
  clear hr hl ho hgr hps hdl
  go_enter Tryd.func3, Tryd.ntmps3
  go_wp2_with fail
  generalize w.alloc (.cells #[.int .i64 given, .slice ra rs.length rc, .slice la ls.length lc, .slice oa os.length oc] 26) = w1 at *
  refine HTAB.out.mono ?_
  rintro e w2 ⟨hcase, hb2⟩
  have HB2 := hide (Below.step HB1.out hb2)
  have HB12 := hide hb2
  clear hb2 HTAB
  rcases hcase with ⟨g0, a1, a2, a3, n1, c1, n2, c2, n3, c3, rfl⟩ | ⟨xa, xc, ya, yc, rfl, hxl, hyl, hten⟩
  · go_wp2_with fail
    go_ret
    exact ⟨rfl, Below.step HB2.out (below_alloc _ _)⟩
  · have HXL := hide hxl
    have HYL := hide hyl
    have HTEN := hide hten
    clear hxl hyl hten
    by_cases hg30 : (30 : Int) < (gs.length : Int)
    · go_wp2_with fail
      go_ret
      exact ⟨rfl, Below.step HB2.out (below_alloc _ _)⟩
    · by_cases hp60 : (60 : Int) < (ps.length : Int)
      · go_wp2_with fail
        go_ret
        exact ⟨rfl, Below.step HB2.out (below_alloc _ _)⟩
      · have HB23 : Hid (Below w2.heap.size w2 (w2.alloc (.cells #[.int .i64 given, .slice xa rs.length xc, .slice ya ls.length yc, .slice oa os.length oc] 32))) := hide (below_alloc _ _)
        have HN7 := hide (blk_new w2 (.cells #[.int .i64 given, .slice xa rs.length xc, .slice ya ls.length yc, .slice oa os.length oc] 32))
        have HB03 := hide (Below.step HB2.out HB23.out)
        have HNT3 := hide ((HNT.out.below HB12.out).below HB23.out)
        -- the reference's net, in any later world
        have HX3 := hide (HXL.out.below HB23.out)
        have HY3 : Hid (LutsAt AnyB (w2.alloc (.cells #[.int .i64 given, .slice xa rs.length xc, .slice ya ls.length yc, .slice oa os.length oc] 32)) ya A C ls) := hide ⟨(HYL.out.below HB23.out).any, fun i hi => ((HL.out.ins i hi).below HB2.out).below HB23.out⟩
        have HO3 := hide ((HO.out.below HB2.out).below HB23.out)
        clear HXL HYL HB12 HN1
        cases hrt : rightT given rs ls os with
        | false =>
          have HCN := hide (lnew_no HNT3.out (by omega) (by omega) (by omega) hrt)
          have HRW : Hid (∀ W, Below (w2.alloc (.cells #[.int .i64 given, .slice xa rs.length xc, .slice ya ls.length yc, .slice oa os.length oc] 32)).heap.size (w2.alloc (.cells #[.int .i64 given, .slice xa rs.length xc, .slice ya ls.length yc, .slice oa os.length oc] 32)) W → (Calls Tryd.prog 6 #[.pointer (some ⟨w.heap.size, 0, none⟩)] W fun e w' => e = .returned (.bool false) ∧ Below W.heap.size W w') ∧ (Calls Tryd.prog 7 #[.agg #[.int .i64 given, .slice xa rs.length xc, .slice ya ls.length yc, .slice oa os.length oc]] W fun e w' => e = .returned (.bool false) ∧ Below W.heap.size W w') ∧ W.heap[w2.heap.size]? = some (.cells #[.int .i64 given, .slice xa rs.length xc, .slice ya ls.length yc, .slice oa os.length oc] 32 (0, 0))) := hide fun W hb => by
            refine ⟨?_, ?_, Below.blk hb HN7.out⟩
            · have := LRight_at (HNT3.out.below hb) (by omega) (by omega) (by omega)
              rwa [hrt] at this
            · have := rright_at given rs ls os xc yc oc xa ya oa A C W ((HX3.out.below hb).any) (HY3.out.below hb) (HO3.out.below hb) (by omega) (by omega) (by omega) HTEN.out
              rwa [hrt] at this
          clear hrt
          go_wp2_with fail
          generalize w2.alloc (.cells #[.int .i64 given, .slice xa rs.length xc, .slice ya ls.length yc, .slice oa os.length oc] 32) = w3 at *
          refine HCN.out.mono ?_
          rintro e w4 ⟨rfl, hb4⟩
          have HB4 := hide hb4
          clear hb4 HCN
          go_wp2_with fail
          have HCR : Hid (∀ d o, Calls Tryd.prog 6 #[.pointer (some ⟨w.heap.size, 0, none⟩)] (Sort.grow (redrawn w4 d) o) fun e w'' => e = .returned (.bool false) ∧ ∃ p : Regrown, w'' = Sort.grow (redrawn w4 p.d) p.os) := hide fun d o => Calls.regrown_of (HRW.out _ (Below.step HB4.out (below_regrown w4 d o))).1
          have HCW : Hid (∀ d o, Calls Tryd.prog 7 #[.agg #[.int .i64 given, .slice xa rs.length xc, .slice ya ls.length yc, .slice oa os.length oc]] (Sort.grow (redrawn w4 d) o) fun e w'' => e = .returned (.bool false) ∧ ∃ p : Regrown, w'' = Sort.grow (redrawn w4 p.d) p.os) := hide fun d o => Calls.regrown_of (HRW.out _ (Below.step HB4.out (below_regrown w4 d o))).2.1
          have hblk := (HRW.out w4 HB4.out).2.2
          have q0 := cell_regrown (show w4.cell? ⟨w2.heap.size, 0, none⟩ = some (.int .i64 given) by rw [blk_cell hblk]; rfl)
          have q1 := cell_regrown (show w4.cell? ⟨w2.heap.size, 1, none⟩ = some (.slice xa rs.length xc) by rw [blk_cell hblk]; rfl)
          have q2 := cell_regrown (show w4.cell? ⟨w2.heap.size, 2, none⟩ = some (.slice ya ls.length yc) by rw [blk_cell hblk]; rfl)
          have q3 := cell_regrown (show w4.cell? ⟨w2.heap.size, 3, none⟩ = some (.slice oa os.length oc) by rw [blk_cell hblk]; rfl)
          refine wp_region_quiet_below (by kernel_rfl) (by kernel_rfl) ?_
          repeat (quiet_step (first | (with_reducible exact HCR.out _ _) | (with_reducible exact HCW.out _ _)))
          refine wpQuiet_nil ?_
          intro _ hw'
          obtain ⟨⟨dq, osq⟩, hw''⟩ := hw'
          subst hw''
          have HB5 := hide (Below.step HB03.out (Below.step HB4.out (below_regrown w4 dq osq)))
          clear q0 q1 q2 q3 hblk HCR HCW HRW
          generalize Sort.grow (redrawn w4 dq) osq = w5 at *
          go_wp2_with fail
          refine (bare_e 1 w5 ((HB5.out.cell (cell_lt HDL.out)).trans HDL.out)).mono ?_
          rintro e w6 ⟨rfl, hb6⟩
          have HB6 := hide (Below.step HB5.out hb6)
          clear hb6
          go_wp2_with fail
          go_ret
          exact ⟨rfl, HB6.out⟩
        | true =>
          obtain ⟨gn, rfl⟩ := rightT_nat hrt
          have hRT := rightT_iff.1 hrt
          have HRT := hide hRT
          have hg20 := hRT.g1
          have HCN := hide (lnew_at HNT3.out hRT)
          have HRW : Hid (∀ W, Below (w2.alloc (.cells #[.int .i64 gn, .slice xa rs.length xc, .slice ya ls.length yc, .slice oa os.length oc] 32)).heap.size (w2.alloc (.cells #[.int .i64 gn, .slice xa rs.length xc, .slice ya ls.length yc, .slice oa os.length oc] 32)) W → (Calls Tryd.prog 6 #[.pointer (some ⟨w.heap.size, 0, none⟩)] W fun e w' => e = .returned (.bool true) ∧ Below W.heap.size W w') ∧ (Calls Tryd.prog 7 #[.agg #[.int .i64 gn, .slice xa rs.length xc, .slice ya ls.length yc, .slice oa os.length oc]] W fun e w' => e = .returned (.bool true) ∧ Below W.heap.size W w') ∧ W.heap[w2.heap.size]? = some (.cells #[.int .i64 gn, .slice xa rs.length xc, .slice ya ls.length yc, .slice oa os.length oc] 32 (0, 0)) ∧ (Calls Tryd.prog 9 #[.pointer (some ⟨w.heap.size, 0, none⟩)] W fun e w' => e = .returned (.int .i64 (depthP (gn + rs.length) ls)) ∧ Below W.heap.size W w') ∧ (Calls Tryd.prog 10 #[.agg #[.int .i64 gn, .slice xa rs.length xc, .slice ya ls.length yc, .slice oa os.length oc]] W fun e w' => e = .returned (.int .i64 (depthP (gn + rs.length) ls)) ∧ Below W.heap.size W w')) := hide fun W hb => by
            refine ⟨?_, ?_, Below.blk hb HN7.out, ?_, ?_⟩
            · have := LRight_at (HNT3.out.below hb) (by omega) (by omega) (by omega)
              rwa [hrt] at this
            · have := rright_at gn rs ls os xc yc oc xa ya oa A C W ((HX3.out.below hb).any) (HY3.out.below hb) (HO3.out.below hb) (by omega) (by omega) (by omega) HTEN.out
              rwa [hrt] at this
            · have h := Depth_at (HNT3.out.below hb) hRT
              simp only at h
              exact h
            · have h := rdepth_at gn rs ls os xc yc oc xa ya oa A C W (HY3.out.below hb) hRT
              exact h
          clear hrt hRT
          go_wp2_with fail
          have HZ23 : Hid (w2.heap.size < (w2.alloc (.cells #[.int .i64 gn, .slice xa rs.length xc, .slice ya ls.length yc, .slice oa os.length oc] 32)).heap.size) := hide (by simp)
          generalize w2.alloc (.cells #[.int .i64 gn, .slice xa rs.length xc, .slice ya ls.length yc, .slice oa os.length oc] 32) = w3 at *
          refine HCN.out.mono ?_
          rintro e w4 ⟨⟨sp, rfl, hsim, hspB⟩, hb4⟩
          have HB4 := hide hb4
          have HSIM := hide hsim
          have HSPB := hide hspB
          clear hb4 hsim hspB HCN
          go_wp2_with fail
          have HCR : Hid (∀ d o, Calls Tryd.prog 6 #[.pointer (some ⟨w.heap.size, 0, none⟩)] (Sort.grow (redrawn w4 d) o) fun e w'' => e = .returned (.bool true) ∧ ∃ p : Regrown, w'' = Sort.grow (redrawn w4 p.d) p.os) := hide fun d o => Calls.regrown_of (HRW.out _ (Below.step HB4.out (below_regrown w4 d o))).1
          have HCW : Hid (∀ d o, Calls Tryd.prog 7 #[.agg #[.int .i64 gn, .slice xa rs.length xc, .slice ya ls.length yc, .slice oa os.length oc]] (Sort.grow (redrawn w4 d) o) fun e w'' => e = .returned (.bool true) ∧ ∃ p : Regrown, w'' = Sort.grow (redrawn w4 p.d) p.os) := hide fun d o => Calls.regrown_of (HRW.out _ (Below.step HB4.out (below_regrown w4 d o))).2.1
          have hblk := (HRW.out w4 HB4.out).2.2.1
          have q0 := cell_regrown (show w4.cell? ⟨w2.heap.size, 0, none⟩ = some (.int .i64 gn) by rw [blk_cell hblk]; rfl)
          have q1 := cell_regrown (show w4.cell? ⟨w2.heap.size, 1, none⟩ = some (.slice xa rs.length xc) by rw [blk_cell hblk]; rfl)
          have q2 := cell_regrown (show w4.cell? ⟨w2.heap.size, 2, none⟩ = some (.slice ya ls.length yc) by rw [blk_cell hblk]; rfl)
          have q3 := cell_regrown (show w4.cell? ⟨w2.heap.size, 3, none⟩ = some (.slice oa os.length oc) by rw [blk_cell hblk]; rfl)
          refine wp_region_quiet_below (by kernel_rfl) (by kernel_rfl) ?_
          repeat (quiet_step (first | (with_reducible exact HCR.out _ _) | (with_reducible exact HCW.out _ _)))
          refine wpQuiet_nil ?_
          intro _ hw'
          obtain ⟨⟨dq, osq⟩, hw''⟩ := hw'
          subst hw''
          have HB5 := hide (Below.step HB4.out (below_regrown w4 dq osq))
          have HSIM5 := hide (HSIM.out.below (below_regrown w4 dq osq))
          have HSPL := hide HSIM.out.lt
          have HB45 := hide (below_regrown w4 dq osq).size
          clear q0 q1 q2 q3 hblk HCR HCW HSIM
          generalize Sort.grow (redrawn w4 dq) osq = w5 at *
          go_wp2_with fail
          have HCR : Hid (∀ d o, Calls Tryd.prog 9 #[.pointer (some ⟨w.heap.size, 0, none⟩)] (Sort.grow (redrawn w5 d) o) fun e w'' => e = .returned (.int .i64 (depthP (gn + rs.length) ls)) ∧ ∃ p : Regrown, w'' = Sort.grow (redrawn w5 p.d) p.os) := hide fun d o => Calls.regrown_of (HRW.out _ (Below.step HB5.out (below_regrown w5 d o))).2.2.2.1
          have HCW : Hid (∀ d o, Calls Tryd.prog 10 #[.agg #[.int .i64 gn, .slice xa rs.length xc, .slice ya ls.length yc, .slice oa os.length oc]] (Sort.grow (redrawn w5 d) o) fun e w'' => e = .returned (.int .i64 (depthP (gn + rs.length) ls)) ∧ ∃ p : Regrown, w'' = Sort.grow (redrawn w5 p.d) p.os) := hide fun d o => Calls.regrown_of (HRW.out _ (Below.step HB5.out (below_regrown w5 d o))).2.2.2.2
          have hblk := (HRW.out w5 HB5.out).2.2.1
          have q0 := cell_regrown (show w5.cell? ⟨w2.heap.size, 0, none⟩ = some (.int .i64 gn) by rw [blk_cell hblk]; rfl)
          have q1 := cell_regrown (show w5.cell? ⟨w2.heap.size, 1, none⟩ = some (.slice xa rs.length xc) by rw [blk_cell hblk]; rfl)
          have q2 := cell_regrown (show w5.cell? ⟨w2.heap.size, 2, none⟩ = some (.slice ya ls.length yc) by rw [blk_cell hblk]; rfl)
          have q3 := cell_regrown (show w5.cell? ⟨w2.heap.size, 3, none⟩ = some (.slice oa os.length oc) by rw [blk_cell hblk]; rfl)
          generalize depthP (gn + rs.length) ls = dep at *
          refine wp_region_quiet_below (by kernel_rfl) (by kernel_rfl) ?_
          repeat (quiet_step (first | (with_reducible exact HCR.out _ _) | (with_reducible exact HCW.out _ _)))
          refine wpQuiet_nil ?_
          intro _ hw'
          obtain ⟨⟨dq2, osq2⟩, hw''⟩ := hw'
          subst hw''
          have HB6 := hide (Below.step HB5.out (below_regrown w5 dq2 osq2))
          have HSIM6 := hide (HSIM5.out.below (below_regrown w5 dq2 osq2))
          have HB56 := hide (below_regrown w5 dq2 osq2).size
          clear q0 q1 q2 q3 hblk HCR HCW HSIM5
          generalize Sort.grow (redrawn w5 dq2) osq2 = w6 at *
          go_wp2_with fail
          have HN76 := hide (HRW.out w6 HB6.out).2.2.1
          clear HRW
          go_loopw [11, 12] (fun v i wr => ∃ (q : Nat) (va : Option Addr) (vc : Nat), q ≤ rs.length ∧ i = .int .i64 q ∧ v = .slice va q vc ∧ Hid (BRow w6 wr va vc q ((List.range q).map fun i => (rgAt rs i).init))) (fun _ i _ => rs.length - (intOf i).toNat)
          case atStart => exact ⟨0, .none, 0, Nat.zero_le _, rfl, rfl, hide (BRow.none _)⟩
          case round =>
            obtain ⟨q, va, vc, hq, rfl, rfl, hbr⟩ := hrel
            have e1 : wr.cell? ⟨w2.heap.size, 1, none⟩ = some (.slice xa rs.length xc) := by rw [blk_cell (Below.blk hbr.out.below HN76.out)]; rfl
            by_cases hlt : q < rs.length
            · have hqi : (q : Int) < (rs.length : Int) := by omega
              obtain ⟨b, off, hxa, _, hbl, n0, n1⟩ := (HX3.out.below (Below.step HB6.out hbr.out.below)).pair hlt
              simp only [rgF, rgG] at n0 n1
              have HA := hide hxa
              rw [HA.out]
              rw [hxa] at e1
              have HRA : Hid ((List.range (q + 1)).map (fun i => (rgAt rs i).init) = (List.range q).map (fun i => (rgAt rs i).init) ++ [(rgAt rs q).init]) := hide (by rw [List.range_succ, List.map_append]; rfl)
              generalize (rgAt rs q).init = bv at *
              obtain ⟨va3, vc3, y3, happ, hbr3⟩ := hbr.out.app (below_alloc wr (.cells #[.bool bv] 4)) [bv] (some ⟨wr.heap.size, 0, none⟩) 1 1 (q + 1) (Lies.blk (cs := bitsC [bv]) (blk_new wr (.cells #[.bool bv] 4)) trivial) rfl rfl (by omega)
              have HBR3 := hide hbr3
              clear hbr3 hxa hbl
              go_wp2_with (at_builtin; (refine wpl_append_run happ rfl _ _ rfl rfl rfl ?_))
              exact ⟨⟨q + 1, va3, vc3, by omega, by go_num, rfl, hide (by rw [HRA.out]; exact HBR3.out)⟩, by simp [intOf]; omega⟩
            · have HRG : Hid (BRow w6 wr va vc rs.length (initL rs)) := hide (by
                have e : q = rs.length := by omega
                have := hbr.out
                rw [e] at this
                exact this)
              have HKE : Hid (q = rs.length) := hide (by omega)
              rw [HKE.out]
              clear hbr
              go_wp2_with fail
              clear e1
              rename World => wz
              have HWZ := hide (Below.step HB6.out HRG.out.below)
              have HSZ := hide (HSIM6.out.below HRG.out.below)
              have HHZ : Hid (Lies (fun b => w3.heap.size ≤ b ∧ b ≠ sp.p) wz va (bitsC (initL rs))) := hide (HRG.out.lies.imp fun b _ hb => by
                have h1 : w6.heap.size ≤ b := hb
                have h2 := HB6.out.size
                have h3 := HSPL.out
                have h4 := HB45.out
                have h5 := HB56.out
                exact ⟨by omega, by omega⟩)
              have HP7 := hide (show w2.heap.size < w3.heap.size from HZ23.out)
              have HBS : Hid (∀ W, Below w3.heap.size w3 W → Below w.heap.size w W) := hide fun W hb => Below.step HB03.out hb
              clear HRG HSIM6 HB6 HB5 HB4 HKE HN76 HB45 HB56 HSPL HZ23
              go_loopw [11, 13] (fun v i wr => ∃ (k : Nat) (held : List Bool) (ao : Option Addr) (ac : Nat), k ≤ gs.length ∧ i = .int .i64 k ∧ v = .slice ao rs.length ac ∧ Hid (Below w3.heap.size w3 wr) ∧ Hid (SimT sp (fun b => w3.heap.size ≤ b ∧ b ≠ sp.p) wr gn rs ls os held) ∧ Hid (Lies (fun b => w3.heap.size ≤ b ∧ b ≠ sp.p) wr ao (bitsC held))) (fun _ i _ => gs.length - (intOf i).toNat)
              case atStart => exact ⟨0, initL rs, va, vc, Nat.zero_le _, rfl, rfl, HWZ, HSZ, HHZ⟩
              case round =>
                clear HWZ HSZ HHZ
                obtain ⟨k, held, ao, ac, hk, rfl, rfl, hb, hsim, hho⟩ := hrel
                by_cases hlt : k < gs.length
                · have hki : (k : Int) < (gs.length : Int) := by omega
                  obtain ⟨⟨b, off, hga, c0⟩, hlg⟩ := (HGR.out.below (HBS.out _ hb.out)) k hlt
                  have HLG := hide ((HGR.out k hlt).2)
                  have HGA := hide hga
                  subst hga
                  clear hlg
                  have HC0 := hide c0
                  by_cases hbig : (1100 : Int) < ((rowAt gs k).length : Int)
                  · go_wp2_with fail
                    go_ret
                    exact ⟨rfl, HBS.out _ hb.out⟩
                  · have HLEN := hide hsim.out.len
                    have HCR := hide (lregs_at hsim.out (by omega))
                    have hspl := hide hsim.out.lt
                    go_wp2_with fail
                    refine HCR.out.mono ?_
                    rintro e y1 ⟨⟨ao1, ac1, rfl, hl1⟩, hb1⟩
                    have HCE := hide (same_is held held rs.length rs.length HLEN.out HLEN.out ao1 ao ac1 ac y1 hl1 (hho.out.below hb1) (by omega) rfl)
                    have HBy1 := hide hb1
                    clear hl1 hb1 HCR
                    go_wp2_with fail
                    refine HCE.out.mono ?_
                    rintro e y2 ⟨rfl, hb2⟩
                    have HBy2 := hide (Below.step HBy1.out hb2)
                    clear hb2 HCE HBy1
                    go_wp2_with fail
                    have HD1 := hide (Below.step hb.out HBy2.out)
                    have HSW : Hid (∀ W, Below w3.heap.size w3 W → W.cell? ⟨w2.heap.size, 0, none⟩ = some (.int .i64 gn) ∧ W.cell? ⟨w2.heap.size, 1, none⟩ = some (.slice xa rs.length xc) ∧ W.cell? ⟨w2.heap.size, 2, none⟩ = some (.slice ya ls.length yc) ∧ W.cell? ⟨w2.heap.size, 3, none⟩ = some (.slice oa os.length oc) ∧ W.cell? ⟨b, off + k, none⟩ = some (.slice (GA k) (rowAt gs k).length (GC k))) := hide fun W hW => by
                      have h7 := Below.blk hW HN7.out
                      obtain ⟨⟨b', o', e1, c1⟩, _⟩ := (HGR.out.below (HBS.out _ hW)) k hlt
                      cases e1
                      exact ⟨by rw [blk_cell h7]; rfl, by rw [blk_cell h7]; rfl, by rw [blk_cell h7]; rfl, by rw [blk_cell h7]; rfl, c1⟩
                    have HD2 := hide HD1.out.drew
                    have HBd : Hid (Below wr.heap.size wr y2.drew) := hide HBy2.out.drew
                    have HCS := hide (rstep_at gn rs ls os xc yc oc xa ya oa A C held (rowAt gs k) ao (GA k) ac (GC k) y2.drew (HX3.out.below HD2.out).any (HY3.out.below HD2.out) (HO3.out.below HD2.out) (hho.out.below HBd.out) (HLG.out.below (HBS.out _ HD2.out)) HRT.out HLEN.out (by omega))
                    clear HD1 c0
                    refine wp_region_held_drew (S := fun W => W.cell? ⟨w2.heap.size, 0, none⟩ = some (.int .i64 gn) ∧ W.cell? ⟨w2.heap.size, 1, none⟩ = some (.slice xa rs.length xc) ∧ W.cell? ⟨w2.heap.size, 2, none⟩ = some (.slice ya ls.length yc) ∧ W.cell? ⟨w2.heap.size, 3, none⟩ = some (.slice oa os.length oc) ∧ W.cell? ⟨b, off + k, none⟩ = some (.slice (GA k) (rowAt gs k).length (GC k))) (by kernel_rfl) (HSW.out _ HD2.out) (fun _ => ?_)
                    generalize y2.drew = y2d at *
                    refine wpAnyH_take (i := 0) (oi := ⟨some 102, _, _, _, _, _⟩) (v := (.agg #[.int .i64 gn, .slice xa rs.length xc, .slice ya ls.length yc, .slice oa os.length oc])) rfl (by kernel_rfl) (by kernel_rfl) (by kernel_rfl) (fun _ _ _ h => h) (Or.inl ⟨by rfl, fun W hS => by (obtain ⟨s0, s1, s2, s3, s4⟩ := hS; go_simp)⟩) (HSW.out _ HD2.out) ?_
                    simp only [Act.put, List.setIfInBounds_toArray, List.set_cons_zero, List.set_cons_succ]
                    refine wpAnyH_take (i := 1) (oi := ⟨some 103, _, _, _, _, _⟩) (v := (.slice ao rs.length ac)) rfl (by kernel_rfl) (by kernel_rfl) (by kernel_rfl) (fun _ _ _ h => h) (Or.inl ⟨by rfl, fun W hS => by (obtain ⟨s0, s1, s2, s3, s4⟩ := hS; go_simp)⟩) (HSW.out _ HD2.out) ?_
                    simp only [Act.put, List.setIfInBounds_toArray, List.set_cons_zero, List.set_cons_succ]
                    refine wpAnyH_take (i := 2) (oi := ⟨some 104, _, _, _, _, _⟩) (v := (.slice (some ⟨b, off, none⟩) gs.length gc)) rfl (by kernel_rfl) (by kernel_rfl) (by kernel_rfl) (fun _ _ _ h => h) (Or.inl ⟨by rfl, fun W hS => by (obtain ⟨s0, s1, s2, s3, s4⟩ := hS; go_simp)⟩) (HSW.out _ HD2.out) ?_
                    simp only [Act.put, List.setIfInBounds_toArray, List.set_cons_zero, List.set_cons_succ]
                    refine wpAnyH_take (i := 3) (oi := ⟨some 105, _, _, _, _, _⟩) (v := (.int .i64 k)) rfl (by kernel_rfl) (by kernel_rfl) (by kernel_rfl) (fun _ _ _ h => h) (Or.inl ⟨by rfl, fun W hS => by (obtain ⟨s0, s1, s2, s3, s4⟩ := hS; go_simp)⟩) (HSW.out _ HD2.out) ?_
                    simp only [Act.put, List.setIfInBounds_toArray, List.set_cons_zero, List.set_cons_succ]
                    refine wpAnyH_take (i := 4) (oi := ⟨some 106, _, _, _, _, _⟩) (v := (.pointer (some ⟨b, off + k, none⟩))) rfl (by kernel_rfl) (by kernel_rfl) (by kernel_rfl) (fun _ _ _ h => h) (Or.inl ⟨by rfl, fun W hS => by (obtain ⟨s0, s1, s2, s3, s4⟩ := hS; go_simp)⟩) (HSW.out _ HD2.out) ?_
                    simp only [Act.put, List.setIfInBounds_toArray, List.set_cons_zero, List.set_cons_succ]
                    refine wpAnyH_take (i := 5) (oi := ⟨some 107, _, _, _, _, _⟩) (v := (.slice (GA k) (rowAt gs k).length (GC k))) rfl (by kernel_rfl) (by kernel_rfl) (by kernel_rfl) (fun _ _ _ h => h) (Or.inl ⟨by rfl, fun W hS => by (obtain ⟨s0, s1, s2, s3, s4⟩ := hS; go_simp)⟩) (HSW.out _ HD2.out) ?_
                    simp only [Act.put, List.setIfInBounds_toArray, List.set_cons_zero, List.set_cons_succ]
                    refine wpAnyH_ready (rs := [6]) (by kernel_rfl) (by simp) ?_
                    refine AllReadyH.cons rfl (fun K hK => ?_) AllReadyH.nil
                    go_simp
                    refine HCS.out.mono ?_
                    rintro e y3 ⟨⟨oa2, oc2, na, nc, rfl, hlo, hln2⟩, hb3⟩
                    have HLO := hide hlo
                    have HLN := hide hln2
                    have HBy3 := hide hb3
                    have HD3 := hide (Below.step HD2.out hb3)
                    clear hlo hln2 hb3
                    refine hK.out _ _ (HSW.out _ HD3.out) (fun _ => ?_)
                    clear hK K
                    refine wpAnyH_take (i := 7) (oi := ⟨some 101, _, _, _, _, _⟩) (v := (.tuple #[.slice oa2 os.length oc2, .slice na rs.length nc])) rfl (by kernel_rfl) (by kernel_rfl) (by kernel_rfl) (fun _ _ _ h => h) (Or.inl ⟨by rfl, fun W hS => by (obtain ⟨s0, s1, s2, s3, s4⟩ := hS; go_simp)⟩) (HSW.out _ HD3.out) ?_
                    simp only [Act.put, List.setIfInBounds_toArray, List.set_cons_zero, List.set_cons_succ]
                    refine wpAnyH_take (i := 8) (oi := ⟨some 109, _, _, _, _, _⟩) (v := (.slice oa2 os.length oc2)) rfl (by kernel_rfl) (by kernel_rfl) (by kernel_rfl) (fun _ _ _ h => h) (Or.inl ⟨by rfl, fun W hS => by (obtain ⟨s0, s1, s2, s3, s4⟩ := hS; go_simp)⟩) (HSW.out _ HD3.out) ?_
                    simp only [Act.put, List.setIfInBounds_toArray, List.set_cons_zero, List.set_cons_succ]
                    refine wpAnyH_take (i := 9) (oi := ⟨some 110, _, _, _, _, _⟩) (v := (.slice na rs.length nc)) rfl (by kernel_rfl) (by kernel_rfl) (by kernel_rfl) (fun _ _ _ h => h) (Or.inl ⟨by rfl, fun W hS => by (obtain ⟨s0, s1, s2, s3, s4⟩ := hS; go_simp)⟩) (HSW.out _ HD3.out) ?_
                    simp only [Act.put, List.setIfInBounds_toArray, List.set_cons_zero, List.set_cons_succ]
                    refine wpAnyH_take (i := 10) (oi := ⟨some 14, _, _, _, _, _⟩) (v := (.slice oa2 os.length oc2)) rfl (by kernel_rfl) (by kernel_rfl) (by kernel_rfl) (fun _ _ _ h => h) (Or.inl ⟨by rfl, fun W hS => by (obtain ⟨s0, s1, s2, s3, s4⟩ := hS; go_simp)⟩) (HSW.out _ HD3.out) ?_
                    simp only [Act.put, List.setIfInBounds_toArray, List.set_cons_zero, List.set_cons_succ]
                    refine wpAnyH_take (i := 11) (oi := ⟨some 11, _, _, _, _, _⟩) (v := (.slice na rs.length nc)) rfl (by kernel_rfl) (by kernel_rfl) (by kernel_rfl) (fun _ _ _ h => h) (Or.inl ⟨by rfl, fun W hS => by (obtain ⟨s0, s1, s2, s3, s4⟩ := hS; go_simp)⟩) (HSW.out _ HD3.out) ?_
                    simp only [Act.put, List.setIfInBounds_toArray, List.set_cons_zero, List.set_cons_succ]
                    refine wpAnyH_done (by kernel_rfl) ?_ _
                    have HBy3w := hide (Below.step HBd.out HBy3.out)
                    have HSIM3 := hide (hsim.out.below HBy3w.out)
                    have HST := hide (lstep_at HSIM3.out HRT.out (GA k) (GC k) (HLG.out.below (HBS.out _ HD3.out)) (by omega) (fun b hb => ⟨Nat.le_trans HD3.out.size hb, by have := HSIM3.out.lt; omega⟩))
                    have c3 := (HSW.out _ HD3.out).2.2.2.2
                    go_wp2_with fail
                    refine HST.out.mono ?_
                    rintro e y4 ⟨⟨O, rfl, hO, hrowO⟩, hs4, hk4⟩
                    have HS4 := hide hs4
                    have HK4 := hide hk4
                    have HD4 := hide (Below.keptOn HD3.out hk4 HSPB.out HD3.out.size)
                    have HSPy : Hid (sp.p < wr.heap.size) := hspl
                    have HLO4 : Hid (Lies (FromB y2d.heap.size) y4 oa2 (bitsC (outsL (lookL gn (rowAt gs k) held ls) os))) := hide (HLO.out.same fun b hb hl => hk4.block b hl (by have h1 : y2d.heap.size ≤ b := hb; have h2 := HBd.out.size; have h3 := HSPy.out; omega))
                    have HLN4 : Hid (Lies (fun b => w3.heap.size ≤ b ∧ b ≠ sp.p) y4 na (bitsC (nextL (lookL gn (rowAt gs k) held ls) rs))) := hide ((HLN.out.same fun b hb hl => hk4.block b hl (by have h1 : y2d.heap.size ≤ b := hb; have h2 := HBd.out.size; have h3 := HSPy.out; omega)).imp fun b _ hb => by
                      have h1 : y2d.heap.size ≤ b := hb
                      have h2 := HBd.out.size
                      have h3 := HSPy.out
                      have h4 := hb
                      have h5 := HD2.out.size
                      exact ⟨by omega, by omega⟩)
                    have HCE := hide (same_is _ _ os.length os.length (outsL_len _ _) (outsL_len _ _) (some ⟨O, 0, none⟩) oa2 os.length oc2 y4 (Lies.blk (S := AnyB) hrowO trivial) HLO4.out (by omega) rfl)
                    clear hs4 hk4 hrowO hO HST HLO HLN c3 HSIM3
                    go_wp2_with fail
                    refine HCE.out.mono ?_
                    rintro e y5 ⟨rfl, hb5⟩
                    have HS5 := hide (HS4.out.below hb5)
                    have HL5 := hide (HLN4.out.below hb5)
                    have HD5 := hide (Below.step HD4.out hb5)
                    clear hb5 HCE HLN4 HLO4 HS4 HCS
                    by_cases hk2 : k = 2
                    · have hk2b : ((k : Int) == 2) = true := by simp [hk2]
                      have HK2 := hide hk2
                      clear hk2
                      by_cases hpn : ps.length = rs.length
                      · have hpb : ((ps.length : Int) != (rs.length : Int)) = false := by simp [hpn]
                        have HPN := hide hpn
                        clear hpn
                        have HPSy : Hid (Lies AnyB (y5.alloc (.cells #[] 4)) pa (bitsC ps)) := hide ((HPS.out.below (HBS.out _ HD5.out)).below (below_alloc _ _))
                        obtain ⟨pa2, pc2, y6, happ, hm, hgw, hnb⟩ := app_bo (B := y5.heap.size) (w := y5.alloc (.cells #[] 4)) (c := pc) (n' := rs.length) (v := .slice (some ⟨y5.heap.size, 0, none⟩) 0 0) (l := []) (new := ps) (m := ps.length) (n := 0) (Mine.empty (size := 1) (blk_new y5 (.cells #[] 4))) rfl rfl (by have := HPN.out; omega) HPSy.out (by simp) (by omega)
                        have HM := hide hm
                        have HB56 := hide (grown_below (below_alloc y5 (.cells #[] 4)) hgw (Nat.le_refl _))
                        clear hm hgw hnb
                        have HS6 := hide (HS5.out.below HB56.out)
                        have HD6 := hide (Below.step HD5.out HB56.out)
                        have HL6 : Hid (Lies (fun b => w3.heap.size ≤ b ∧ b ≠ sp.p) y6 pa2 (bitsC ps)) := hide ((HM.out.lies (S := fun b => y5.heap.size ≤ b) fun b hb => HM.out.new b hb).imp fun b _ hb => by
                          have h1 := HD5.out.size
                          have h2 := HS5.out.lt
                          exact ⟨by omega, by omega⟩)
                        have HPUT := hide (put_at HS6.out ps pa ps.length pc HPN.out rfl (HPS.out.below (HBS.out _ HD6.out)) (by omega) (fun b hb => ⟨Nat.le_trans HD6.out.size hb, by have := HS6.out.lt; omega⟩))
                        go_wp2_with (at_builtin; (refine wpl_append_run happ rfl _ _ rfl rfl rfl ?_))
                        refine HPUT.out.mono ?_
                        rintro e y7 ⟨rfl, hs7, hk7⟩
                        have HS7 := hide hs7
                        have HD7 := hide (Below.keptOn HD6.out hk7 HSPB.out HD6.out.size)
                        have HL7 := hide (HL6.out.same fun b hb hl => hk7.block b hl hb.2)
                        clear hs7 hk7 HPUT
                        go_wp2_with fail
                        refine (bare_nil y7).mono ?_
                        rintro e y8 ⟨rfl, hb8⟩
                        have HS8 := hide (HS7.out.below hb8)
                        have HD8 := hide (Below.step HD7.out hb8)
                        have HL8 := hide (HL7.out.below hb8)
                        clear hb8
                        go_wp2_with fail
                        exact ⟨⟨k + 1, ps, pa2, pc2, by omega, by go_num, rfl, HD8, HS8, HL8⟩, by simp [intOf]; omega⟩
                      · have hpb : ((ps.length : Int) != (rs.length : Int)) = true := by simp; omega
                        have HPUT := hide (put_no HS5.out pa ps.length pc hpn)
                        clear hpn
                        go_wp2_with fail
                        refine HPUT.out.mono ?_
                        rintro e y7 ⟨rfl, hb7⟩
                        have HS7 := hide (HS5.out.below hb7)
                        have HD7 := hide (Below.step HD5.out hb7)
                        have HL7 := hide (HL5.out.below hb7)
                        clear hb7 HPUT
                        go_wp2_with fail
                        refine (bare_e 1 y7 (((HBS.out _ HD7.out).cell (cell_lt HDL.out)).trans HDL.out)).mono ?_
                        rintro e y8 ⟨rfl, hb8⟩
                        have HS8 := hide (HS7.out.below hb8)
                        have HD8 := hide (Below.step HD7.out hb8)
                        have HL8 := hide (HL7.out.below hb8)
                        clear hb8
                        go_wp2_with fail
                        exact ⟨⟨k + 1, _, na, nc, by omega, by go_num, rfl, HD8, HS8, HL8⟩, by simp [intOf]; omega⟩
                    · have hk2b : ((k : Int) == 2) = false := beq_eq_false_iff_ne.2 (by omega)
                      clear hk2
                      go_wp2_with fail
                      exact ⟨⟨k + 1, _, na, nc, by omega, by go_num, rfl, HD5, HS5, HL5⟩, by simp [intOf]; omega⟩
                · go_wp2_with fail
                  go_ret
                  exact ⟨rfl, HBS.out _ hb.out⟩

set_option maxRecDepth 100000 in
set_option maxHeartbeats 6400000 in
theorem lw_big (given : Int) (rs : List Rg) (ls : List Lt) (on : Nat) (ra la oa ga pa : Option Addr) (rc lc oc gn gc pn pc : Nat) (w : World) (hbg : (40 : Int) < (rs.length : Int) ∨ (60 : Int) < (ls.length : Int) ∨ (40 : Int) < (on : Int) ∨ ((1000 : Int) < given ∧ given ≤ 20000)) :
    Calls Tryd.prog 3 #[.agg #[.int .i64 given, .slice ra rs.length rc, .slice la ls.length lc, .slice oa on oc], .slice ga gn gc, .slice pa pn pc] w fun e w' => e = .returned (.bool true) ∧ Below w.heap.size w w' := by
  have HB1 := hide (below_alloc w (.cells #[.int .i64 given, .slice ra rs.length rc, .slice la ls.length lc, .slice oa on oc] 26))
  have HTAB : Hid (TabNo given rs.length ls.length on rc lc oc ra la oa (w.alloc (.cells #[.int .i64 given, .slice ra rs.length rc, .slice la ls.length lc, .slice oa on oc] 26))) := hide (by
    by_cases h1 : (40 : Int) < (rs.length : Int)
    · exact tables_a _ _ _ _ _ _ _ _ _ _ _ h1
    by_cases h2 : (60 : Int) < (ls.length : Int)
    · exact tables_b _ _ _ _ _ _ _ _ _ _ _ (by omega) h2
    by_cases h3 : (40 : Int) < (on : Int)
    · exact tables_c _ _ _ _ _ _ _ _ _ _ _ (by omega) (by omega) h3
    · exact tables_d _ _ _ _ _ _ _ _ _ _ _ (by omega) (by omega) (by omega) (by omega) (by omega))
  clear hbg
  go_enter Tryd.func3, Tryd.ntmps3
  go_wp2_with fail
  generalize w.alloc (.cells #[.int .i64 given, .slice ra rs.length rc, .slice la ls.length lc, .slice oa on oc] 26) = w1 at *
  refine HTAB.out.mono ?_
  rintro e w2 ⟨⟨g0, a1, a2, a3, n1, c1, n2, c2, n3, c3, rfl⟩, hb2⟩
  have HB2 := hide (Below.step HB1.out hb2)
  clear hb2 HTAB
  go_wp2_with fail
  go_ret
  exact ⟨rfl, Below.step HB2.out (below_alloc _ _)⟩
end Go.Proofs.YtjomaepncibjpaaDoor
