/-
  THE LAW ImageWrites, its walk.
-/
import Derived.Test.YtgjjjagkbdbalaaDoorRPa
import Derived.Test.YtgjjjagkbdbalaaDoorRSm
import Derived.Test.YtgjjjagkbdbalaaDoorLErr
set_option linter.unusedSimpArgs false
set_option linter.unusedVariables false
namespace Go.Proofs.YtgjjjagkbdbalaaDoor
open Go.RowKit

/-- where the reference reads a net the code reads it -/
theorem agree1 {l : List UInt8} {gn : Nat} {rs : List Rg} {ls : List Lt} {os : List Int} (hR : RightT gn rs ls os) (hb : netB gn rs ls os = l) {B : Nat} {e : Ending} {w : World} (hi : ParsedI l B e w) : ∃ q : NetQ, e = .returned (.tuple #[.pointer (some ⟨q.p, 0, none⟩), .nilIface]) ∧ NetT q (FromB B) w gn rs ls os ∧ B ≤ q.p := by
  obtain ⟨g1, rs1, ls1, os1, l1, h1, c1⟩ := hi
  have h3 : NetRd (netB gn rs ls os ++ []) g1 rs1 ls1 os1 l1 := by rw [List.append_nil, hb]; exact h1
  obtain ⟨rfl, rfl, rfl, rfl, _⟩ := netRd_code hR h3
  rcases c1 with ⟨_, _, hq⟩ | ⟨hn, _⟩
  · exact hq
  · exfalso
    rcases hn with hn | hn
    · rw [rightT_iff.2 hR] at hn; cases hn
    · exact hn hb
/-- where it reads none the code reads none -/
theorem agree2 {l : List UInt8} {gn : Nat} {rs : List Rg} {ls : List Lt} {os : List Int} {t : Tk} (hq : NetQd l gn rs ls os t) (hn : t ≠ ([], false) ∨ rightT gn rs ls os = false ∨ netB gn rs ls os ≠ l) {B : Nat} {e : Ending} {w : World} (hi : ParsedI l B e w) : e = .returned (.tuple #[.pointer none, .iface 33 (.int .i64 3)]) := by
  obtain ⟨g1, rs1, ls1, os1, l1, h1, c1⟩ := hi
  rcases c1 with ⟨hR, hb, _⟩ | ⟨_, he⟩
  · exfalso
    rw [← hb] at hq
    obtain ⟨rfl, rfl, rfl, rfl, rfl⟩ := netQd_code hR hq
    rcases hn with hn | hn | hn
    · exact hn rfl
    · rw [rightT_iff.2 hR] at hn; cases hn
    · exact hn hb
  · exact he

set_option maxRecDepth 100000 in
set_option maxHeartbeats 3200000 in
theorem iw_big (given : Int) (rs : List Rg) (ls : List Lt) (on : Nat) (ra la oa : Option Addr) (rc lc oc : Nat) (s : ByteArray) (w : World) (h : (40 : Int) < (rs.length : Int) ∨ (60 : Int) < (ls.length : Int) ∨ (40 : Int) < (on : Int) ∨ ((1000 : Int) < given ∧ given ≤ 20000)) :
    Calls Tryd.prog 3 #[.agg #[.int .i64 given, .slice ra rs.length rc, .slice la ls.length lc, .slice oa on oc], .string s] w fun e w' => e = .returned (.bool true) ∧ Below w.heap.size w w' := by
  have HB1 := hide (below_alloc w (.cells #[.int .i64 given, .slice ra rs.length rc, .slice la ls.length lc, .slice oa on oc] 26))
  have HT : Hid (TabNo given rs.length ls.length on rc lc oc ra la oa (w.alloc (.cells #[.int .i64 given, .slice ra rs.length rc, .slice la ls.length lc, .slice oa on oc] 26))) := hide (by
    by_cases h1 : (40 : Int) < (rs.length : Int)
    · exact tables_a _ _ _ _ _ _ _ _ _ _ _ h1
    · by_cases h2 : (60 : Int) < (ls.length : Int)
      · exact tables_b _ _ _ _ _ _ _ _ _ _ _ (by omega) h2
      · by_cases h3 : (40 : Int) < (on : Int)
        · exact tables_c _ _ _ _ _ _ _ _ _ _ _ (by omega) (by omega) h3
        · exact tables_d _ _ _ _ _ _ _ _ _ _ _ (by omega) (by omega) (by omega) (by omega) (by omega))
  clear h
  go_enter Tryd.func3, Tryd.ntmps3
  go_wp2_with fail
  generalize w.alloc (.cells #[.int .i64 given, .slice ra rs.length rc, .slice la ls.length lc, .slice oa on oc] 26) = w1 at *
  refine HT.out.mono ?_
  rintro e w2 ⟨⟨g0, a1, a2, a3, n1, c1, n2, c2, n3, c3, rfl⟩, hb2⟩
  have HB2 := hide (Below.step HB1.out hb2)
  clear hb2 HT
  go_wp2_with fail
  go_ret
  exact ⟨rfl, Below.step HB2.out (below_alloc _ _)⟩

set_option maxRecDepth 100000 in
set_option maxHeartbeats 12800000 in
theorem iw_at (given : Int) (rs : List Rg) (ls : List Lt) (os : List Int) (ra la oa : Option Addr) (rc lc oc : Nat) (A : Nat → Option Addr) (C : Nat → Nat) (l : List UInt8) (w : World) (hr : Lies AnyB w ra (rgsC rs)) (hl : LutsAt AnyB w la A C ls) (ho : Lies AnyB w oa (intsC os)) (hdl : w.cell? ⟨0, 0, none⟩ = some (.iface 103 (.agg #[.pointer (some ⟨1, 37, none⟩)]))) (hrn : (rs.length : Int) ≤ 40) (hln : (ls.length : Int) ≤ 60) (hon : (os.length : Int) ≤ 40) (hgv : given ≤ 1000 ∨ 20000 < given) :
    Calls Tryd.prog 3 #[.agg #[.int .i64 given, .slice ra rs.length rc, .slice la ls.length lc, .slice oa os.length oc], .string ⟨l.toArray⟩] w fun e w' => e = .returned (.bool true) ∧ Below w.heap.size w w' := by
  have HB1 := hide (below_alloc w (.cells #[.int .i64 given, .slice ra rs.length rc, .slice la ls.length lc, .slice oa os.length oc] 26))
  have HNT : Hid (NetT ⟨w.heap.size, ra, rc, la, lc, oa, oc, A, C⟩ AnyB (w.alloc (.cells #[.int .i64 given, .slice ra rs.length rc, .slice la ls.length lc, .slice oa os.length oc] 26)) given rs ls os) := hide ⟨blk_new _ _, hr.below HB1.out, hl.below HB1.out, ho.below HB1.out⟩
  have HTAB := hide (tables_e given rs ls os.length rc lc oc ra la oa A C (w.alloc (.cells #[.int .i64 given, .slice ra rs.length rc, .slice la ls.length lc, .slice oa os.length oc] 26)) (hr.below HB1.out) (hl.below HB1.out) hrn hln hon hgv)
  have HL := hide hl
  have HO := hide ho
  have HDL := hide hdl
  have hqn : ∀ (v : Value) (w : World), (binOp .neq 37 (.iface 33 v) .nilIface).run Tryd.prog w = .ok (.bool true) w := fun _ _ => rfl
  have hqe : ∀ (v : Value) (w : World), (binOp .eql 37 (.iface 33 v) .nilIface).run Tryd.prog w = .ok (.bool false) w := fun _ _ => rfl
  have hpn : ∀ (a : Addr) (w : World), (binOp .neq 40 (.pointer (some a)) (.pointer none)).run Tryd.prog w = .ok (.bool true) w := fun _ _ => rfl
  have hsz : (⟨l.toArray⟩ : ByteArray).size = l.length := str_size l
  clear hr hl ho hdl
  go_enter Tryd.func3, Tryd.ntmps3
  go_wp2_with fail
  generalize w.alloc (.cells #[.int .i64 given, .slice ra rs.length rc, .slice la ls.length lc, .slice oa os.length oc] 26) = w1 at *
  refine HTAB.out.mono ?_
  rintro e w2 ⟨hcase, hb2⟩
  have HB2 := hide (Below.step HB1.out hb2)
  have HB12 := hide hb2
  clear hb2 HTAB
  rcases hcase with ⟨g0, a1, a2, a3, n1, c1, n2, c2, n3, c3, rfl⟩ | ⟨xa, xc, ya, yc, rfl, hxl, hyl, hten⟩
  · go_wp2_with fail
    go_ret
    exact ⟨rfl, Below.step HB2.out (below_alloc _ _)⟩
  · by_cases h500 : (500 : Int) < (l.length : Int)
    · go_wp2_with fail
      go_ret
      exact ⟨rfl, Below.step HB2.out (below_alloc _ _)⟩
    · have HB23 : Hid (Below w2.heap.size w2 (w2.alloc (.cells #[.int .i64 given, .slice xa rs.length xc, .slice ya ls.length yc, .slice oa os.length oc] 30))) := hide (below_alloc w2 (.cells #[.int .i64 given, .slice xa rs.length xc, .slice ya ls.length yc, .slice oa os.length oc] 30))
      have HX3 := hide (hxl.below HB23.out)
      have HY3 : Hid (LutsAt AnyB (w2.alloc (.cells #[.int .i64 given, .slice xa rs.length xc, .slice ya ls.length yc, .slice oa os.length oc] 30)) ya A C ls) := hide ⟨(hyl.below HB23.out).any, fun i hi => ((HL.out.ins i hi).below HB2.out).below HB23.out⟩
      have HO3 := hide ((HO.out.below HB2.out).below HB23.out)
      have HNT3 := hide ((HNT.out.below HB12.out).below HB23.out)
      have HXC3 := hide (blk_new w2 (.cells #[.int .i64 given, .slice xa rs.length xc, .slice ya ls.length yc, .slice oa os.length oc] 30))
      have HB3 := hide (Below.step HB2.out HB23.out)
      have HTEN := hide hten
      have HXB : Hid (w.heap.size ≤ w2.heap.size) := hide HB2.out.size
      clear hxl hyl hten HB12 HNT HB23
      cases hrt : rightT given rs ls os with
      | false =>
        have HW := hide (rWrite_no given rs ls os xc yc oc xa ya oa A C _ HX3.out.any HY3.out HO3.out (by omega) (by omega) (by omega) HTEN.out hrt)
        have HC := hide (fun W h => Write_no (w := W) (HNT3.out.below h) (by omega) (by omega) (by omega) hrt)
        clear hrt
        go_wp2_with fail
        generalize w2.alloc (.cells #[.int .i64 given, .slice xa rs.length xc, .slice ya ls.length yc, .slice oa os.length oc] 30) = w3 at *
        generalize w2.heap.size = X at *
        refine HW.out.mono ?_
        rintro e w4 ⟨rfl, hb4⟩
        have HC4 := hide (HC.out w4 hb4)
        have HX4 := hide (Below.blk hb4 HXC3.out)
        have HB4 := hide (Below.step HB3.out hb4)
        clear hb4 HW HC HXC3 HB3 HX3 HY3 HO3 HNT3
        go_wp2_with fail
        refine HC4.out.mono ?_
        rintro e w5 ⟨rfl, hb5⟩
        have HX5 := hide (Below.blk hb5 HX4.out)
        have HB5 := hide (Below.step HB4.out hb5)
        have HBE := hide (bare_e 1 w5 ((HB5.out.cell (cell_lt HDL.out)).trans HDL.out))
        clear hb5 HC4 HX4 HB4
        go_wp2_with fail
        refine HBE.out.mono ?_
        rintro e wv ⟨rfl, hb6⟩
        have HXV := hide (Below.blk hb6 HX5.out)
        have HBV := hide (Below.step HB5.out hb6)
        clear hb6 HBE HX5 HB5
        have HRP := hide (rparse_at l wv (by omega))
        have HPI := hide (fun W => Parse_at l W (by omega))
        go_wp2_with fail
        refine HRP.out.mono ?_
        rintro e w7 ⟨⟨g7, rs7, ls7, os7, t7, h7, c7⟩, hb7⟩
        have HX7 := hide (Below.blk hb7 HXV.out)
        have HB7 := hide (Below.step HBV.out hb7)
        have HXW : Hid (X < wv.heap.size) := hide (blk_lt HXV.out)
        have HDL7 := hide ((HB7.out.cell (cell_lt HDL.out)).trans HDL.out)
        have HXG : Hid (w.heap.size ≤ X) := HXB
        have r0 : w7.cell? ⟨X, 0, none⟩ = some (.int .i64 given) := by rw [blk_cell HX7.out]; rfl
        have r1 : w7.cell? ⟨X, 1, none⟩ = some (.slice xa rs.length xc) := by rw [blk_cell HX7.out]; rfl
        have r2 : w7.cell? ⟨X, 2, none⟩ = some (.slice ya ls.length yc) := by rw [blk_cell HX7.out]; rfl
        have r3 : w7.cell? ⟨X, 3, none⟩ = some (.slice oa os.length oc) := by rw [blk_cell HX7.out]; rfl
        have f0 : w7.frozen? ⟨X, 0, none⟩ = false := blk_frozen HX7.out 0
        have f1 : w7.frozen? ⟨X, 1, none⟩ = false := blk_frozen HX7.out 1
        have f2 : w7.frozen? ⟨X, 2, none⟩ = false := blk_frozen HX7.out 2
        have f3 : w7.frozen? ⟨X, 3, none⟩ = false := blk_frozen HX7.out 3
        have HSETB : Hid (∀ v0 v1 v2 v3, Below w.heap.size w ((((w7.setCell ⟨X, 0, none⟩ v0).setCell ⟨X, 1, none⟩ v1).setCell ⟨X, 2, none⟩ v2).setCell ⟨X, 3, none⟩ v3)) := hide fun v0 v1 v2 v3 => (((HB7.out.setCell HXG.out _).setCell HXG.out _).setCell HXG.out _).setCell HXG.out _
        have HSETD : Hid (∀ v0 v1 v2 v3, ((((w7.setCell ⟨X, 0, none⟩ v0).setCell ⟨X, 1, none⟩ v1).setCell ⟨X, 2, none⟩ v2).setCell ⟨X, 3, none⟩ v3).cell? ⟨0, 0, none⟩ = some (.iface 103 (.agg #[.pointer (some ⟨1, 37, none⟩)]))) := hide fun v0 v1 v2 v3 => ((HSETB.out v0 v1 v2 v3).cell (cell_lt HDL.out)).trans HDL.out
        clear hb7 HRP HBV HXV
        rcases c7 with ⟨hR7, hN7, xa7, ya7, oa7, xc7, yc7, oc7, A7, C7, rfl, hx, hy, hz⟩ | ⟨hn7, rfl⟩
        · have HA1 : Hid (∀ (B : Nat) (e : Ending) (W : World), ParsedI l B e W → ∃ q : NetQ, e = .returned (.tuple #[.pointer (some ⟨q.p, 0, none⟩), .nilIface]) ∧ NetT q (FromB B) W g7 rs7 ls7 os7 ∧ B ≤ q.p) := hide fun B e W hi => agree1 hR7 hN7 hi
          have HI4 : Hid (∀ x ∈ ls7, x.ins.length ≤ 4) := hide fun x hx => (hR7.lut hx).1
          have h71 := hR7.r1
          have h72 := hR7.l1
          have h73 := hR7.o1
          have hsm : ∀ (v0 v1 v2 v3 : Value) (b : Nat), FromB wv.heap.size b → b < w7.heap.size → ((((w7.setCell ⟨X, 0, none⟩ v0).setCell ⟨X, 1, none⟩ v1).setCell ⟨X, 2, none⟩ v2).setCell ⟨X, 3, none⟩ v3).heap[b]? = w7.heap[b]? := fun v0 v1 v2 v3 b hb _ => set4_ne (by have := HXW.out; unfold FromB at hb; omega)
          have HXS := hide (set4_me (a := .int .i64 g7) (b := .slice xa7 rs7.length xc7) (c := .slice ya7 ls7.length yc7) (d := .slice oa7 os7.length oc7) HX7.out)
          have HX8 := hide (hx.same (hsm (.int .i64 g7) (.slice xa7 rs7.length xc7) (.slice ya7 ls7.length yc7) (.slice oa7 os7.length oc7)))
          have HY8 := hide (hy.same (hsm (.int .i64 g7) (.slice xa7 rs7.length xc7) (.slice ya7 ls7.length yc7) (.slice oa7 os7.length oc7)))
          have HZ8 := hide (hz.same (hsm (.int .i64 g7) (.slice xa7 rs7.length xc7) (.slice ya7 ls7.length yc7) (.slice oa7 os7.length oc7)))
          have HB8 := hide (HSETB.out (.int .i64 g7) (.slice xa7 rs7.length xc7) (.slice ya7 ls7.length yc7) (.slice oa7 os7.length oc7))
          clear hx hy hz hsm hR7 hN7 h7 HSETB HSETD
          go_wp2_with fail
          clear r0 r1 r2 r3 f0 f1 f2 f3
          generalize (((w7.setCell ⟨X, 0, none⟩ (.int .i64 g7)).setCell ⟨X, 1, none⟩ (.slice xa7 rs7.length xc7)).setCell ⟨X, 2, none⟩ (.slice ya7 ls7.length yc7)).setCell ⟨X, 3, none⟩ (.slice oa7 os7.length oc7) = w8 at *
          refine (HPI.out w8).mono ?_
          rintro e w9 ⟨hpi, hb9⟩
          obtain ⟨q, rfl, hnt, _⟩ := HA1.out _ _ _ hpi
          have HNT9 := hide hnt
          have HX9 := hide (HX8.out.below hb9)
          have HY9 := hide (HY8.out.below hb9)
          have HZ9 := hide (HZ8.out.below hb9)
          have HXC9 := hide (Below.blk hb9 HXS.out)
          have HB9 := hide (Below.step HB8.out hb9)
          have HBN := hide (bare_nil w9)
          clear hpi hnt hb9 HX8 HY8 HZ8 HXS HB8 HA1 HPI
          go_wp2_with fail
          refine HBN.out.mono ?_
          rintro e w10 ⟨rfl, hb10⟩
          have HST := hide (sameT_at (HNT9.out.below hb10) xa7 ya7 oa7 xc7 yc7 oc7 A7 C7 (HX9.out.below hb10) (HY9.out.below hb10) (HZ9.out.below hb10) h71 h72 h73 HI4.out)
          have hxc := Below.blk hb10 HXC9.out
          have y0 : w10.cell? ⟨X, 0, none⟩ = some (.int .i64 g7) := by rw [blk_cell hxc]; rfl
          have y1 : w10.cell? ⟨X, 1, none⟩ = some (.slice xa7 rs7.length xc7) := by rw [blk_cell hxc]; rfl
          have y2 : w10.cell? ⟨X, 2, none⟩ = some (.slice ya7 ls7.length yc7) := by rw [blk_cell hxc]; rfl
          have y3 : w10.cell? ⟨X, 3, none⟩ = some (.slice oa7 os7.length oc7) := by rw [blk_cell hxc]; rfl
          have HB10 := hide (Below.step HB9.out hb10)
          clear hxc hb10 HBN HNT9 HX9 HY9 HZ9 HXC9 HB9
          go_wp2_with fail
          refine HST.out.mono ?_
          rintro e w11 ⟨rfl, hb11⟩
          have HB11 := hide (Below.step HB10.out hb11)
          clear hb11 HST
          go_wp2_with fail
          go_ret
          exact ⟨rfl, HB11.out⟩
        · have HA2 : Hid (∀ (B : Nat) (e : Ending) (W : World), ParsedI l B e W → e = .returned (.tuple #[.pointer none, .iface 33 (.int .i64 3)])) := hide fun B e W hi => agree2 h7 hn7 hi
          have HB8 := hide (HSETB.out (.int .i64 0) (.slice none 0 0) (.slice none 0 0) (.slice none 0 0))
          have HD8 := hide (HSETD.out (.int .i64 0) (.slice none 0 0) (.slice none 0 0) (.slice none 0 0))
          clear h7 hn7 HSETB HSETD
          go_wp2_with fail
          clear r0 r1 r2 r3 f0 f1 f2 f3
          generalize (((w7.setCell ⟨X, 0, none⟩ (.int .i64 0)).setCell ⟨X, 1, none⟩ (.slice none 0 0)).setCell ⟨X, 2, none⟩ (.slice none 0 0)).setCell ⟨X, 3, none⟩ (.slice none 0 0) = w8 at *
          refine (HPI.out w8).mono ?_
          rintro e w9 ⟨hpi, hb9⟩
          obtain rfl := HA2.out _ _ _ hpi
          have HB9 := hide (Below.step HB8.out hb9)
          have HD9 := hide ((hb9.cell (cell_lt HD8.out)).trans HD8.out)
          have HBN := hide (bare_e 3 w9 HD9.out)
          clear hpi hb9 HB8 HA2 HPI HD8
          go_wp2_with fail
          refine HBN.out.mono ?_
          rintro e w10 ⟨rfl, hb10⟩
          have HB10 := hide (Below.step HB9.out hb10)
          have HBN2 := hide (bare_e 3 w10 ((hb10.cell (cell_lt HD9.out)).trans HD9.out))
          clear hb10 HBN HB9
          go_wp2_with fail
          refine HBN2.out.mono ?_
          rintro e w11 ⟨rfl, hb11⟩
          have HB11 := hide (Below.step HB10.out hb11)
          clear hb11 HBN2
          go_wp2_with fail
          go_ret
          exact ⟨rfl, HB11.out⟩
      | true =>
        obtain ⟨gn, rfl⟩ := rightT_nat hrt
        have hRT := rightT_iff.1 hrt
        have HW := hide (rWrite_at gn rs ls os xc yc oc xa ya oa A C _ HX3.out.any HY3.out HO3.out hRT)
        have HC := hide (fun W h => Write_at (w := W) (HNT3.out.below h) hRT)
        clear hrt hRT
        generalize wroteS gn rs ls os = TX at *
        go_wp2_with fail
        generalize w2.alloc (.cells #[.int .i64 gn, .slice xa rs.length xc, .slice ya ls.length yc, .slice oa os.length oc] 30) = w3 at *
        generalize w2.heap.size = X at *
        refine HW.out.mono ?_
        rintro e w4 ⟨rfl, hb4⟩
        have HC4 := hide (HC.out w4 hb4)
        have HX4 := hide (Below.blk hb4 HXC3.out)
        have HB4 := hide (Below.step HB3.out hb4)
        clear hb4 HW HC HXC3 HB3 HX3 HY3 HO3 HNT3
        go_wp2_with fail
        refine HC4.out.mono ?_
        rintro e w5 ⟨rfl, hb5⟩
        have HX5 := hide (Below.blk hb5 HX4.out)
        have HB5 := hide (Below.step HB4.out hb5)
        have HBE := hide (bare_nil w5)
        clear hb5 HC4 HX4 HB4
        go_wp2_with fail
        refine HBE.out.mono ?_
        rintro e wv ⟨rfl, hb6⟩
        have HXV := hide (Below.blk hb6 HX5.out)
        have HBV := hide (Below.step HB5.out hb6)
        clear hb6 HBE HX5 HB5
        have HRP := hide (rparse_at l wv (by omega))
        have HPI := hide (fun W => Parse_at l W (by omega))
        go_wp2_with fail
        refine HRP.out.mono ?_
        rintro e w7 ⟨⟨g7, rs7, ls7, os7, t7, h7, c7⟩, hb7⟩
        have HX7 := hide (Below.blk hb7 HXV.out)
        have HB7 := hide (Below.step HBV.out hb7)
        have HXW : Hid (X < wv.heap.size) := hide (blk_lt HXV.out)
        have HDL7 := hide ((HB7.out.cell (cell_lt HDL.out)).trans HDL.out)
        have HXG : Hid (w.heap.size ≤ X) := HXB
        have r0 : w7.cell? ⟨X, 0, none⟩ = some (.int .i64 gn) := by rw [blk_cell HX7.out]; rfl
        have r1 : w7.cell? ⟨X, 1, none⟩ = some (.slice xa rs.length xc) := by rw [blk_cell HX7.out]; rfl
        have r2 : w7.cell? ⟨X, 2, none⟩ = some (.slice ya ls.length yc) := by rw [blk_cell HX7.out]; rfl
        have r3 : w7.cell? ⟨X, 3, none⟩ = some (.slice oa os.length oc) := by rw [blk_cell HX7.out]; rfl
        have f0 : w7.frozen? ⟨X, 0, none⟩ = false := blk_frozen HX7.out 0
        have f1 : w7.frozen? ⟨X, 1, none⟩ = false := blk_frozen HX7.out 1
        have f2 : w7.frozen? ⟨X, 2, none⟩ = false := blk_frozen HX7.out 2
        have f3 : w7.frozen? ⟨X, 3, none⟩ = false := blk_frozen HX7.out 3
        have HSETB : Hid (∀ v0 v1 v2 v3, Below w.heap.size w ((((w7.setCell ⟨X, 0, none⟩ v0).setCell ⟨X, 1, none⟩ v1).setCell ⟨X, 2, none⟩ v2).setCell ⟨X, 3, none⟩ v3)) := hide fun v0 v1 v2 v3 => (((HB7.out.setCell HXG.out _).setCell HXG.out _).setCell HXG.out _).setCell HXG.out _
        have HSETD : Hid (∀ v0 v1 v2 v3, ((((w7.setCell ⟨X, 0, none⟩ v0).setCell ⟨X, 1, none⟩ v1).setCell ⟨X, 2, none⟩ v2).setCell ⟨X, 3, none⟩ v3).cell? ⟨0, 0, none⟩ = some (.iface 103 (.agg #[.pointer (some ⟨1, 37, none⟩)]))) := hide fun v0 v1 v2 v3 => ((HSETB.out v0 v1 v2 v3).cell (cell_lt HDL.out)).trans HDL.out
        clear hb7 HRP HBV HXV
        rcases c7 with ⟨hR7, hN7, xa7, ya7, oa7, xc7, yc7, oc7, A7, C7, rfl, hx, hy, hz⟩ | ⟨hn7, rfl⟩
        · have HA1 : Hid (∀ (B : Nat) (e : Ending) (W : World), ParsedI l B e W → ∃ q : NetQ, e = .returned (.tuple #[.pointer (some ⟨q.p, 0, none⟩), .nilIface]) ∧ NetT q (FromB B) W g7 rs7 ls7 os7 ∧ B ≤ q.p) := hide fun B e W hi => agree1 hR7 hN7 hi
          have HI4 : Hid (∀ x ∈ ls7, x.ins.length ≤ 4) := hide fun x hx => (hR7.lut hx).1
          have h71 := hR7.r1
          have h72 := hR7.l1
          have h73 := hR7.o1
          have hsm : ∀ (v0 v1 v2 v3 : Value) (b : Nat), FromB wv.heap.size b → b < w7.heap.size → ((((w7.setCell ⟨X, 0, none⟩ v0).setCell ⟨X, 1, none⟩ v1).setCell ⟨X, 2, none⟩ v2).setCell ⟨X, 3, none⟩ v3).heap[b]? = w7.heap[b]? := fun v0 v1 v2 v3 b hb _ => set4_ne (by have := HXW.out; unfold FromB at hb; omega)
          have HXS := hide (set4_me (a := .int .i64 g7) (b := .slice xa7 rs7.length xc7) (c := .slice ya7 ls7.length yc7) (d := .slice oa7 os7.length oc7) HX7.out)
          have HX8 := hide (hx.same (hsm (.int .i64 g7) (.slice xa7 rs7.length xc7) (.slice ya7 ls7.length yc7) (.slice oa7 os7.length oc7)))
          have HY8 := hide (hy.same (hsm (.int .i64 g7) (.slice xa7 rs7.length xc7) (.slice ya7 ls7.length yc7) (.slice oa7 os7.length oc7)))
          have HZ8 := hide (hz.same (hsm (.int .i64 g7) (.slice xa7 rs7.length xc7) (.slice ya7 ls7.length yc7) (.slice oa7 os7.length oc7)))
          have HB8 := hide (HSETB.out (.int .i64 g7) (.slice xa7 rs7.length xc7) (.slice ya7 ls7.length yc7) (.slice oa7 os7.length oc7))
          clear hx hy hz hsm hR7 hN7 h7 HSETB HSETD
          go_wp2_with fail
          clear r0 r1 r2 r3 f0 f1 f2 f3
          generalize (((w7.setCell ⟨X, 0, none⟩ (.int .i64 g7)).setCell ⟨X, 1, none⟩ (.slice xa7 rs7.length xc7)).setCell ⟨X, 2, none⟩ (.slice ya7 ls7.length yc7)).setCell ⟨X, 3, none⟩ (.slice oa7 os7.length oc7) = w8 at *
          refine (HPI.out w8).mono ?_
          rintro e w9 ⟨hpi, hb9⟩
          obtain ⟨q, rfl, hnt, _⟩ := HA1.out _ _ _ hpi
          have HNT9 := hide hnt
          have HX9 := hide (HX8.out.below hb9)
          have HY9 := hide (HY8.out.below hb9)
          have HZ9 := hide (HZ8.out.below hb9)
          have HXC9 := hide (Below.blk hb9 HXS.out)
          have HB9 := hide (Below.step HB8.out hb9)
          have HBN := hide (bare_nil w9)
          clear hpi hnt hb9 HX8 HY8 HZ8 HXS HB8 HA1 HPI
          go_wp2_with fail
          refine HBN.out.mono ?_
          rintro e w10 ⟨rfl, hb10⟩
          have HST := hide (sameT_at (HNT9.out.below hb10) xa7 ya7 oa7 xc7 yc7 oc7 A7 C7 (HX9.out.below hb10) (HY9.out.below hb10) (HZ9.out.below hb10) h71 h72 h73 HI4.out)
          have hxc := Below.blk hb10 HXC9.out
          have y0 : w10.cell? ⟨X, 0, none⟩ = some (.int .i64 g7) := by rw [blk_cell hxc]; rfl
          have y1 : w10.cell? ⟨X, 1, none⟩ = some (.slice xa7 rs7.length xc7) := by rw [blk_cell hxc]; rfl
          have y2 : w10.cell? ⟨X, 2, none⟩ = some (.slice ya7 ls7.length yc7) := by rw [blk_cell hxc]; rfl
          have y3 : w10.cell? ⟨X, 3, none⟩ = some (.slice oa7 os7.length oc7) := by rw [blk_cell hxc]; rfl
          have HB10 := hide (Below.step HB9.out hb10)
          clear hxc hb10 HBN HNT9 HX9 HY9 HZ9 HXC9 HB9
          go_wp2_with fail
          refine HST.out.mono ?_
          rintro e w11 ⟨rfl, hb11⟩
          have HB11 := hide (Below.step HB10.out hb11)
          clear hb11 HST
          go_wp2_with fail
          go_ret
          exact ⟨rfl, HB11.out⟩
        · have HA2 : Hid (∀ (B : Nat) (e : Ending) (W : World), ParsedI l B e W → e = .returned (.tuple #[.pointer none, .iface 33 (.int .i64 3)])) := hide fun B e W hi => agree2 h7 hn7 hi
          have HB8 := hide (HSETB.out (.int .i64 0) (.slice none 0 0) (.slice none 0 0) (.slice none 0 0))
          have HD8 := hide (HSETD.out (.int .i64 0) (.slice none 0 0) (.slice none 0 0) (.slice none 0 0))
          clear h7 hn7 HSETB HSETD
          go_wp2_with fail
          clear r0 r1 r2 r3 f0 f1 f2 f3
          generalize (((w7.setCell ⟨X, 0, none⟩ (.int .i64 0)).setCell ⟨X, 1, none⟩ (.slice none 0 0)).setCell ⟨X, 2, none⟩ (.slice none 0 0)).setCell ⟨X, 3, none⟩ (.slice none 0 0) = w8 at *
          refine (HPI.out w8).mono ?_
          rintro e w9 ⟨hpi, hb9⟩
          obtain rfl := HA2.out _ _ _ hpi
          have HB9 := hide (Below.step HB8.out hb9)
          have HD9 := hide ((hb9.cell (cell_lt HD8.out)).trans HD8.out)
          have HBN := hide (bare_e 3 w9 HD9.out)
          clear hpi hb9 HB8 HA2 HPI HD8
          go_wp2_with fail
          refine HBN.out.mono ?_
          rintro e w10 ⟨rfl, hb10⟩
          have HB10 := hide (Below.step HB9.out hb10)
          have HBN2 := hide (bare_e 3 w10 ((hb10.cell (cell_lt HD9.out)).trans HD9.out))
          clear hb10 HBN HB9
          go_wp2_with fail
          refine HBN2.out.mono ?_
          rintro e w11 ⟨rfl, hb11⟩
          have HB11 := hide (Below.step HB10.out hb11)
          clear hb11 HBN2
          go_wp2_with fail
          go_ret
          exact ⟨rfl, HB11.out⟩
end Go.Proofs.YtgjjjagkbdbalaaDoor
