/-
  CONTRACTS of the reference: in, Right.
-/
import Derived.Test.YtndpehjbepfbkaaGreatDoorLMem
set_option linter.unusedSimpArgs false
set_option linter.unusedVariables false
namespace Go.Proofs.YtndpehjbepfbkaaGreatDoor
open Go.RowKit

set_option maxRecDepth 100000 in
set_option maxHeartbeats 1600000 in
theorem in_yes (n lo hi : Int) (w : World) (h1 : lo ≤ n) (h2 : n ≤ hi) : Calls Tryz.prog 81 #[.int .i64 n, .int .i64 lo, .int .i64 hi] w fun e w' => e = .returned (.bool true) ∧ w' = w := by
  go_enter Tryz.func81, Tryz.ntmps81
  go_wp2
  go_ret
  exact ⟨ret_bool (by simp <;> omega), rfl⟩
set_option maxRecDepth 100000 in
set_option maxHeartbeats 1600000 in
theorem in_no (n lo hi : Int) (w : World) (h : n < lo ∨ hi < n) : Calls Tryz.prog 81 #[.int .i64 n, .int .i64 lo, .int .i64 hi] w fun e w' => e = .returned (.bool false) ∧ w' = w := by
  by_cases h1 : n < lo
  · go_enter Tryz.func81, Tryz.ntmps81
    go_wp2
    go_ret
    exact ⟨rfl, rfl⟩
  · have h2 : hi < n := by omega
    have h3 : lo ≤ n := by omega
    clear h h1
    go_enter Tryz.func81, Tryz.ntmps81
    go_wp2
    go_ret
    exact ⟨ret_bool (by simp <;> omega), rfl⟩

theorem mul_bd {m : Int} (h1 : 2 ≤ m) (h2 : m < 1048576) : m * m ≤ 1099511627776 ∧ 0 ≤ m * m := by
  constructor
  · have h : m * m ≤ m * 1048576 := Int.mul_le_mul_of_nonneg_left (by omega) (by omega)
    omega
  · exact Int.mul_nonneg (by omega) (by omega)
def mostTo : Nat → Int
  | 0 => 2
  | k + 1 => if mostTo k < 1048576 then mostTo k * mostTo k else mostTo k
theorem mostTo_bd (k : Nat) : 2 ≤ mostTo k ∧ mostTo k ≤ 1099511627776 := by
  induction k with
  | zero => simp [mostTo]
  | succ k ih =>
    simp only [mostTo]
    split
    · rename_i h
      constructor
      · have : mostTo k * 2 ≤ mostTo k * mostTo k := Int.mul_le_mul_of_nonneg_left ih.1 (by omega)
        omega
      · have h1 : mostTo k * mostTo k ≤ mostTo k * 1048576 := Int.mul_le_mul_of_nonneg_left (by omega) (by omega)
        omega
    · exact ih
theorem mostTo_4 : ∀ k : Nat, k ≤ 4 → mostTo k = (pow4 k : Nat) := by decide

set_option maxRecDepth 100000 in
set_option maxHeartbeats 3200000 in
theorem rright_off (given : Int) (rn ln on rc lc oc : Nat) (ra la oa : Option Addr) (w : World) (h : given < 0 ∨ 20000 < given) :
    Calls Tryz.prog 58 #[.agg #[.int .i64 given, .slice ra rn rc, .slice la ln lc, .slice oa on oc]] w fun e w' => e = .returned (.bool false) ∧ Below w.heap.size w w' := by
  have HB1 := hide (below_alloc w (.cells #[.int .i64 given, .slice ra rn rc, .slice la ln lc, .slice oa on oc] 44))
  have HB2 := hide (Below.step HB1.out (below_alloc (w.alloc (.cells #[.int .i64 given, .slice ra rn rc, .slice la ln lc, .slice oa on oc] 44)) (.cells #[.int .i64 given, .int .i64 rn, .int .i64 ln, .int .i64 on] 3)))
  have HC := hide fun W => in_no given 0 20000 W h
  clear h
  go_enter Tryz.func58, Tryz.ntmps58
  go_wp2_with fail
  go_loopw [28] (fun i wr => i = .int .i64 0 ∧ wr = (w.alloc (.cells #[.int .i64 given, .slice ra rn rc, .slice la ln lc, .slice oa on oc] 44)).alloc (.cells #[.int .i64 given, .int .i64 rn, .int .i64 ln, .int .i64 on] 3)) (fun _ _ => 0)
  case atStart => exact ⟨rfl, rfl⟩
  case round =>
    obtain ⟨rfl, rfl⟩ := hrel
    go_wp2_with fail
    refine (HC.out _).mono ?_
    rintro e w4 ⟨rfl, rfl⟩
    go_wp2_with fail
    go_ret
    exact ⟨rfl, HB2.out⟩

set_option maxRecDepth 100000 in
set_option maxHeartbeats 6400000 in
theorem rright_on {S : Nat → Prop} (gn : Nat) (rs : List Rg) (ls : List Lt) (os : List Int) (rc lc oc : Nat) (ra la oa : Option Addr) (A : Nat → Option Addr) (C : Nat → Nat) (w : World) (hr : Lies S w ra (rgsC rs)) (hl : LutsAt S w la A C ls) (ho : Lies S w oa (intsC os)) (hg : (gn : Int) ≤ 20000) (hrn : (rs.length : Int) ≤ 20000) (hln : (ls.length : Int) ≤ 20000) (hon : (os.length : Int) ≤ 20000) (hi10 : ∀ i, i < ls.length → (ltAt ls i).ins.length ≤ 10) :
    Calls Tryz.prog 58 #[.agg #[.int .i64 gn, .slice ra rs.length rc, .slice la ls.length lc, .slice oa os.length oc]] w fun e w' => e = .returned (.bool (bodyT (gn + rs.length) rs ls os)) ∧ Below w.heap.size w w' := by
  have HB1 := hide (below_alloc w (.cells #[.int .i64 gn, .slice ra rs.length rc, .slice la ls.length lc, .slice oa os.length oc] 44))
  have HN1 := hide (blk_new w (.cells #[.int .i64 gn, .slice ra rs.length rc, .slice la ls.length lc, .slice oa os.length oc] 44))
  have HB2 := hide (Below.step HB1.out (below_alloc (w.alloc (.cells #[.int .i64 gn, .slice ra rs.length rc, .slice la ls.length lc, .slice oa os.length oc] 44)) (.cells #[.int .i64 gn, .int .i64 rs.length, .int .i64 ls.length, .int .i64 os.length] 3)))
  have HN2 := hide (blk_new (w.alloc (.cells #[.int .i64 gn, .slice ra rs.length rc, .slice la ls.length lc, .slice oa os.length oc] 44)) (.cells #[.int .i64 gn, .int .i64 rs.length, .int .i64 ls.length, .int .i64 os.length] 3))
  have HME := hide (Below.blk (below_alloc (w.alloc (.cells #[.int .i64 gn, .slice ra rs.length rc, .slice la ls.length lc, .slice oa os.length oc] 44)) (.cells #[.int .i64 gn, .int .i64 rs.length, .int .i64 ls.length, .int .i64 os.length] 3)) HN1.out)
  have HSZ : Hid ((w.alloc (.cells #[.int .i64 gn, .slice ra rs.length rc, .slice la ls.length lc, .slice oa os.length oc] 44)).heap.size = w.heap.size + 1) := hide (by simp)
  rw [HSZ.out] at HN2
  have HR := hide hr
  have HL := hide hl
  have HO := hide ho
  have HI := hide hi10
  clear hr hl ho hi10
  go_enter Tryz.func58, Tryz.ntmps58
  go_wp2_with fail
  generalize (w.alloc (.cells #[.int .i64 gn, .slice ra rs.length rc, .slice la ls.length lc, .slice oa os.length oc] 44)).alloc (.cells #[.int .i64 gn, .int .i64 rs.length, .int .i64 ls.length, .int .i64 os.length] 3) = w2 at *
  go_loop [28] (fun i => ∃ q : Nat, q ≤ 4 ∧ i = .int .i64 q) (fun i => 4 - (intOf i).toNat)
  case atStart => exact ⟨0, by omega, rfl⟩
  case round =>
    obtain ⟨q, hq, rfl⟩ := hrel
    have d0 : w2.cell? ⟨w.heap.size + 1, 0, none⟩ = some (.int .i64 gn) := by rw [blk_cell HN2.out]; rfl
    have d1 : w2.cell? ⟨w.heap.size + 1, 1, none⟩ = some (.int .i64 rs.length) := by rw [blk_cell HN2.out]; rfl
    have d2 : w2.cell? ⟨w.heap.size + 1, 2, none⟩ = some (.int .i64 ls.length) := by rw [blk_cell HN2.out]; rfl
    have d3 : w2.cell? ⟨w.heap.size + 1, 3, none⟩ = some (.int .i64 os.length) := by rw [blk_cell HN2.out]; rfl
    rcases (by omega : q = 0 ∨ q = 1 ∨ q = 2 ∨ q = 3 ∨ q = 4) with rfl | rfl | rfl | rfl | rfl
    · go_wp2_with fail
      refine (in_yes _ 0 20000 _ (by omega) (by omega)).mono ?_
      rintro e w4 ⟨rfl, rfl⟩
      go_wp2_with fail
      exact ⟨⟨1, by omega, rfl⟩, by simp [intOf]⟩
    · go_wp2_with fail
      refine (in_yes _ 0 20000 _ (by omega) (by omega)).mono ?_
      rintro e w4 ⟨rfl, rfl⟩
      go_wp2_with fail
      exact ⟨⟨2, by omega, rfl⟩, by simp [intOf]⟩
    · go_wp2_with fail
      refine (in_yes _ 0 20000 _ (by omega) (by omega)).mono ?_
      rintro e w4 ⟨rfl, rfl⟩
      go_wp2_with fail
      exact ⟨⟨3, by omega, rfl⟩, by simp [intOf]⟩
    · go_wp2_with fail
      refine (in_yes _ 0 20000 _ (by omega) (by omega)).mono ?_
      rintro e w4 ⟨rfl, rfl⟩
      go_wp2_with fail
      exact ⟨⟨4, by omega, rfl⟩, by simp [intOf]⟩
    · clear d0 d1 d2 d3
      have HW : Hid (∀ W, Below w2.heap.size w2 W → W.cell? ⟨w.heap.size, 0, none⟩ = some (.int .i64 gn) ∧ W.cell? ⟨w.heap.size, 1, none⟩ = some (.slice ra rs.length rc) ∧ W.cell? ⟨w.heap.size, 2, none⟩ = some (.slice la ls.length lc) ∧ W.cell? ⟨w.heap.size, 3, none⟩ = some (.slice oa os.length oc)) := hide fun W hb => ⟨by rw [blk_cell (Below.blk hb HME.out)]; rfl, by rw [blk_cell (Below.blk hb HME.out)]; rfl, by rw [blk_cell (Below.blk hb HME.out)]; rfl, by rw [blk_cell (Below.blk hb HME.out)]; rfl⟩
      obtain ⟨a0, a1, a2, a3⟩ := HW.out _ (Below.refl _ _)
      have HBR : Hid (Below w2.heap.size w2 w2) := hide (Below.refl _ _)
      go_wp2_with fail
      clear a0 a1 a2 a3
      go_loopw [49] (fun i wr => ∃ k : Nat, k ≤ ls.length ∧ i = .int .i64 k ∧ Hid (Below w2.heap.size w2 wr) ∧ Hid (lutsTo (gn + rs.length) ls k = true)) (fun i _ => ls.length - (intOf i).toNat)
      case atStart => exact ⟨0, Nat.zero_le _, rfl, HBR, hide rfl⟩
      case round =>
        obtain ⟨k, hk, rfl, hb, hno⟩ := hrel
        by_cases hlt : k < ls.length
        · have hki : (k : Int) < (ls.length : Int) := by omega
          obtain ⟨b, off, ha, _, hbl, n0, n1⟩ := (HL.out.below (Below.step HB2.out hb.out)).row.pair hlt
          have HINS := hide ((HL.out.below (Below.step HB2.out hb.out)).ins k hlt)
          simp only [lutF, lutG] at n0 n1
          have HA := hide ha
          rw [HA.out]
          have h10 := HI.out k hlt
          have HB5 : Hid (Below wr.heap.size wr (wr.alloc (.cells #[.slice (A k) (ltAt ls k).ins.length (C k), .int .i64 (ltAt ls k).table] 93))) := hide (below_alloc _ _)
          have HN5 := hide (blk_new wr (.cells #[.slice (A k) (ltAt ls k).ins.length (C k), .int .i64 (ltAt ls k).table] 93))
          have x0 : (wr.alloc (.cells #[.slice (A k) (ltAt ls k).ins.length (C k), .int .i64 (ltAt ls k).table] 93)).cell? ⟨wr.heap.size, 0, none⟩ = some (.slice (A k) (ltAt ls k).ins.length (C k)) := by rw [blk_cell HN5.out]; rfl
          have HBS := hide (Below.step hb.out HB5.out)
          have HRL : Hid (∀ r, rightL (gn + rs.length + k) (ltAt ls k) = r → (r = true → lutsTo (gn + rs.length) ls (k + 1) = true) ∧ (r = false → bodyT (gn + rs.length) rs ls os = false)) := hide fun r hr => ⟨fun e => by simp only [lutsTo, hno.out, hr, e]; rfl, fun e => by
            cases hq : lutsTo (gn + rs.length) ls ls.length with
            | false => simp [bodyT, hq]
            | true => rw [lutsTo_at hq k hlt] at hr; rw [e] at hr; cases hr⟩
          have HRLU : Hid (rightL (gn + rs.length + k) (ltAt ls k) = ((decide ((ltAt ls k).ins.length ≤ 4) && inR (ltAt ls k).table (pow4 (ltAt ls k).ins.length : Nat)) && outsTo (gn + rs.length + k) (ltAt ls k).ins (ltAt ls k).ins.length)) := hide rfl
          generalize ltAt ls k = lt at *
          obtain ⟨ins, tb⟩ := lt
          simp only at n0 n1 x0 HINS h10 HB5 HN5 HBS HRLU
          have HIN5 := hide (HINS.out.below HB5.out)
          obtain ⟨a0, a1, a2, a3⟩ := HW.out _ HBS.out
          clear ha hbl
          go_wp2_with fail
          clear x0 n0 n1
          generalize hW5 : wr.alloc (.cells #[.slice (A k) ins.length (C k), .int .i64 tb] 93) = W5 at *
          clear hW5
          go_loop [8, 57] (fun v i => ∃ q : Nat, q ≤ ins.length ∧ i = .int .i64 q ∧ v = .int .i64 (mostTo q) ∧ Hid (outsTo (gn + rs.length + k) ins q = true)) (fun _ i => ins.length - (intOf i).toNat)
          case atStart => exact ⟨0, Nat.zero_le _, rfl, rfl, hide rfl⟩
          case round =>
            obtain ⟨q, hq, rfl, rfl, hoq⟩ := hrel
            have hmb := mostTo_bd q
            by_cases hlq : q < ins.length
            · have hqi : (q : Int) < (ins.length : Int) := by omega
              obtain ⟨b2, off2, ha2, _, _, v0⟩ := HIN5.out.ints hlq
              have HA2 := hide ha2
              rw [HA2.out]
              have HOQ : Hid (outsTo (gn + rs.length + k) ins (q + 1) = inR (outAt ins q) (gn + rs.length + k : Nat)) := hide (by simp only [outsTo, hoq.out]; rfl)
              have HBD : Hid (inR (outAt ins q) (gn + rs.length + k : Nat) = false → rightL (gn + rs.length + k) ⟨ins, tb⟩ = false) := hide fun hf => by
                cases hqq : outsTo (gn + rs.length + k) ins ins.length with
                | false => simp [rightL, hqq]
                | true => rw [outsTo_at hqq q hlq] at hf; cases hf
              have HMT : Hid (mostTo (q + 1) = if mostTo q < 1048576 then mostTo q * mostTo q else mostTo q) := hide rfl
              generalize outAt ins q = sg at *
              clear ha2
              by_cases hs0 : sg < 0
              · have HFF := hide ((HRL.out _ (HBD.out (by simp [inR]; omega))).2 rfl)
                clear HBD HRL HRLU
                go_wp2_with fail
                go_ret
                exact ⟨ret_bool HFF.out.symm, Below.step HB2.out HBS.out⟩
              · by_cases hs1 : sg < (gn + rs.length + k : Nat)
                · have HTT : Hid (outsTo (gn + rs.length + k) ins (q + 1) = true) := hide (by rw [HOQ.out]; simp [inR]; omega)
                  have hs2 : ¬ ((gn : Int) + rs.length + ls.length - ls.length + k ≤ sg) := by omega
                  clear HBD HOQ HRL HRLU
                  by_cases hm : mostTo q < 1048576
                  · have HM2 : Hid (mostTo (q + 1) = mostTo q * mostTo q) := hide (by rw [HMT.out, if_pos hm])
                    have hmul := mul_bd hmb.1 hm
                    go_wp2_with fail
                    refine ⟨⟨q + 1, by omega, by go_num, ?_, HTT⟩, by simp [intOf]; omega⟩
                    rw [HM2.out]
                    try go_num
                  · have HM2 : Hid (mostTo (q + 1) = mostTo q) := hide (by rw [HMT.out, if_neg hm])
                    go_wp2_with fail
                    exact ⟨⟨q + 1, by omega, by go_num, by rw [HM2.out], HTT⟩, by simp [intOf]; omega⟩
                · have HFF := hide ((HRL.out _ (HBD.out (by simp [inR]; omega))).2 rfl)
                  clear HBD HRL HRLU
                  go_wp2_with fail
                  go_ret
                  exact ⟨ret_bool HFF.out.symm, Below.step HB2.out HBS.out⟩
            · have HQ : Hid (q = ins.length) := hide (by omega)
              have HOK := hide hoq.out
              rw [HQ.out] at HOK
              have HM4 : Hid (ins.length ≤ 4 → mostTo q = (pow4 ins.length : Nat)) := hide fun h => by rw [HQ.out]; exact mostTo_4 _ h
              have y0 : W5.cell? ⟨wr.heap.size, 0, none⟩ = some (.slice (A k) ins.length (C k)) := by rw [blk_cell HN5.out]; rfl
              have y1 : W5.cell? ⟨wr.heap.size, 1, none⟩ = some (.int .i64 tb) := by rw [blk_cell HN5.out]; rfl
              clear hoq a0 a1 a2 a3
              by_cases h4 : (4 : Int) < (ins.length : Int)
              · have HFF := hide ((HRL.out _ (by rw [HRLU.out]; simp; omega)).2 rfl)
                clear HRL HRLU HM4
                go_wp2_with fail
                go_ret
                exact ⟨ret_bool HFF.out.symm, Below.step HB2.out HBS.out⟩
              · have hm4 := HM4.out (by omega)
                by_cases ht0 : tb < 0
                · have HFF := hide ((HRL.out _ (by rw [HRLU.out]; simp [inR]; omega)).2 rfl)
                  clear HRL HRLU HM4 hm4
                  go_wp2_with fail
                  go_ret
                  exact ⟨ret_bool HFF.out.symm, Below.step HB2.out HBS.out⟩
                · by_cases ht1 : tb < mostTo q
                  · have HTT := hide ((HRL.out _ (by rw [HRLU.out, HOK.out, ← hm4]; simp [inR]; omega)).1 rfl)
                    clear HRL HRLU HM4 hm4
                    go_wp2_with fail
                    exact ⟨⟨k + 1, by omega, by go_num, HBS, HTT⟩, by simp [intOf]; omega⟩
                  · have HFF := hide ((HRL.out _ (by rw [HRLU.out, ← hm4]; simp [inR]; omega)).2 rfl)
                    clear HRL HRLU HM4 hm4
                    go_wp2_with fail
                    go_ret
                    exact ⟨ret_bool HFF.out.symm, Below.step HB2.out HBS.out⟩
        · have HJ : Hid (lutsTo (gn + rs.length) ls ls.length = true) := hide (by
            have e : k = ls.length := by omega
            have := hno.out
            rwa [e] at this)
          obtain ⟨a0, a1, a2, a3⟩ := HW.out _ hb.out
          clear hno
          go_wp2_with fail
          clear a0 a1 a2 a3
          have HBE := hide hb.out
          clear hb HBR
          go_loopw [99] (fun i wr => ∃ k : Nat, k ≤ rs.length ∧ i = .int .i64 k ∧ Hid (Below w2.heap.size w2 wr) ∧ Hid (regsTo (gn + rs.length + ls.length) rs k = true)) (fun i _ => rs.length - (intOf i).toNat)
          case atStart => exact ⟨0, Nat.zero_le _, rfl, HBE, hide rfl⟩
          case round =>
            clear HBE
            obtain ⟨k, hk, rfl, hb, hno⟩ := hrel
            by_cases hlt : k < rs.length
            · have hki : (k : Int) < (rs.length : Int) := by omega
              obtain ⟨b, off, ha, _, hbl, n0, n1⟩ := (HR.out.below (Below.step HB2.out hb.out)).pair hlt
              simp only [rgF, rgG] at n0 n1
              have HA := hide ha
              rw [HA.out]
              have HB5 : Hid (Below wr.heap.size wr (wr.alloc (.cells #[.bool (rgAt rs k).init, .int .i64 (rgAt rs k).next] 51))) := hide (below_alloc _ _)
              have HBS := hide (Below.step hb.out HB5.out)
              have x1 : (wr.alloc (.cells #[.bool (rgAt rs k).init, .int .i64 (rgAt rs k).next] 51)).cell? ⟨wr.heap.size, 1, none⟩ = some (.int .i64 (rgAt rs k).next) := by rw [blk_cell (blk_new _ _)]; rfl
              have HT1 : Hid (regsTo (gn + rs.length + ls.length) rs (k + 1) = inR (rgAt rs k).next (gn + rs.length + ls.length : Nat)) := hide (by simp only [regsTo, hno.out]; rfl)
              have HT2 : Hid (inR (rgAt rs k).next (gn + rs.length + ls.length : Nat) = false → bodyT (gn + rs.length) rs ls os = false) := hide fun hf => by
                cases hq : regsTo (gn + rs.length + ls.length) rs rs.length with
                | false => simp [bodyT, hq]
                | true => rw [regsTo_at hq k hlt] at hf; cases hf
              generalize (rgAt rs k).next = nx at *
              generalize (rgAt rs k).init = ni at *
              clear ha hbl
              by_cases hs0 : nx < 0
              · have HFF := hide (HT2.out (by simp [inR]; omega))
                clear HT1 HT2
                go_wp2_with fail
                go_ret
                exact ⟨ret_bool HFF.out.symm, Below.step HB2.out HBS.out⟩
              · by_cases hs1 : nx < (gn : Int) + rs.length + ls.length
                · have HTT : Hid (regsTo (gn + rs.length + ls.length) rs (k + 1) = true) := hide (by rw [HT1.out]; simp [inR]; omega)
                  clear HT1 HT2
                  go_wp2_with fail
                  exact ⟨⟨k + 1, by omega, by go_num, HBS, HTT⟩, by simp [intOf]; omega⟩
                · have HFF := hide (HT2.out (by simp [inR]; omega))
                  clear HT1 HT2
                  go_wp2_with fail
                  go_ret
                  exact ⟨ret_bool HFF.out.symm, Below.step HB2.out HBS.out⟩
            · have HJ2 : Hid (regsTo (gn + rs.length + ls.length) rs rs.length = true) := hide (by
                have e : k = rs.length := by omega
                have := hno.out
                rwa [e] at this)
              obtain ⟨a0, a1, a2, a3⟩ := HW.out _ hb.out
              clear hno
              go_wp2_with fail
              clear a0 a1 a2 a3
              go_loop [116] (fun i => ∃ k : Nat, k ≤ os.length ∧ i = .int .i64 k ∧ Hid (outsTo (gn + rs.length + ls.length) os k = true)) (fun i => os.length - (intOf i).toNat)
              case atStart => exact ⟨0, Nat.zero_le _, rfl, hide rfl⟩
              case round =>
                obtain ⟨k, hk, rfl, hno⟩ := hrel
                by_cases hlt : k < os.length
                · have hki : (k : Int) < (os.length : Int) := by omega
                  obtain ⟨b, off, ha, _, hbl, n0⟩ := (HO.out.below (Below.step HB2.out hb.out)).ints hlt
                  have HA := hide ha
                  rw [HA.out]
                  have HT1 : Hid (outsTo (gn + rs.length + ls.length) os (k + 1) = inR (outAt os k) (gn + rs.length + ls.length : Nat)) := hide (by simp only [outsTo, hno.out]; rfl)
                  have HT2 : Hid (inR (outAt os k) (gn + rs.length + ls.length : Nat) = false → bodyT (gn + rs.length) rs ls os = false) := hide fun hf => by
                    cases hq : outsTo (gn + rs.length + ls.length) os os.length with
                    | false => simp [bodyT, hq]
                    | true => rw [outsTo_at hq k hlt] at hf; cases hf
                  generalize outAt os k = nx at *
                  clear ha hbl
                  by_cases hs0 : nx < 0
                  · have HFF := hide (HT2.out (by simp [inR]; omega))
                    clear HT1 HT2
                    go_wp2_with fail
                    go_ret
                    exact ⟨ret_bool HFF.out.symm, Below.step HB2.out hb.out⟩
                  · by_cases hs1 : nx < (gn : Int) + rs.length + ls.length
                    · have HTT : Hid (outsTo (gn + rs.length + ls.length) os (k + 1) = true) := hide (by rw [HT1.out]; simp [inR]; omega)
                      clear HT1 HT2
                      go_wp2_with fail
                      exact ⟨⟨k + 1, by omega, by go_num, HTT⟩, by simp [intOf]; omega⟩
                    · have HFF := hide (HT2.out (by simp [inR]; omega))
                      clear HT1 HT2
                      go_wp2_with fail
                      go_ret
                      exact ⟨ret_bool HFF.out.symm, Below.step HB2.out hb.out⟩
                · have HJ3 : Hid (bodyT (gn + rs.length) rs ls os = true) := hide (by
                    have e : k = os.length := by omega
                    have := hno.out
                    rw [e] at this
                    simp only [bodyT, HJ.out, HJ2.out, this]; rfl)
                  go_wp2_with fail
                  go_ret
                  exact ⟨ret_bool HJ3.out.symm, Below.step HB2.out hb.out⟩

theorem rright_at {S : Nat → Prop} (given : Int) (rs : List Rg) (ls : List Lt) (os : List Int) (rc lc oc : Nat) (ra la oa : Option Addr) (A : Nat → Option Addr) (C : Nat → Nat) (w : World) (hr : Lies S w ra (rgsC rs)) (hl : LutsAt S w la A C ls) (ho : Lies S w oa (intsC os)) (hrn : rs.length ≤ 20000) (hln : ls.length ≤ 20000) (hon : os.length ≤ 20000) (hi10 : ∀ i, i < ls.length → (ltAt ls i).ins.length ≤ 10) :
    Calls Tryz.prog 58 #[.agg #[.int .i64 given, .slice ra rs.length rc, .slice la ls.length lc, .slice oa os.length oc]] w fun e w' => e = .returned (.bool (rightT given rs ls os)) ∧ Below w.heap.size w w' := by
  by_cases hg : 0 ≤ given ∧ given ≤ 20000
  · obtain ⟨gn, rfl⟩ := Int.eq_ofNat_of_zero_le hg.1
    have := rright_on gn rs ls os rc lc oc ra la oa A C w hr hl ho hg.2 (by omega) (by omega) (by omega) hi10
    have e : rightT gn rs ls os = bodyT (gn + rs.length) rs ls os := by
      have h1 := hg.2
      simp [rightT, sizesT, hrn, hln, hon]
      intro; omega
    rw [e]; exact this
  · have := rright_off given rs.length ls.length os.length rc lc oc ra la oa w (by omega)
    have e : rightT given rs ls os = false := by
      cases hq : rightT given rs ls os with
      | false => rfl
      | true =>
        obtain ⟨n, rfl⟩ := rightT_nat hq
        have := rightT_iff.1 hq
        exact absurd ⟨Int.natCast_nonneg _, by have := this.g1; omega⟩ hg
    rw [e]; exact this
end Go.Proofs.YtndpehjbepfbkaaGreatDoor
