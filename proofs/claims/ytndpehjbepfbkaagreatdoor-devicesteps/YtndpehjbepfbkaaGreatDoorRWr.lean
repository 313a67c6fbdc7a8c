/-
  CONTRACT of the reference's Write.
-/
import Derived.Test.YtndpehjbepfbkaaGreatDoorRNu
import Derived.Test.YtndpehjbepfbkaaGreatDoorIXs
import Derived.Test.YtndpehjbepfbkaaGreatDoorIWr
import Derived.Test.YtndpehjbepfbkaaGreatDoorLRf
import Derived.Sort.Grow
import Derived.Lib.QuietBelow
set_option linter.unusedSimpArgs false
set_option linter.unusedVariables false
namespace Go.Proofs.YtndpehjbepfbkaaGreatDoor
open Go.RowKit

set_option maxRecDepth 100000 in
set_option maxHeartbeats 6400000 in
theorem rWrite_no {S : Nat → Prop} (given : Int) (rs : List Rg) (ls : List Lt) (os : List Int) (rc lc oc : Nat) (ra la oa : Option Addr) (A : Nat → Option Addr) (C : Nat → Nat) (w : World) (hr : Lies S w ra (rgsC rs)) (hl : LutsAt S w la A C ls) (ho : Lies S w oa (intsC os)) (h1 : rs.length ≤ 20000) (h2 : ls.length ≤ 20000) (h3 : os.length ≤ 20000) (h4 : ∀ i, i < ls.length → (ltAt ls i).ins.length ≤ 10) (hrt : rightT given rs ls os = false) :
    Calls Tryz.prog 37 #[.agg #[.int .i64 given, .slice ra rs.length rc, .slice la ls.length lc, .slice oa os.length oc]] w fun e w' => e = .returned (.tuple #[.string ⟨#[]⟩, .int .i64 1]) ∧ Below w.heap.size w w' := by
  have HB1 := hide (below_alloc w (.cells #[.int .i64 given, .slice ra rs.length rc, .slice la ls.length lc, .slice oa os.length oc] 44))
  have HC := rright_at given rs ls os rc lc oc ra la oa A C _ (hr.below HB1.out) (hl.below HB1.out) (ho.below HB1.out) h1 h2 h3 h4
  rw [hrt] at HC
  have HC := hide HC
  clear hr hl ho h4
  go_enter Tryz.func37, Tryz.ntmps37
  go_wp2_with fail
  refine HC.out.mono ?_
  rintro e w2 ⟨rfl, hb⟩
  have HB2 := hide (Below.step HB1.out hb)
  clear hb HC
  go_wp2_with fail
  go_ret2
  exact ⟨rfl, HB2.out⟩

theorem codes_snoc (A : List Int) (k : Int) : bs (codes A) ++ bs (codeP k) = bs (codes (A ++ [k])) := by
  rw [bs_app, codes_app]; simp [codes]

set_option maxRecDepth 100000 in
set_option maxHeartbeats 12800000 in
theorem rWrite_at {S : Nat → Prop} (gn : Nat) (rs : List Rg) (ls : List Lt) (os : List Int) (rc lc oc : Nat) (ra la oa : Option Addr) (A : Nat → Option Addr) (C : Nat → Nat) (w : World) (hr : Lies S w ra (rgsC rs)) (hl : LutsAt S w la A C ls) (ho : Lies S w oa (intsC os)) (hrt : RightT gn rs ls os) :
    Calls Tryz.prog 37 #[.agg #[.int .i64 gn, .slice ra rs.length rc, .slice la ls.length lc, .slice oa os.length oc]] w fun e w' => e = .returned (.tuple #[.string (wroteS gn rs ls os), .int .i64 0]) ∧ Below w.heap.size w w' := by
  have h1 := hrt.r1
  have h2 := hrt.l1
  have h3 := hrt.o1
  have h5 := hrt.g1
  have HRT := hide hrt
  have HB1 := hide (below_alloc w (.cells #[.int .i64 gn, .slice ra rs.length rc, .slice la ls.length lc, .slice oa os.length oc] 44))
  have HN1 := hide (blk_new w (.cells #[.int .i64 gn, .slice ra rs.length rc, .slice la ls.length lc, .slice oa os.length oc] 44))
  have HC := rright_at gn rs ls os rc lc oc ra la oa A C _ (hr.below HB1.out) (hl.below HB1.out) (ho.below HB1.out) h1 h2 h3 (fun i hi => by have := (rightL_iff.1 (hrt.luts i hi)).n4; omega)
  rw [rightT_iff.2 hrt] at HC
  have HC := hide HC
  have HR := hide hr
  have HL := hide hl
  have HO := hide ho
  clear hr hl ho hrt
  go_enter Tryz.func37, Tryz.ntmps37
  go_wp2_with fail
  generalize w.alloc (.cells #[.int .i64 gn, .slice ra rs.length rc, .slice la ls.length lc, .slice oa os.length oc] 44) = w1 at *
  refine HC.out.mono ?_
  rintro e w2 ⟨rfl, hb⟩
  have HB2 := hide (Below.step HB1.out hb)
  have HNX : Hid (∀ W, Below w2.heap.size w2 W → W.cell? ⟨w.heap.size, 0, none⟩ = some (.int .i64 gn) ∧ W.cell? ⟨w.heap.size, 1, none⟩ = some (.slice ra rs.length rc) ∧ W.cell? ⟨w.heap.size, 2, none⟩ = some (.slice la ls.length lc) ∧ W.cell? ⟨w.heap.size, 3, none⟩ = some (.slice oa os.length oc)) := hide fun W hk => by
    have h := Below.blk hk (Below.blk hb HN1.out)
    exact ⟨by rw [blk_cell h]; rfl, by rw [blk_cell h]; rfl, by rw [blk_cell h]; rfl, by rw [blk_cell h]; rfl⟩
  clear hb HC HB1 HN1
  have HNU : Hid (∀ (W : World) (n : Int), 0 ≤ n → n < 268435456 → ∀ d o, Calls Tryz.prog 59 #[.int .i64 n] (Sort.grow (redrawn W d) o) fun e w'' => e = .returned (.string (bs (codeP n))) ∧ ∃ z : Regrown, w'' = Sort.grow (redrawn W z.d) z.os) := hide fun W n h0 hn d o => Calls.regrown_of (rnumber_at n _ h0 hn)
  have HSZ : Hid (∀ n : Int, (bs (codeP n)).size ≤ 4) := hide fun n => by rw [bs_size]; exact codeP_len2 n
  have q0 := cell_regrown (HNX.out w2 (Below.refl _ _)).1
  have q1 := cell_regrown (HNX.out w2 (Below.refl _ _)).2.1
  have HCA := hide (HNU.out w2 (gn : Int) (by omega) (by omega))
  have HCB := hide (HNU.out w2 (rs.length : Int) (by omega) (by omega))
  have hz1 := HSZ.out (gn : Int)
  have hz2 := HSZ.out (rs.length : Int)
  have HS0 : Hid (bs (codeP (gn : Int)) ++ bs (codeP (rs.length : Int)) = bs (codes ((gn : Int) :: (rs.length : Int) :: regsN (rs.take 0)))) := hide (by rw [bs_app]; simp [codes, regsN])
  generalize bs (codeP (gn : Int)) = S1 at *
  generalize bs (codeP (rs.length : Int)) = S2 at *
  have hadd : ∀ W, (Op.stringOp .add S1 S2).run Tryz.prog W = .ok (.string (S1 ++ S2)) W := fun W => run_string_add_sum W S1 S2 (by omega)
  go_wp2_with fail
  refine wp_region_quiet_below (by kernel_rfl) (by kernel_rfl) ?_
  repeat (quiet_step (first | (with_reducible exact HCA.out _ _) | (with_reducible exact HCB.out _ _)))
  refine wpQuiet_nil ?_
  intro _ hw'
  obtain ⟨⟨dq, osq⟩, hw''⟩ := hw'
  subst hw''
  have HB3 := hide (below_regrown w2 dq osq)
  clear q0 q1 HCA HCB
  generalize Sort.grow (redrawn w2 dq) osq = w3 at *
  have hS12 : (S1 ++ S2).size ≤ 8 := by rw [ByteArray.size_append]; omega
  generalize S1 ++ S2 = S12 at *
  clear hz1 hz2 hadd
  have n1 := (HNX.out _ HB3.out).2.1
  go_wp2_with fail
  clear n1
  go_loopw [4, 28] (fun v i wr => ∃ (q : Nat) (T : ByteArray), q ≤ rs.length ∧ i = .int .i64 q ∧ v = .string T ∧ T.size ≤ 8 + 8 * q ∧ Hid (Below w2.heap.size w2 wr) ∧ Hid (T = bs (codes ((gn : Int) :: (rs.length : Int) :: regsN (rs.take q))))) (fun _ i _ => rs.length - (intOf i).toNat)
  case atStart => exact ⟨0, S12, Nat.zero_le _, rfl, rfl, by omega, HB3, HS0⟩
  case round =>
    clear HS0 hS12
    obtain ⟨q, T, hq, rfl, rfl, hT, hb, hTe⟩ := hrel
    by_cases hlt : q < rs.length
    · have hqi : (q : Int) < (rs.length : Int) := by omega
      obtain ⟨b, off, hra, _, hbl, m0, m1⟩ := ((HR.out.below HB2.out).below hb.out).pair hlt
      simp only [rgF, rgG] at m0 m1
      have hrx := HRT.out.reg (r := rgAt rs q) (by rw [← rgAt_mem rs q hlt]; exact List.getElem_mem _)
      have HRN := hide (regsN_snoc rs q hlt)
      generalize rgAt rs q = rg at *
      obtain ⟨ri, rx⟩ := rg
      simp only at m0 m1 hrx
      have HA := hide hra
      rw [HA.out]
      have HB5 := hide (Below.step hb.out (below_alloc wr (.cells #[.bool ri, .int .i64 rx] 51)))
      have HN5 := hide (blk_new wr (.cells #[.bool ri, .int .i64 rx] 51))
      have HCX := hide (HNU.out (wr.alloc (.cells #[.bool ri, .int .i64 rx] 51)) rx hrx.1 (by omega))
      have x1 := cell_regrown (two_cells HN5.out).2
      have HE : Hid (T ++ (bs (codeP (if ri then 1 else 0)) ++ bs (codeP rx)) = bs (codes ((gn : Int) :: (rs.length : Int) :: regsN (rs.take (q + 1))))) := hide (by
        rw [hTe.out, HRN.out, ← ByteArray.append_assoc, codes_snoc, codes_snoc]
        simp [regN, List.append_assoc])
      have hzx := HSZ.out rx
      have HCI := hide (HNU.out (wr.alloc (.cells #[.bool ri, .int .i64 rx] 51)) (if ri then 1 else 0) (by split <;> decide) (by split <;> decide))
      have hzi := HSZ.out (if ri then 1 else 0)
      clear hra hbl hTe HRN
      generalize hSi : bs (codeP (if ri then 1 else 0)) = Si at *
      generalize hSx : bs (codeP rx) = Sx at *
      clear hSi hSx
      have hadd1 : ∀ W, (Op.stringOp .add Si Sx).run Tryz.prog W = .ok (.string (Si ++ Sx)) W := fun W => run_string_add_sum W Si Sx (by omega)
      have hszS : (Si ++ Sx).size ≤ 8 := by rw [ByteArray.size_append]; omega
      have hadd2 : ∀ W, (Op.stringOp .add T (Si ++ Sx)).run Tryz.prog W = .ok (.string (T ++ (Si ++ Sx))) W := fun W => run_string_add_sum W T (Si ++ Sx) (by omega)
      have hszT : (T ++ (Si ++ Sx)).size ≤ 8 + 8 * (q + 1) := by rw [ByteArray.size_append]; omega
      generalize hUU : Si ++ Sx = U at *
      generalize hVV : T ++ U = V at *
      clear hUU hVV hzi hzx hszS
      cases ri
      all_goals
        simp only [Bool.false_eq_true, if_false, if_true] at HCI
        go_wp2_with fail
        refine wp_region_quiet_below (by kernel_rfl) (by kernel_rfl) ?_
        repeat (quiet_step (first | (with_reducible exact HCI.out _ _) | (with_reducible exact HCX.out _ _)))
        refine wpQuiet_nil ?_
        intro _ hw'
        obtain ⟨⟨dq, osq⟩, hw''⟩ := hw'
        subst hw''
        have HB6 := hide (Below.step HB5.out (below_regrown _ dq osq))
        clear x1 HCI HCX m0 m1 hadd1 hadd2
        go_wp2_with fail
        exact ⟨⟨q + 1, V, by omega, by go_num, rfl, hszT, HB6, HE⟩, by simp [intOf]; omega⟩
    · have HJ : Hid (T = bs (codes ((gn : Int) :: (rs.length : Int) :: regsN rs))) := hide (by
        have e : q = rs.length := by omega
        have := hTe.out
        rwa [e, List.take_length] at this)
      have n2 := (HNX.out _ hb.out).2.2.1
      have hzl := HSZ.out (ls.length : Int)
      have HNL := hide (rnumber_at (ls.length : Int) wr (by omega) (by omega))
      have HE : Hid (T ++ bs (codeP (ls.length : Int)) = bs (codes (((gn : Int) :: (rs.length : Int) :: regsN rs) ++ [(ls.length : Int)] ++ lutsN (ls.take 0)))) := hide (by rw [HJ.out, codes_snoc]; simp [lutsN])
      generalize hSl : bs (codeP (ls.length : Int)) = Sl at *
      clear hSl hTe HJ
      go_wp2_with fail
      refine HNL.out.mono ?_
      rintro e w4 ⟨rfl, hb4⟩
      have HB4 := hide (Below.step hb.out hb4)
      have n3 := (HNX.out _ HB4.out).2.2.1
      have hTS : T.size ≤ 160008 := by omega
      have hadd1 : ∀ W, (Op.stringOp .add T Sl).run Tryz.prog W = .ok (.string (T ++ Sl)) W := fun W => run_string_add_sum W T Sl (by omega)
      have hszT : (T ++ Sl).size ≤ 160012 + 24 * 0 := by rw [ByteArray.size_append]; omega
      generalize hUU : T ++ Sl = U at *
      clear hUU hb4 HNL n2
      go_wp2_with fail
      clear n3 hadd1 hzl hT hTS hq hlt
      go_loopw [4, 52] (fun v i wr => ∃ (q : Nat) (T : ByteArray), q ≤ ls.length ∧ i = .int .i64 q ∧ v = .string T ∧ T.size ≤ 160012 + 24 * q ∧ Hid (Below w2.heap.size w2 wr) ∧ Hid (T = bs (codes (((gn : Int) :: (rs.length : Int) :: regsN rs) ++ [(ls.length : Int)] ++ lutsN (ls.take q))))) (fun _ i _ => ls.length - (intOf i).toNat)
      case atStart => exact ⟨0, U, Nat.zero_le _, rfl, rfl, hszT, HB4, HE⟩
      case round =>
        clear HE hszT hb
        obtain ⟨q, T, hq, rfl, rfl, hT, hb, hTe⟩ := hrel
        by_cases hlt : q < ls.length
        · have hqi : (q : Int) < (ls.length : Int) := by omega
          obtain ⟨b, off, hla, _, hbl, m0, m1⟩ := ((HL.out.below HB2.out).below hb.out).row.pair hlt
          have HIN := hide (((HL.out.below HB2.out).below hb.out).ins q hlt)
          simp only [lutF, lutG] at m0 m1
          have hlx := HRT.out.lut (l := ltAt ls q) (by rw [← ltAt_mem ls q hlt]; exact List.getElem_mem _)
          have HRN := hide (lutsN_snoc ls q hlt)
          generalize ltAt ls q = lt at *
          obtain ⟨ins, tb⟩ := lt
          simp only at m0 m1 hlx HIN
          have HIX := hide hlx.2.2.2
          have hi4 := hlx.1
          have ht0 := hlx.2.1
          have ht1 := hlx.2.2.1
          have HA := hide hla
          rw [HA.out]
          have HB5 := hide (Below.step hb.out (below_alloc wr (.cells #[.slice (A q) ins.length (C q), .int .i64 tb] 93)))
          have HN5 : Hid (∀ W, Below (wr.alloc (.cells #[.slice (A q) ins.length (C q), .int .i64 tb] 93)).heap.size (wr.alloc (.cells #[.slice (A q) ins.length (C q), .int .i64 tb] 93)) W → (W.cell? ⟨wr.heap.size, 0, none⟩ = some (.slice (A q) ins.length (C q)) ∧ W.cell? ⟨wr.heap.size, 1, none⟩ = some (.int .i64 tb)) ∧ Lies S W (A q) (intsC ins)) := hide fun W hk => ⟨two_cells (Below.blk hk (blk_new wr (.cells #[.slice (A q) ins.length (C q), .int .i64 tb] 93))), (HIN.out.below (below_alloc wr _)).below hk⟩
          have HNL := hide (rnumber_at (ins.length : Int) (wr.alloc (.cells #[.slice (A q) ins.length (C q), .int .i64 tb] 93)) (by omega) (by omega))
          have hzl := HSZ.out (ins.length : Int)
          have HE : Hid (T ++ bs (codeP (ins.length : Int)) = bs (codes (((gn : Int) :: (rs.length : Int) :: regsN rs) ++ [(ls.length : Int)] ++ lutsN (ls.take q) ++ [(ins.length : Int)] ++ ins.take 0))) := hide (by rw [hTe.out, codes_snoc]; simp)
          have HRQ : Hid (((gn : Int) :: (rs.length : Int) :: regsN rs) ++ [(ls.length : Int)] ++ lutsN (ls.take (q + 1)) = (((gn : Int) :: (rs.length : Int) :: regsN rs) ++ [(ls.length : Int)] ++ lutsN (ls.take q) ++ [(ins.length : Int)] ++ ins) ++ [tb]) := hide (by rw [HRN.out]; simp [lutN, List.append_assoc])
          generalize hPRE : (((gn : Int) :: (rs.length : Int) :: regsN rs) ++ [(ls.length : Int)] ++ lutsN (ls.take q) ++ [(ins.length : Int)]) = PRE at *
          generalize hSl : bs (codeP (ins.length : Int)) = Sl at *
          have hx := (HN5.out _ (Below.refl _ _)).1
          obtain ⟨x0, -⟩ := hx
          have hBX := hide (below_alloc wr (.cells #[.slice (A q) ins.length (C q), .int .i64 tb] 93))
          clear hPRE hSl hTe hla hbl hlx HRN HIN hBX
          go_wp2_with fail
          generalize wr.alloc (.cells #[.slice (A q) ins.length (C q), .int .i64 tb] 93) = w5 at *
          generalize wr.heap.size = X at *
          refine HNL.out.mono ?_
          rintro e w6 ⟨rfl, hb6⟩
          have HB6 := hide (Below.step HB5.out hb6)
          have HB56 := hide hb6
          have y0 := (HN5.out _ hb6).1.1
          have hadd1 : ∀ W, (Op.stringOp .add T Sl).run Tryz.prog W = .ok (.string (T ++ Sl)) W := fun W => run_string_add_sum W T Sl (by omega)
          have hszT : (T ++ Sl).size ≤ 160016 + 24 * q + 4 * 0 := by rw [ByteArray.size_append]; omega
          generalize hUU : T ++ Sl = U at *
          clear hUU hb6 HNL x0 m0 m1
          go_wp2_with fail
          clear y0 hadd1 hzl hT
          go_loopw [4, 65] (fun v i wr => ∃ (j : Nat) (T : ByteArray), j ≤ ins.length ∧ i = .int .i64 j ∧ v = .string T ∧ T.size ≤ 160016 + 24 * q + 4 * j ∧ Hid (Below w5.heap.size w5 wr) ∧ Hid (T = bs (codes (PRE ++ ins.take j)))) (fun _ i _ => ins.length - (intOf i).toNat)
          case atStart => exact ⟨0, U, Nat.zero_le _, rfl, rfl, hszT, HB56, HE⟩
          case round =>
            clear HE hszT hb
            obtain ⟨j, T, hj, rfl, rfl, hT, hb, hTe⟩ := hrel
            by_cases hlj : j < ins.length
            · have hji : (j : Int) < (ins.length : Int) := by omega
              obtain ⟨b2, off2, hia, _, hbl2, v0⟩ := (HN5.out _ hb.out).2.ints hlj
              have hk := HIX.out ins[j] (List.getElem_mem hlj)
              have HE : Hid (T ++ bs (codeP (outAt ins j)) = bs (codes (PRE ++ ins.take (j + 1)))) := hide (by
                rw [hTe.out, codes_snoc, List.append_assoc, ← outAt_mem ins j hlj, take_one hlj])
              rw [outAt_mem ins j hlj] at hk
              generalize outAt ins j = kv at *
              have HA2 := hide hia
              rw [HA2.out]
              have HNK := hide (rnumber_at kv wr hk.1 (by omega))
              have hzk := HSZ.out kv
              generalize hSk : bs (codeP kv) = Sk at *
              clear hSk hTe hia hbl2 hk
              go_wp2_with fail
              refine HNK.out.mono ?_
              rintro e w7 ⟨rfl, hb7⟩
              have HB7 := hide (Below.step hb.out hb7)
              have hadd1 : ∀ W, (Op.stringOp .add T Sk).run Tryz.prog W = .ok (.string (T ++ Sk)) W := fun W => run_string_add_sum W T Sk (by omega)
              have hszT : (T ++ Sk).size ≤ 160016 + 24 * q + 4 * (j + 1) := by rw [ByteArray.size_append]; omega
              generalize hUU : T ++ Sk = U2 at *
              clear hUU hb7 HNK v0
              go_wp2_with fail
              exact ⟨⟨j + 1, U2, by omega, by go_num, rfl, hszT, HB7, HE⟩, by simp [intOf]; omega⟩
            · have HJ : Hid (T = bs (codes (PRE ++ ins))) := hide (by
                have e : j = ins.length := by omega
                have := hTe.out
                rwa [e, List.take_length] at this)
              have y1 := (HN5.out _ hb.out).1.2
              have HNT := hide (rnumber_at tb wr ht0 (by omega))
              have hzt := HSZ.out tb
              have HE : Hid (T ++ bs (codeP tb) = bs (codes (((gn : Int) :: (rs.length : Int) :: regsN rs) ++ [(ls.length : Int)] ++ lutsN (ls.take (q + 1))))) := hide (by rw [HJ.out, codes_snoc, HRQ.out])
              generalize hSt : bs (codeP tb) = St at *
              clear hSt hTe HJ HRQ
              go_wp2_with fail
              refine HNT.out.mono ?_
              rintro e w7 ⟨rfl, hb7⟩
              have HB7 : Hid (Below w2.heap.size w2 w7) := hide (Below.step (Below.step HB5.out hb.out) hb7)
              have hadd1 : ∀ W, (Op.stringOp .add T St).run Tryz.prog W = .ok (.string (T ++ St)) W := fun W => run_string_add_sum W T St (by omega)
              have hszT : (T ++ St).size ≤ 160012 + 24 * (q + 1) := by rw [ByteArray.size_append]; omega
              generalize hUU : T ++ St = U2 at *
              clear hUU hb7 HNT y1 hlj hj hT
              go_wp2_with fail
              exact ⟨⟨q + 1, U2, by omega, by go_num, rfl, hszT, HB7, HE⟩, by simp [intOf]; omega⟩
        · have HJ : Hid (T = bs (codes (((gn : Int) :: (rs.length : Int) :: regsN rs) ++ [(ls.length : Int)] ++ lutsN ls))) := hide (by
            have e : q = ls.length := by omega
            have := hTe.out
            rwa [e, List.take_length] at this)
          have n2 := (HNX.out _ hb.out).2.2.2
          have hzl := HSZ.out (os.length : Int)
          have HNL := hide (rnumber_at (os.length : Int) wr (by omega) (by omega))
          have HE : Hid (T ++ bs (codeP (os.length : Int)) = bs (codes (((gn : Int) :: (rs.length : Int) :: regsN rs) ++ [(ls.length : Int)] ++ lutsN ls ++ [(os.length : Int)] ++ os.take 0))) := hide (by rw [HJ.out, codes_snoc]; simp)
          have HWS : Hid (wroteS gn rs ls os = bs (codes (((gn : Int) :: (rs.length : Int) :: regsN rs) ++ [(ls.length : Int)] ++ lutsN ls ++ [(os.length : Int)] ++ os))) := hide (by
            unfold wroteS netB bs netN
            simp [List.append_assoc])
          have hTS : T.size ≤ 640012 := by omega
          generalize hPRE : (((gn : Int) :: (rs.length : Int) :: regsN rs) ++ [(ls.length : Int)] ++ lutsN ls ++ [(os.length : Int)]) = PRE at *
          generalize hSl : bs (codeP (os.length : Int)) = Sl at *
          clear hPRE hSl hTe HJ
          go_wp2_with fail
          refine HNL.out.mono ?_
          rintro e w6 ⟨rfl, hb6⟩
          have HB6 := hide (Below.step hb.out hb6)
          have n3 := (HNX.out _ HB6.out).2.2.2
          have hadd1 : ∀ W, (Op.stringOp .add T Sl).run Tryz.prog W = .ok (.string (T ++ Sl)) W := fun W => run_string_add_sum W T Sl (by omega)
          have hszT : (T ++ Sl).size ≤ 640016 + 4 * 0 := by rw [ByteArray.size_append]; omega
          generalize hUU : T ++ Sl = U2 at *
          clear hUU hb6 HNL n2
          go_wp2_with fail
          clear n3 hadd1 hzl hT hTS hq hlt
          go_loopw [4, 89] (fun v i wr => ∃ (j : Nat) (T : ByteArray), j ≤ os.length ∧ i = .int .i64 j ∧ v = .string T ∧ T.size ≤ 640016 + 4 * j ∧ Hid (Below w2.heap.size w2 wr) ∧ Hid (T = bs (codes (PRE ++ os.take j)))) (fun _ i _ => os.length - (intOf i).toNat)
          case atStart => exact ⟨0, U2, Nat.zero_le _, rfl, rfl, hszT, HB6, HE⟩
          case round =>
            clear HE hszT hb
            obtain ⟨j, T, hj, rfl, rfl, hT, hb, hTe⟩ := hrel
            by_cases hlj : j < os.length
            · have hji : (j : Int) < (os.length : Int) := by omega
              obtain ⟨b2, off2, hia, _, hbl2, v0⟩ := ((HO.out.below HB2.out).below hb.out).ints hlj
              have hk := HRT.out.out (k := outAt os j) (by rw [← outAt_mem os j hlj]; exact List.getElem_mem _)
              have HE : Hid (T ++ bs (codeP (outAt os j)) = bs (codes (PRE ++ os.take (j + 1)))) := hide (by
                rw [hTe.out, codes_snoc, List.append_assoc, ← outAt_mem os j hlj, take_one hlj])
              generalize outAt os j = kv at *
              have HA2 := hide hia
              rw [HA2.out]
              have HNK := hide (rnumber_at kv wr hk.1 (by omega))
              have hzk := HSZ.out kv
              generalize hSk : bs (codeP kv) = Sk at *
              clear hSk hTe hia hbl2 hk
              go_wp2_with fail
              refine HNK.out.mono ?_
              rintro e w7 ⟨rfl, hb7⟩
              have HB7 := hide (Below.step hb.out hb7)
              have hadd1 : ∀ W, (Op.stringOp .add T Sk).run Tryz.prog W = .ok (.string (T ++ Sk)) W := fun W => run_string_add_sum W T Sk (by omega)
              have hszT : (T ++ Sk).size ≤ 640016 + 4 * (j + 1) := by rw [ByteArray.size_append]; omega
              generalize hUU : T ++ Sk = U3 at *
              clear hUU hb7 HNK v0
              go_wp2_with fail
              exact ⟨⟨j + 1, U3, by omega, by go_num, rfl, hszT, HB7, HE⟩, by simp [intOf]; omega⟩
            · have HJ : Hid (wroteS gn rs ls os = T) := hide (by
                have e : j = os.length := by omega
                have := hTe.out
                rw [e, List.take_length] at this
                rw [HWS.out, this])
              go_wp2_with fail
              go_ret2
              rw [HJ.out]
              exact ⟨rfl, Below.step HB2.out hb.out⟩
end Go.Proofs.YtndpehjbepfbkaaGreatDoor
