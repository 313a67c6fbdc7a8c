/-
  THE LAW LutHolds, its walk, but for the fact that it begins with.
-/
import Derived.Test.YtacgepdmhdcdkaaLNew
import Derived.Test.YtacgepdmhdcdkaaLTbd
import Derived.Test.YtacgepdmhdcdkaaLGrid
set_option linter.unusedSimpArgs false
set_option linter.unusedVariables false
namespace Go.Proofs.Ytacgepdmhdcdkaa
open Go.RowKit

set_option maxRecDepth 100000 in
set_option maxHeartbeats 6400000 in
theorem equal_at {S T : Nat → Prop} (l m : List Bool) (ao bo : Option Addr) (ac bc : Nat) (w : World) (hl : Lies S w ao (bitsC l)) (hm : Lies T w bo (bitsC m)) (hn : (l.length : Int) ≤ 100000) (hmn : (m.length : Int) ≤ 100000) (he : l = m) :
    Calls Try.prog 11 #[.slice ao l.length ac, .slice bo m.length bc] w fun e w' => e = .returned (.bool true) ∧ Below w.heap.size w w' := by
  subst he
  have HL := hide hl
  have HM := hide hm
  clear hl hm
  go_enter Try.func11, Try.ntmps11
  go_wp2_with fail
  go_loopw [5, 13] (fun _ i wr => ∃ k : Nat, k ≤ l.length ∧ i = .int .i64 k ∧ Hid (Below w.heap.size w wr)) (fun _ i _ => l.length - (intOf i).toNat)
  case atStart => exact ⟨0, Nat.zero_le _, rfl, hide (Below.refl _ _)⟩
  case round =>
    obtain ⟨k, hk, rfl, hw⟩ := hrel
    by_cases hlt : k < l.length
    · have hki : (k : Int) < (l.length : Int) := by omega
      obtain ⟨b, off, ha, _, _, q0⟩ := (HL.out.below hw.out).bits hlt
      obtain ⟨b2, off2, ha2, _, _, q2⟩ := (HM.out.below hw.out).bits hlt
      rw [ha, ha2]
      clear ha ha2
      generalize bit l k = bv at *
      go_wp2_with fail
      go_quiet (fail)
      go_wp2_with fail
      exact ⟨⟨k + 1, by omega, by go_num, hide (Below.drewNs hw.out _)⟩, by simp [intOf]; omega⟩
    · go_wp2_with fail
      go_ret
      exact ⟨rfl, hw.out⟩

theorem equal_is {S T : Nat → Prop} (l m : List Bool) (n : Nat) (hln : l.length = n) (ao bo : Option Addr) (ac bc : Nat) (w : World) (hl : Lies S w ao (bitsC l)) (hm : Lies T w bo (bitsC m)) (hn : (n : Int) ≤ 100000) (he : l = m) :
    Calls Try.prog 11 #[.slice ao n ac, .slice bo n bc] w fun e w' => e = .returned (.bool true) ∧ Below w.heap.size w w' := by
  subst he hln
  exact equal_at l l ao bo ac bc w hl hm hn hn rfl
theorem Below.keptOn {B R : Nat} {w0 w w' : World} (h : Below B w0 w) (hk : Kept R w w') (hR : B ≤ R) (hB : B ≤ w.heap.size) : Below B w0 w' :=
  ⟨hk.os.trans h.os, hk.tape.trans h.tape, hk.output.trans h.output, Nat.le_trans h.size hk.size, fun k hl => (hk.block k (Nat.lt_of_lt_of_le hl hB) (by omega)).trans (h.block k hl)⟩
/-- two that go through one net -/
def TwoS (B p q : Nat) (b : Nat) : Prop := B ≤ b ∧ b ≠ p ∧ b ≠ q

set_option maxRecDepth 100000 in
set_option maxHeartbeats 6400000 in
theorem holds_at (HPK : Hid (∀ W : World, Calls Try.prog 5 #[] W fun e w' => e = .returned (.bool true) ∧ Below W.heap.size W w')) (given : Int) (rs : List Rg) (ls : List Lt) (os : List Int) (ra la oa fa xa ta : Option Addr) (rc lc oc fc xc tc : Nat) (A : Nat → Option Addr) (C : Nat → Nat) (FA XA TA : Nat → Option Addr) (FC XC TC : Nat → Nat) (fs xs ts : List (List Bool)) (w : World) (hr : Lies AnyB w ra (rgsC rs)) (hl : LutsAt AnyB w la A C ls) (ho : Lies AnyB w oa (intsC os)) (hf : Grid w fa FA FC fs) (hx : Grid w xa XA XC xs) (ht : Grid w ta TA TC ts) :
    Calls Try.prog 3 #[.agg #[.int .i64 given, .slice ra rs.length rc, .slice la ls.length lc, .slice oa os.length oc], .slice fa fs.length fc, .slice xa xs.length xc, .slice ta ts.length tc] w fun e w' => e = .returned (.bool true) ∧ Below w.heap.size w w' := by
  have HB1 := hide (below_alloc w (.cells #[.int .i64 given, .slice ra rs.length rc, .slice la ls.length lc, .slice oa os.length oc] 26))
  have HNT : Hid (NetT ⟨w.heap.size, ra, rc, la, lc, oa, oc, A, C⟩ AnyB (w.alloc (.cells #[.int .i64 given, .slice ra rs.length rc, .slice la ls.length lc, .slice oa os.length oc] 26)) given rs ls os) := hide ⟨blk_new _ _, hr.below HB1.out, hl.below HB1.out, ho.below HB1.out⟩
  have HTD := hide (tabled_at given ls rs.length os.length rc lc oc ra la oa A C (w.alloc (.cells #[.int .i64 given, .slice ra rs.length rc, .slice la ls.length lc, .slice oa os.length oc] 26)) (hl.row.below HB1.out))
  have HF := hide hf
  have HX := hide hx
  have HT := hide ht
  have hqe : ∀ (v : Value) (w : World), (binOp .eql 32 (.iface 54 v) .nilIface).run Try.prog w = .ok (.bool false) w := fun _ _ => rfl
  have hqn : ∀ (v : Value) (w : World), (binOp .neq 32 (.iface 54 v) .nilIface).run Try.prog w = .ok (.bool true) w := fun _ _ => rfl
  clear hr hl ho hf hx ht
  go_enter Try.func3, Try.ntmps3
  go_wp2_with fail
  generalize w.alloc (.cells #[.int .i64 given, .slice ra rs.length rc, .slice la ls.length lc, .slice oa os.length oc] 26) = w1 at *
  refine HTD.out.mono ?_
  rintro e w2 ⟨⟨bt, rfl, hbt⟩, hb2⟩
  have HB12 := hide hb2
  have HB2 := hide (Below.step HB1.out hb2)
  clear hb2 HTD
  cases bt with
  | false =>
    go_wp2_with fail
    go_ret
    exact ⟨rfl, HB2.out⟩
  | true =>
    obtain ⟨hrn, hln, hon, hgv, hten⟩ := hbt rfl
    clear hbt hten
    by_cases h1 : (15 : Int) < (fs.length : Int)
    · go_wp2_with fail
      go_ret
      exact ⟨rfl, HB2.out⟩
    by_cases h2 : (15 : Int) < (xs.length : Int)
    · go_wp2_with fail
      go_ret
      exact ⟨rfl, HB2.out⟩
    by_cases h3 : (15 : Int) < (ts.length : Int)
    · go_wp2_with fail
      go_ret
      exact ⟨rfl, HB2.out⟩
    go_wp2_with fail
    refine (HPK.out _).mono ?_
    rintro e w3 ⟨rfl, hb3⟩
    have HB13 := hide (Below.step HB12.out hb3)
    have HB3 := hide (Below.step HB2.out hb3)
    have HNT3 := hide (HNT.out.below HB13.out)
    clear hb3 HB2 HB12
    cases hrt : rightT given rs ls os with
    | false =>
      have HCN := hide (lnew_no HNT3.out (by omega) (by omega) (by omega) hrt)
      go_wp2_with fail
      refine HCN.out.mono ?_
      rintro e w4 ⟨rfl, hb4⟩
      have HB4 := hide (Below.step HB3.out hb4)
      have HNT4 := hide (HNT3.out.below hb4)
      have HCN := hide (lnew_no HNT4.out (by omega) (by omega) (by omega) hrt)
      clear hb4
      go_wp2_with fail
      refine HCN.out.mono ?_
      rintro e w5 ⟨rfl, hb5⟩
      have HB5 := hide (Below.step HB4.out hb5)
      have HCR := hide (LRight_at (HNT4.out.below hb5) (by omega) (by omega) (by omega))
      rw [hrt] at HCR
      clear hb5 hrt
      go_wp2_with fail
      refine HCR.out.mono ?_
      rintro e w6 ⟨rfl, hb6⟩
      have HB6 := hide (Below.step HB5.out hb6)
      clear hb6
      go_wp2_with fail
      go_ret
      exact ⟨rfl, HB6.out⟩
    | true =>
      obtain ⟨gn, rfl⟩ := rightT_nat hrt
      have HRT := hide (rightT_iff.1 hrt)
      have HCN := hide (lnew_at HNT3.out HRT.out)
      go_wp2_with fail
      refine HCN.out.mono ?_
      rintro e w4 ⟨⟨sa, rfl, hsa, hpa⟩, hb4⟩
      have HSA := hide hsa
      have HPA := hide hpa
      have HB34 := hide hb4
      have HNT4 := hide (HNT3.out.below hb4)
      have HCN := hide (lnew_at HNT4.out HRT.out)
      clear hb4 hsa hpa
      go_wp2_with fail
      refine HCN.out.mono ?_
      rintro e w5 ⟨⟨sb, rfl, hsb, hpb⟩, hb5⟩
      have HCR := hide (LRight_at (HNT4.out.below hb5) (by omega) (by omega) (by omega))
      rw [hrt] at HCR
      have HAL := hide HSA.out.lt
      have HSB := hide hsb
      have HPB := hide hpb
      have HB45 := hide hb5
      clear hb5 hrt hsb hpb HCN
      go_wp2_with fail
      refine HCR.out.mono ?_
      rintro e w6 ⟨rfl, hb6⟩
      -- both, in the same world
      have HNE : Hid (sb.p ≠ sa.p) := hide (by have := HAL.out; have := HPB.out; omega)
      have HA6 : Hid (SimT sa (TwoS w3.heap.size sa.p sb.p) w6 gn rs ls os (initL rs)) := hide (((HSA.out.imp (T := TwoS w3.heap.size sa.p sb.p) (fun b hlt h => ⟨h.1, h.2, by have := HPB.out; omega⟩) (fun h => h.2.1 rfl)).below HB45.out).below hb6)
      have HB6 : Hid (SimT sb (TwoS w3.heap.size sa.p sb.p) w6 gn rs ls os (initL rs)) := hide ((HSB.out.imp (T := TwoS w3.heap.size sa.p sb.p) (fun b hlt h => ⟨by have := HB34.out.size; omega, by have := HAL.out; omega, h.2⟩) (fun h => h.2.2 rfl)).below hb6)
      have HQ6 := hide (Below.step HB3.out (Below.step HB34.out (Below.step HB45.out hb6)))
      have HAB : Hid (w.heap.size ≤ sa.p) := hide (Nat.le_trans HB3.out.size HPA.out)
      have HBB : Hid (w.heap.size ≤ sb.p) := hide (by have h1 := HB3.out.size; have h2 := HB34.out.size; have h3 := HPB.out; omega)
      have HPL0 : Hid (sa.p < w6.heap.size ∧ sb.p < w6.heap.size ∧ w3.heap.size ≤ w6.heap.size) := hide ⟨HA6.out.lt, HB6.out.lt, by have h2 := HB34.out.size; have h3 := HB45.out.size; have h4 := hb6.size; omega⟩
      clear hb6 HSA HSB HAL HPA HPB HB34 HB45 HCR HB13 HNT HNT3 HNT4 HB3 hqe hqn
      go_wp2_with fail
      go_loopw [13] (fun i wr => ∃ (k : Nat) (held : List Bool), k ≤ fs.length ∧ i = .int .i64 k ∧ Hid (SimT sa (TwoS w3.heap.size sa.p sb.p) wr gn rs ls os held) ∧ Hid (SimT sb (TwoS w3.heap.size sa.p sb.p) wr gn rs ls os (initL rs)) ∧ Hid (Below w.heap.size w wr) ∧ Hid (w6.heap.size ≤ wr.heap.size)) (fun i _ => fs.length - (intOf i).toNat)
      case atStart => exact ⟨0, _, Nat.zero_le _, rfl, HA6, HB6, HQ6, hide (Nat.le_refl _)⟩
      case round =>
        obtain ⟨k, held, hk, rfl, hsa, hsb, hq, hz⟩ := hrel
        by_cases hlt : k < fs.length
        · have hki : (k : Int) < (fs.length : Int) := by omega
          obtain ⟨⟨b, off, hga, c0⟩, hlg⟩ := (HF.out.below hq.out) k hlt
          subst hga
          have HST := hide (lstep_at hsa.out HRT.out (FA k) (FC k) hlg (fun b hb => ⟨by have h1 := HPL0.out; have h2 := hz.out; omega, by have h1 := HPL0.out; have h2 := hz.out; omega, by have h1 := HPL0.out; have h2 := hz.out; omega⟩))
          clear hlg
          go_wp2_with fail
          refine HST.out.mono ?_
          rintro e y1 ⟨⟨O, rfl, hO, hrow⟩, hs1, hk1⟩
          have HA1 := hide hs1
          have HB1 := hide (hsb.out.other hk1 HNE.out (by exact fun h => h.2.1 rfl))
          have HQ1 := hide (Below.keptOn hq.out hk1 HAB.out hq.out.size)
          have HZ1 := hide (Nat.le_trans hz.out hk1.size)
          clear hs1 hk1 hrow hO HST
          go_wp2_with fail
          exact ⟨⟨k + 1, _, by omega, by go_num, HA1, HB1, HQ1, HZ1⟩, by simp [intOf]; omega⟩
        · clear HA6 HB6 HQ6
          go_wp2_with fail
          generalize held = ha at *
          go_loopw [14] (fun i wr => ∃ (k : Nat) (hb : List Bool), k ≤ xs.length ∧ i = .int .i64 k ∧ Hid (SimT sa (TwoS w3.heap.size sa.p sb.p) wr gn rs ls os ha) ∧ Hid (SimT sb (TwoS w3.heap.size sa.p sb.p) wr gn rs ls os hb) ∧ Hid (Below w.heap.size w wr) ∧ Hid (w6.heap.size ≤ wr.heap.size)) (fun i _ => xs.length - (intOf i).toNat)
          case atStart => exact ⟨0, _, Nat.zero_le _, rfl, hsa, hsb, hq, hz⟩
          case round =>
            clear hsa hsb hq hz
            obtain ⟨k, hbb, hk, rfl, hsa, hsb, hq, hz⟩ := hrel
            by_cases hlt : k < xs.length
            · have hki : (k : Int) < (xs.length : Int) := by omega
              obtain ⟨⟨b, off, hga, c0⟩, hlg⟩ := (HX.out.below hq.out) k hlt
              subst hga
              have HST := hide (lstep_at hsb.out HRT.out (XA k) (XC k) hlg (fun b hb => ⟨by have h1 := HPL0.out; have h2 := hz.out; omega, by have h1 := HPL0.out; have h2 := hz.out; omega, by have h1 := HPL0.out; have h2 := hz.out; omega⟩))
              clear hlg
              go_wp2_with fail
              refine HST.out.mono ?_
              rintro e y1 ⟨⟨O, rfl, hO, hrow⟩, hs1, hk1⟩
              have HB1 := hide hs1
              have HA1 := hide (hsa.out.other hk1 HNE.out.symm (by exact fun h => h.2.2 rfl))
              have HQ1 := hide (Below.keptOn hq.out hk1 HBB.out hq.out.size)
              have HZ1 := hide (Nat.le_trans hz.out hk1.size)
              clear hs1 hk1 hrow hO HST
              go_wp2_with fail
              exact ⟨⟨k + 1, _, by omega, by go_num, HA1, HB1, HQ1, HZ1⟩, by simp [intOf]; omega⟩
            · have HRG := hide (lregs_at hsa.out (by omega))
              go_wp2_with fail
              refine HRG.out.mono ?_
              rintro e z1 ⟨⟨ao, ac, rfl, hl1⟩, hb1⟩
              have HSA1 := hide (hsa.out.below hb1)
              have HSB1 := hide (hsb.out.below hb1)
              have HQ1 := hide (Below.step hq.out hb1)
              have HZ1 := hide (Nat.le_trans hz.out hb1.size)
              have HPU := hide (put_at HSB1.out ha ao rs.length ac rfl HSA1.out.len hl1 (by omega) (fun b hb => ⟨by have h1 := HPL0.out; have h2 := HZ1.out; omega, by have h1 := HPL0.out; have h2 := HZ1.out; omega, by have h1 := HPL0.out; have h2 := HZ1.out; omega⟩))
              clear hl1 hb1 HRG hsa hsb hq hz
              go_wp2_with fail
              refine HPU.out.mono ?_
              rintro e z2 ⟨rfl, hs2, hk2⟩
              have HSB2 := hide hs2
              have HSA2 := hide (HSA1.out.other hk2 HNE.out.symm (by exact fun h => h.2.2 rfl))
              have HQ2 := hide (Below.keptOn HQ1.out hk2 HBB.out HQ1.out.size)
              have HZ2 := hide (Nat.le_trans HZ1.out hk2.size)
              clear hs2 hk2 HPU HSA1 HSB1 HQ1 HZ1
              go_wp2_with fail
              have HNEW : Hid (∀ b, w6.heap.size ≤ b → TwoS w3.heap.size sa.p sb.p b) := hide fun b hb => ⟨by have h1 := HPL0.out; omega, by have h1 := HPL0.out; omega, by have h1 := HPL0.out; omega⟩
              go_loopw [15] (fun i wr => ∃ (k : Nat) (held : List Bool), k ≤ ts.length ∧ i = .int .i64 k ∧ Hid (SimT sa (TwoS w3.heap.size sa.p sb.p) wr gn rs ls os held) ∧ Hid (SimT sb (TwoS w3.heap.size sa.p sb.p) wr gn rs ls os held) ∧ Hid (Below w.heap.size w wr) ∧ Hid (w6.heap.size ≤ wr.heap.size)) (fun i _ => ts.length - (intOf i).toNat)
              case atStart => exact ⟨0, ha, Nat.zero_le _, rfl, HSA2, HSB2, HQ2, HZ2⟩
              case round =>
                clear HSA2 HSB2 HQ2 HZ2
                obtain ⟨k, held, hk, rfl, hsa, hsb, hq, hz⟩ := hrel
                by_cases hlt : k < ts.length
                · have hki : (k : Int) < (ts.length : Int) := by omega
                  obtain ⟨⟨b, off, hga, c0⟩, _⟩ := (HT.out.below hq.out) k hlt
                  have HLG := hide ((HT.out k hlt).2)
                  subst hga
                  have HSW : Hid (∀ W, Below w.heap.size w W → W.cell? ⟨b, off + k, none⟩ = some (.slice (TA k) (rowAt ts k).length (TC k))) := hide fun W hW => by
                    obtain ⟨⟨b', o', e1, c1⟩, _⟩ := (HT.out.below hW) k hlt
                    cases e1
                    exact c1
                  go_wp2_with fail
                  clear c0
                  have HQ0 := hide hq.out.drew
                  have HA0 := hide (hsa.out.below (Below.refl wr.heap.size wr).drew)
                  have HB0 := hide (hsb.out.below (Below.refl wr.heap.size wr).drew)
                  have HZ0 : Hid (w6.heap.size ≤ wr.drew.heap.size) := hide hz.out
                  refine wp_region_held_drew (S := fun W => W.cell? ⟨b, off + k, none⟩ = some (.slice (TA k) (rowAt ts k).length (TC k))) (by kernel_rfl) (HSW.out _ HQ0.out) (fun _ => ?_)
                  generalize wr.drew = y0 at *
                  refine wpAnyH_take (i := 0) (oi := ⟨some 93, _, _, _, _, _⟩) (v := (.pointer (some ⟨sa.p, 0, none⟩))) rfl (by kernel_rfl) (by kernel_rfl) (by kernel_rfl) (fun _ _ _ h => h) (Or.inl ⟨by rfl, fun W hS => by (have s0 := hS; go_simp)⟩) (HSW.out _ HQ0.out) ?_
                  simp only [Act.put, List.setIfInBounds_toArray, List.set_cons_zero, List.set_cons_succ]
                  refine wpAnyH_take (i := 1) (oi := ⟨some 94, _, _, _, _, _⟩) (v := (.slice (some ⟨b, off, none⟩) ts.length tc)) rfl (by kernel_rfl) (by kernel_rfl) (by kernel_rfl) (fun _ _ _ h => h) (Or.inl ⟨by rfl, fun W hS => by (have s0 := hS; go_simp)⟩) (HSW.out _ HQ0.out) ?_
                  simp only [Act.put, List.setIfInBounds_toArray, List.set_cons_zero, List.set_cons_succ]
                  refine wpAnyH_take (i := 2) (oi := ⟨some 95, _, _, _, _, _⟩) (v := (.int .i64 k)) rfl (by kernel_rfl) (by kernel_rfl) (by kernel_rfl) (fun _ _ _ h => h) (Or.inl ⟨by rfl, fun W hS => by (have s0 := hS; go_simp)⟩) (HSW.out _ HQ0.out) ?_
                  simp only [Act.put, List.setIfInBounds_toArray, List.set_cons_zero, List.set_cons_succ]
                  refine wpAnyH_take (i := 6) (oi := ⟨some 99, _, _, _, _, _⟩) (v := (.pointer (some ⟨sb.p, 0, none⟩))) rfl (by kernel_rfl) (by kernel_rfl) (by kernel_rfl) (fun _ _ _ h => h) (Or.inl ⟨by rfl, fun W hS => by (have s0 := hS; go_simp)⟩) (HSW.out _ HQ0.out) ?_
                  simp only [Act.put, List.setIfInBounds_toArray, List.set_cons_zero, List.set_cons_succ]
                  refine wpAnyH_take (i := 7) (oi := ⟨some 100, _, _, _, _, _⟩) (v := (.slice (some ⟨b, off, none⟩) ts.length tc)) rfl (by kernel_rfl) (by kernel_rfl) (by kernel_rfl) (fun _ _ _ h => h) (Or.inl ⟨by rfl, fun W hS => by (have s0 := hS; go_simp)⟩) (HSW.out _ HQ0.out) ?_
                  simp only [Act.put, List.setIfInBounds_toArray, List.set_cons_zero, List.set_cons_succ]
                  refine wpAnyH_take (i := 8) (oi := ⟨some 101, _, _, _, _, _⟩) (v := (.int .i64 k)) rfl (by kernel_rfl) (by kernel_rfl) (by kernel_rfl) (fun _ _ _ h => h) (Or.inl ⟨by rfl, fun W hS => by (have s0 := hS; go_simp)⟩) (HSW.out _ HQ0.out) ?_
                  simp only [Act.put, List.setIfInBounds_toArray, List.set_cons_zero, List.set_cons_succ]
                  refine wpAnyH_take (i := 3) (oi := ⟨some 96, _, _, _, _, _⟩) (v := (.pointer (some ⟨b, off + k, none⟩))) rfl (by kernel_rfl) (by kernel_rfl) (by kernel_rfl) (fun _ _ _ h => h) (Or.inl ⟨by rfl, fun W hS => by (have s0 := hS; go_simp)⟩) (HSW.out _ HQ0.out) ?_
                  simp only [Act.put, List.setIfInBounds_toArray, List.set_cons_zero, List.set_cons_succ]
                  refine wpAnyH_take (i := 9) (oi := ⟨some 102, _, _, _, _, _⟩) (v := (.pointer (some ⟨b, off + k, none⟩))) rfl (by kernel_rfl) (by kernel_rfl) (by kernel_rfl) (fun _ _ _ h => h) (Or.inl ⟨by rfl, fun W hS => by (have s0 := hS; go_simp)⟩) (HSW.out _ HQ0.out) ?_
                  simp only [Act.put, List.setIfInBounds_toArray, List.set_cons_zero, List.set_cons_succ]
                  refine wpAnyH_take (i := 4) (oi := ⟨some 97, _, _, _, _, _⟩) (v := (.slice (TA k) (rowAt ts k).length (TC k))) rfl (by kernel_rfl) (by kernel_rfl) (by kernel_rfl) (fun _ _ _ h => h) (Or.inl ⟨by rfl, fun W hS => by (have s0 := hS; go_simp)⟩) (HSW.out _ HQ0.out) ?_
                  simp only [Act.put, List.setIfInBounds_toArray, List.set_cons_zero, List.set_cons_succ]
                  refine wpAnyH_take (i := 10) (oi := ⟨some 103, _, _, _, _, _⟩) (v := (.slice (TA k) (rowAt ts k).length (TC k))) rfl (by kernel_rfl) (by kernel_rfl) (by kernel_rfl) (fun _ _ _ h => h) (Or.inl ⟨by rfl, fun W hS => by (have s0 := hS; go_simp)⟩) (HSW.out _ HQ0.out) ?_
                  simp only [Act.put, List.setIfInBounds_toArray, List.set_cons_zero, List.set_cons_succ]
                  refine wpAnyH_ready (rs := [5]) (by kernel_rfl) (by simp) ?_
                  refine AllReadyH.cons rfl (fun K hK => ?_) AllReadyH.nil
                  go_simp
                  refine (lstep_at HA0.out HRT.out (TA k) (TC k) (HLG.out.below HQ0.out) (fun b hb => HNEW.out b (Nat.le_trans HZ0.out hb))).mono ?_
                  rintro e y1 ⟨⟨O1, rfl, hO1, hr1⟩, hs1, hk1⟩
                  have HA1 := hide hs1
                  have HB1 := hide (HB0.out.other hk1 HNE.out (by exact fun h => h.2.1 rfl))
                  have HQ1 := hide (Below.keptOn HQ0.out hk1 HAB.out HQ0.out.size)
                  have HR1 := hide hr1
                  have HO1 : Hid (w6.heap.size ≤ O1) := hide (Nat.le_trans HZ0.out hO1)
                  have HZ1 := hide (Nat.le_trans HZ0.out hk1.size)
                  clear hs1 hk1 hr1 hO1
                  refine hK.out _ _ (HSW.out _ HQ1.out) (fun _ => ?_)
                  clear hK K
                  refine wpAnyH_ready (rs := [11]) (by kernel_rfl) (by simp) ?_
                  refine AllReadyH.cons rfl (fun K hK => ?_) AllReadyH.nil
                  go_simp
                  refine (lstep_at HB1.out HRT.out (TA k) (TC k) (HLG.out.below HQ1.out) (fun b hb => HNEW.out b (Nat.le_trans HZ1.out hb))).mono ?_
                  rintro e y2 ⟨⟨O2, rfl, hO2, hr2⟩, hs2, hk2⟩
                  have HB2 := hide hs2
                  have HA2 := hide (HA1.out.other hk2 HNE.out.symm (by exact fun h => h.2.2 rfl))
                  have HQ2 := hide (Below.keptOn HQ1.out hk2 HBB.out HQ1.out.size)
                  have HZ2 := hide (Nat.le_trans HZ1.out hk2.size)
                  have HO1l := hide (blk_lt HR1.out)
                  have HR1b := hide ((hk2.block O1 HO1l.out (by have h1 := HO1.out; have h2 := HPL0.out; omega)).trans HR1.out)
                  have HCE := hide (equal_is _ _ os.length (outsL_len _ _) (some ⟨O1, 0, none⟩) (some ⟨O2, 0, none⟩) os.length os.length y2 (Lies.blk (S := AnyB) HR1b.out trivial) (Lies.blk (S := AnyB) hr2 trivial) (by have := HRT.out.o1; omega) rfl)
                  clear hs2 hk2 hr2 hO2
                  refine hK.out _ _ (HSW.out _ HQ2.out) (fun _ => ?_)
                  clear hK K
                  refine wpAnyH_ready (rs := [12]) (by kernel_rfl) (by simp) ?_
                  refine AllReadyH.cons rfl (fun K hK => ?_) AllReadyH.nil
                  go_simp
                  refine HCE.out.mono ?_
                  rintro e y3 ⟨rfl, hb3⟩
                  have HA3 := hide (HA2.out.below hb3)
                  have HB3 := hide (HB2.out.below hb3)
                  have HQ3 := hide (Below.step HQ2.out hb3)
                  have HZ3 := hide (Nat.le_trans HZ2.out hb3.size)
                  clear hb3
                  refine hK.out _ _ (HSW.out _ HQ3.out) (fun _ => ?_)
                  clear hK K
                  refine wpAnyH_take (i := 13) (oi := ⟨some 106, _, _, _, _, _⟩) (v := (.bool false)) rfl (by kernel_rfl) (by kernel_rfl) (by kernel_rfl) (fun _ _ _ h => h) (Or.inl ⟨by rfl, fun W hS => by (have s0 := hS; go_simp)⟩) (HSW.out _ HQ3.out) ?_
                  simp only [Act.put, List.setIfInBounds_toArray, List.set_cons_zero, List.set_cons_succ]
                  refine wpAnyH_take (i := 14) (oi := ⟨some 107, _, _, _, _, _⟩) (v := (.bool false)) rfl (by kernel_rfl) (by kernel_rfl) (by kernel_rfl) (fun _ _ _ h => h) (Or.inl ⟨by rfl, fun W hS => by (have s0 := hS; go_simp)⟩) (HSW.out _ HQ3.out) ?_
                  simp only [Act.put, List.setIfInBounds_toArray, List.set_cons_zero, List.set_cons_succ]
                  refine wpAnyH_take (i := 15) (oi := ⟨some 108, _, _, _, _, _⟩) (v := (.pointer (some ⟨sa.p, 0, none⟩))) rfl (by kernel_rfl) (by kernel_rfl) (by kernel_rfl) (fun _ _ _ h => h) (Or.inl ⟨by rfl, fun W hS => by (have s0 := hS; go_simp)⟩) (HSW.out _ HQ3.out) ?_
                  simp only [Act.put, List.setIfInBounds_toArray, List.set_cons_zero, List.set_cons_succ]
                  refine wpAnyH_take (i := 17) (oi := ⟨some 110, _, _, _, _, _⟩) (v := (.pointer (some ⟨sb.p, 0, none⟩))) rfl (by kernel_rfl) (by kernel_rfl) (by kernel_rfl) (fun _ _ _ h => h) (Or.inl ⟨by rfl, fun W hS => by (have s0 := hS; go_simp)⟩) (HSW.out _ HQ3.out) ?_
                  simp only [Act.put, List.setIfInBounds_toArray, List.set_cons_zero, List.set_cons_succ]
                  refine wpAnyH_ready (rs := [16]) (by kernel_rfl) (by simp) ?_
                  refine AllReadyH.cons rfl (fun K hK => ?_) AllReadyH.nil
                  go_simp
                  refine (lregs_at HA3.out (by have := HRT.out.r1; omega)).mono ?_
                  rintro e y4 ⟨⟨ao, ac, rfl, hl4⟩, hb4⟩
                  have HL4 := hide hl4
                  have HA4 := hide (HA3.out.below hb4)
                  have HB4 := hide (HB3.out.below hb4)
                  have HQ4 := hide (Below.step HQ3.out hb4)
                  have HZ4 := hide (Nat.le_trans HZ3.out hb4.size)
                  clear hb4 hl4
                  refine hK.out _ _ (HSW.out _ HQ4.out) (fun _ => ?_)
                  clear hK K
                  refine wpAnyH_ready (rs := [18]) (by kernel_rfl) (by simp) ?_
                  refine AllReadyH.cons rfl (fun K hK => ?_) AllReadyH.nil
                  go_simp
                  refine (lregs_at HB4.out (by have := HRT.out.r1; omega)).mono ?_
                  rintro e y5 ⟨⟨bo, bc, rfl, hl5⟩, hb5⟩
                  have HL5 := hide hl5
                  have HL45 := hide (HL4.out.below hb5)
                  have HA5 := hide (HA4.out.below hb5)
                  have HB5 := hide (HB4.out.below hb5)
                  have HQ5 := hide (Below.step HQ4.out hb5)
                  have HZ5 := hide (Nat.le_trans HZ4.out hb5.size)
                  have HCF := hide (equal_is _ _ rs.length (nextL_len _ _) ao bo ac bc y5 HL45.out HL5.out (by have := HRT.out.r1; omega) rfl)
                  clear hb5 hl5
                  refine hK.out _ _ (HSW.out _ HQ5.out) (fun _ => ?_)
                  clear hK K
                  refine wpAnyH_ready (rs := [19]) (by kernel_rfl) (by simp) ?_
                  refine AllReadyH.cons rfl (fun K hK => ?_) AllReadyH.nil
                  go_simp
                  refine HCF.out.mono ?_
                  rintro e y6 ⟨rfl, hb6⟩
                  have HA6 := hide (HA5.out.below hb6)
                  have HB6 := hide (HB5.out.below hb6)
                  have HQ6 := hide (Below.step HQ5.out hb6)
                  have HZ6 := hide (Nat.le_trans HZ5.out hb6.size)
                  clear hb6
                  refine hK.out _ _ (HSW.out _ HQ6.out) (fun _ => ?_)
                  clear hK K
                  refine wpAnyH_take (i := 20) (oi := ⟨some 113, _, _, _, _, _⟩) (v := (.bool false)) rfl (by kernel_rfl) (by kernel_rfl) (by kernel_rfl) (fun _ _ _ h => h) (Or.inl ⟨by rfl, fun W hS => by (have s0 := hS; go_simp)⟩) (HSW.out _ HQ6.out) ?_
                  simp only [Act.put, List.setIfInBounds_toArray, List.set_cons_zero, List.set_cons_succ]
                  refine wpAnyH_take (i := 21) (oi := ⟨some 114, _, _, _, _, _⟩) (v := (.bool false)) rfl (by kernel_rfl) (by kernel_rfl) (by kernel_rfl) (fun _ _ _ h => h) (Or.inl ⟨by rfl, fun W hS => by (have s0 := hS; go_simp)⟩) (HSW.out _ HQ6.out) ?_
                  simp only [Act.put, List.setIfInBounds_toArray, List.set_cons_zero, List.set_cons_succ]
                  refine wpAnyH_done (by kernel_rfl) ?_ _
                  clear HQ0 HA0 HB0 HZ0 HSW
                  go_wp2_with fail
                  exact ⟨⟨k + 1, _, by omega, by go_num, HA6, HB6, HQ6, HZ6⟩, by simp [intOf]; omega⟩
                · go_wp2_with fail
                  go_ret
                  exact ⟨rfl, hq.out⟩
end Go.Proofs.Ytacgepdmhdcdkaa
