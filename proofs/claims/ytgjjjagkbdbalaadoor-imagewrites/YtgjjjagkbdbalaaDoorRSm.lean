/-
  CONTRACTS of the law's sameInts, sameTables: nets that are the same.
-/
import Derived.Test.YtgjjjagkbdbalaaDoorLMem
import Derived.Test.YtgjjjagkbdbalaaDoorLSet4
import Derived.Sort.Grow
import Derived.Lib.QuietBelow
set_option linter.unusedSimpArgs false
set_option linter.unusedVariables false
namespace Go.Proofs.YtgjjjagkbdbalaaDoor
open Go.RowKit

set_option maxRecDepth 100000 in
set_option maxHeartbeats 6400000 in
theorem sameI_at {S T : Nat → Prop} (l : List Int) (ao bo : Option Addr) (ac bc : Nat) (w : World) (hl : Lies S w ao (intsC l)) (hm : Lies T w bo (intsC l)) (hn : (l.length : Int) ≤ 100000) :
    Calls Tryd.prog 20 #[.slice ao l.length ac, .slice bo l.length bc] w fun e w' => e = .returned (.bool true) ∧ Below w.heap.size w w' := by
  have HL := hide hl
  have HM := hide hm
  clear hl hm
  go_enter Tryd.func20, Tryd.ntmps20
  go_wp2_with fail
  go_loopw [5] (fun i wr => ∃ k : Nat, k ≤ l.length ∧ i = .int .i64 k ∧ Hid (Below w.heap.size w wr)) (fun i _ => l.length - (intOf i).toNat)
  case atStart => exact ⟨0, Nat.zero_le _, rfl, hide (Below.refl _ _)⟩
  case round =>
    obtain ⟨k, hk, rfl, hw⟩ := hrel
    by_cases hlt : k < l.length
    · have hki : (k : Int) < (l.length : Int) := by omega
      obtain ⟨b, off, ha, _, _, q0⟩ := (HL.out.below hw.out).ints hlt
      obtain ⟨b2, off2, ha2, _, _, q2⟩ := (HM.out.below hw.out).ints hlt
      rw [ha, ha2]
      clear ha ha2
      generalize outAt l k = bv at *
      go_wp2_with fail
      go_quiet (fail)
      go_wp2_with fail
      exact ⟨⟨k + 1, by omega, by go_num, hide (Below.drewNs hw.out _)⟩, by simp [intOf]; omega⟩
    · go_wp2_with fail
      go_ret
      exact ⟨rfl, hw.out⟩

set_option maxRecDepth 100000 in
set_option maxHeartbeats 12800000 in
theorem sameT_at {S T : Nat → Prop} {p : NetQ} {w : World} {gn : Nat} {rs : List Rg} {ls : List Lt} {os : List Int} (h : NetT p S w gn rs ls os) (ra la oa : Option Addr) (rc lc oc : Nat) (A : Nat → Option Addr) (C : Nat → Nat) (hr : Lies T w ra (rgsC rs)) (hl : LutsAt T w la A C ls) (ho : Lies T w oa (intsC os)) (h1 : rs.length ≤ 20000) (h2 : ls.length ≤ 20000) (h3 : os.length ≤ 20000) (hi : ∀ l ∈ ls, l.ins.length ≤ 4) :
    Calls Tryd.prog 10 #[.pointer (some ⟨p.p, 0, none⟩), .agg #[.int .i64 gn, .slice ra rs.length rc, .slice la ls.length lc, .slice oa os.length oc]] w fun e w' => e = .returned (.bool true) ∧ Below w.heap.size w w' := by
  have HB1 := hide (below_alloc w (.cells #[.int .i64 gn, .slice ra rs.length rc, .slice la ls.length lc, .slice oa os.length oc] 30))
  have HN1 := hide (blk_new w (.cells #[.int .i64 gn, .slice ra rs.length rc, .slice la ls.length lc, .slice oa os.length oc] 30))
  have HNT := hide (h.below HB1.out)
  have HR := hide (hr.below HB1.out)
  have HL := hide (hl.below HB1.out)
  have HO := hide (ho.below HB1.out)
  have HI := hide hi
  have hq : ∀ (i : Bool) (n : Int) (W : World), (binOp .neq 49 (.agg #[.bool i, .int .i64 n]) (.agg #[.bool i, .int .i64 n])).run Tryd.prog W = .ok (.bool false) W := fun i n W => by
    cases i <;> go_simp
  clear h hr hl ho hi
  go_enter Tryd.func10, Tryd.ntmps10
  go_wp2_with fail
  generalize w.alloc (.cells #[.int .i64 gn, .slice ra rs.length rc, .slice la ls.length lc, .slice oa os.length oc] 30) = w1 at *
  have HX : Hid (∀ W, Below w1.heap.size w1 W → W.cell? ⟨w.heap.size, 0, none⟩ = some (.int .i64 gn) ∧ W.cell? ⟨w.heap.size, 1, none⟩ = some (.slice ra rs.length rc) ∧ W.cell? ⟨w.heap.size, 2, none⟩ = some (.slice la ls.length lc) ∧ W.cell? ⟨w.heap.size, 3, none⟩ = some (.slice oa os.length oc)) := hide fun W hk => by
    have h := Below.blk hk HN1.out
    exact ⟨by rw [blk_cell h]; rfl, by rw [blk_cell h]; rfl, by rw [blk_cell h]; rfl, by rw [blk_cell h]; rfl⟩
  have HCB : Hid (∀ d o, Calls Tryd.prog 20 #[.slice p.oa os.length p.oc, .slice oa os.length oc] (Sort.grow (redrawn w1 d) o) fun e w'' => e = .returned (.bool true) ∧ ∃ z : Regrown, w'' = Sort.grow (redrawn w1 z.d) z.os) := hide fun d o => Calls.regrown_of (sameI_at os p.oa oa p.oc oc _ (HNT.out.outs.below (below_regrown w1 d o)) (HO.out.below (below_regrown w1 d o)) (by omega))
  have a0 := cell_regrown HNT.out.c0
  have a1 := cell_regrown HNT.out.c1
  have a2 := cell_regrown HNT.out.c2
  have a3 := cell_regrown HNT.out.c3
  obtain ⟨b0, b1, b2, b3⟩ := HX.out w1 (Below.refl _ _)
  have b0 := cell_regrown b0
  have b1 := cell_regrown b1
  have b2 := cell_regrown b2
  have b3 := cell_regrown b3
  refine wp_region_quiet_below (by kernel_rfl) (by kernel_rfl) ?_
  repeat (quiet_step (with_reducible exact HCB.out _ _))
  refine wpQuiet_nil ?_
  intro _ hw'
  obtain ⟨⟨dq, osq⟩, hw''⟩ := hw'
  subst hw''
  have HB2 := hide (below_regrown w1 dq osq)
  clear a0 a1 a2 a3 b0 b1 b2 b3 HCB
  generalize Sort.grow (redrawn w1 dq) osq = w2 at *
  go_wp2_with fail
  go_loopw [5] (fun i wr => ∃ k : Nat, k ≤ rs.length ∧ i = .int .i64 k ∧ Hid (Below w1.heap.size w1 wr)) (fun i _ => rs.length - (intOf i).toNat)
  case atStart => exact ⟨0, Nat.zero_le _, rfl, HB2⟩
  case round =>
    obtain ⟨k, hk, rfl, hw⟩ := hrel
    have a1 := (HNT.out.below hw.out).c1
    by_cases hlt : k < rs.length
    · have hki : (k : Int) < (rs.length : Int) := by omega
      obtain ⟨b, off, ha, _, _, q0, q1⟩ := (HNT.out.below hw.out).regs.pair hlt
      obtain ⟨b2, off2, ha2, _, _, q2, q3⟩ := (HR.out.below hw.out).pair hlt
      simp only [rgF, rgG] at q0 q1 q2 q3
      have b1 := (HX.out _ hw.out).2.1
      rw [ha] at a1
      rw [ha2] at b1
      generalize rgAt rs k = r at *
      obtain ⟨ri, rx⟩ := r
      simp only at q0 q1 q2 q3
      clear ha ha2
      go_wp2_with fail
      go_quiet (fail)
      go_wp2_with fail
      exact ⟨⟨k + 1, by omega, by go_num, hide (Below.drewNs hw.out _)⟩, by simp [intOf]; omega⟩
    · go_wp2_with fail
      clear a1
      have HBE := hide hw.out
      clear hw
      rename World => we
      go_loopw [6] (fun i wr => ∃ k : Nat, k ≤ ls.length ∧ i = .int .i64 k ∧ Hid (Below w1.heap.size w1 wr)) (fun i _ => ls.length - (intOf i).toNat)
      case atStart => exact ⟨0, Nat.zero_le _, rfl, HBE⟩
      case round =>
        clear HBE hk hlt
        obtain ⟨k, hk, rfl, hw⟩ := hrel
        have a2 := (HNT.out.below hw.out).c2
        by_cases hlt : k < ls.length
        · have hki : (k : Int) < (ls.length : Int) := by omega
          obtain ⟨b, off, ha, _, _, q0, q1⟩ := (HNT.out.below hw.out).luts.row.pair hlt
          obtain ⟨b2, off2, ha2, _, _, q2, q3⟩ := (HL.out.below hw.out).row.pair hlt
          simp only [lutF, lutG] at q0 q1 q2 q3
          have hi1 := (HNT.out.below hw.out).luts.ins k hlt
          have hi2 := (HL.out.below hw.out).ins k hlt
          have h4 := HI.out ls[k] (List.getElem_mem _)
          have hlk : ls[k] = ltAt ls k := by simp [ltAt, hlt]
          rw [hlk] at h4
          have b2' := (HX.out _ hw.out).2.2.1
          rw [ha] at a2
          rw [ha2] at b2'
          clear hlk
          generalize ltAt ls k = r at *
          obtain ⟨ins, tb⟩ := r
          simp only at q0 q1 q2 q3 hi1 hi2 h4
          have HCI : Hid (∀ d o, Calls Tryd.prog 20 #[.slice (p.A k) ins.length (p.C k), .slice (A k) ins.length (C k)] (Sort.grow (redrawn wr d) o) fun e w'' => e = .returned (.bool true) ∧ ∃ z : Regrown, w'' = Sort.grow (redrawn wr z.d) z.os) := hide fun d o => Calls.regrown_of (sameI_at ins (p.A k) (A k) (p.C k) (C k) _ (hi1.below (below_regrown wr d o)) (hi2.below (below_regrown wr d o)) (by omega))
          have q0 := cell_regrown q0
          have q1 := cell_regrown q1
          have q2 := cell_regrown q2
          have q3 := cell_regrown q3
          have a2r := cell_regrown a2
          have b2r := cell_regrown b2'
          clear ha ha2 hi1 hi2
          go_wp2_with fail
          refine wp_region_quiet_below (by kernel_rfl) (by kernel_rfl) ?_
          repeat (quiet_step (with_reducible exact HCI.out _ _))
          refine wpQuiet_nil ?_
          intro _ hw'
          obtain ⟨⟨dq, osq⟩, hw''⟩ := hw'
          subst hw''
          have HB3 := hide (Below.step hw.out (below_regrown wr dq osq))
          clear q0 q1 q2 q3 a2 a2r b2' b2r HCI
          go_wp2_with fail
          exact ⟨⟨k + 1, by omega, by go_num, HB3⟩, by simp [intOf]; omega⟩
        · go_wp2_with fail
          go_ret
          exact ⟨rfl, Below.step HB1.out hw.out⟩
end Go.Proofs.YtgjjjagkbdbalaaDoor
