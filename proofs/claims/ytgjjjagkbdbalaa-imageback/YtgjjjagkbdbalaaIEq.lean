/-
  CONTRACTS: rows that are the same; alike; pick.
-/
import Derived.Test.YtgjjjagkbdbalaaLMem
import Derived.Sort.Grow
import Derived.Lib.QuietBelow
set_option linter.unusedSimpArgs false
set_option linter.unusedVariables false
namespace Go.Proofs.Ytgjjjagkbdbalaa
open Go.RowKit

set_option maxRecDepth 100000 in
set_option maxHeartbeats 6400000 in
theorem equalI_at {S T : Nat → Prop} (l : List Int) (ao bo : Option Addr) (ac bc : Nat) (w : World) (hl : Lies S w ao (intsC l)) (hm : Lies T w bo (intsC l)) (hn : (l.length : Int) ≤ 100000) :
    Calls Try.prog 22 #[.slice ao l.length ac, .slice bo l.length bc] w fun e w' => e = .returned (.bool true) ∧ Below w.heap.size w w' := by
  have HL := hide hl
  have HM := hide hm
  clear hl hm
  go_enter Try.func22, Try.ntmps22
  go_wp2_with fail
  go_loopw [5, 13] (fun _ i wr => ∃ k : Nat, k ≤ l.length ∧ i = .int .i64 k ∧ Hid (Below w.heap.size w wr)) (fun _ i _ => l.length - (intOf i).toNat)
  case atStart => exact ⟨0, Nat.zero_le _, rfl, hide (Below.refl _ _)⟩
  case round =>
    obtain ⟨k, hk, rfl, hw⟩ := hrel
    by_cases hlt : k < l.length
    · have hki : (k : Int) < (l.length : Int) := by omega
      obtain ⟨b, off, ha, _, _, q0⟩ := (HL.out.below hw.out).ints hlt
      obtain ⟨b2, off2, ha2, _, _, q2⟩ := (HM.out.below hw.out).ints hlt
      rw [ha, ha2]
      clear ha ha2
      generalize outAt l k = bv at *
      go_wp2_with fail
      go_quiet (fail)
      go_wp2_with fail
      exact ⟨⟨k + 1, by omega, by go_num, hide (Below.drewNs hw.out _)⟩, by simp [intOf]; omega⟩
    · go_wp2_with fail
      go_ret
      exact ⟨rfl, hw.out⟩

set_option maxRecDepth 100000 in
set_option maxHeartbeats 6400000 in
theorem equalR_at {S T : Nat → Prop} (l : List Rg) (ao bo : Option Addr) (ac bc : Nat) (w : World) (hl : Lies S w ao (rgsC l)) (hm : Lies T w bo (rgsC l)) (hn : (l.length : Int) ≤ 100000) :
    Calls Try.prog 21 #[.slice ao l.length ac, .slice bo l.length bc] w fun e w' => e = .returned (.bool true) ∧ Below w.heap.size w w' := by
  have HL := hide hl
  have HM := hide hm
  have hq : ∀ (i : Bool) (n : Int) (W : World), (binOp .neq 44 (.agg #[.bool i, .int .i64 n]) (.agg #[.bool i, .int .i64 n])).run Try.prog W = .ok (.bool false) W := fun i n W => by
    cases i <;> go_simp
  clear hl hm
  go_enter Try.func21, Try.ntmps21
  go_wp2_with fail
  go_loopw [5, 13] (fun _ i wr => ∃ k : Nat, k ≤ l.length ∧ i = .int .i64 k ∧ Hid (Below w.heap.size w wr)) (fun _ i _ => l.length - (intOf i).toNat)
  case atStart => exact ⟨0, Nat.zero_le _, rfl, hide (Below.refl _ _)⟩
  case round =>
    obtain ⟨k, hk, rfl, hw⟩ := hrel
    by_cases hlt : k < l.length
    · have hki : (k : Int) < (l.length : Int) := by omega
      obtain ⟨b, off, ha, _, _, q0, q1⟩ := (HL.out.below hw.out).pair hlt
      obtain ⟨b2, off2, ha2, _, _, q2, q3⟩ := (HM.out.below hw.out).pair hlt
      simp only [rgF, rgG] at q0 q1 q2 q3
      rw [ha, ha2]
      clear ha ha2
      generalize rgAt l k = r at *
      obtain ⟨ri, rx⟩ := r
      simp only at q0 q1 q2 q3
      go_wp2_with fail
      go_quiet (fail)
      go_wp2_with fail
      exact ⟨⟨k + 1, by omega, by go_num, hide (Below.drewNs hw.out _)⟩, by simp [intOf]; omega⟩
    · go_wp2_with fail
      go_ret
      exact ⟨rfl, hw.out⟩

set_option maxRecDepth 100000 in
set_option maxHeartbeats 3200000 in
theorem alike1_at {S T : Nat → Prop} (l : List Int) (tb : Int) (ao bo : Option Addr) (ac bc : Nat) (w : World) (hl : Lies S w ao (intsC l)) (hm : Lies T w bo (intsC l)) (hn : (l.length : Int) ≤ 100000) :
    Calls Try.prog 24 #[.agg #[.slice ao l.length ac, .int .i64 tb], .agg #[.slice bo l.length bc, .int .i64 tb]] w fun e w' => e = .returned (.bool true) ∧ Below w.heap.size w w' := by
  have HB := hide (Below.step (below_alloc w (.cells #[.slice ao l.length ac, .int .i64 tb] 40)) (below_alloc (w.alloc (.cells #[.slice ao l.length ac, .int .i64 tb] 40)) (.cells #[.slice bo l.length bc, .int .i64 tb] 40)))
  have HC := hide (equalI_at l ao bo ac bc _ (hl.below HB.out) (hm.below HB.out) hn)
  clear hl hm
  go_enter Try.func24, Try.ntmps24
  go_wp2_with fail
  refine HC.out.mono ?_
  rintro e w1 ⟨rfl, hb⟩
  have HB1 := hide (Below.step HB.out hb)
  clear hb HC
  go_wp2_with fail
  go_ret
  exact ⟨rfl, HB1.out⟩

set_option maxRecDepth 100000 in
set_option maxHeartbeats 6400000 in
theorem equalL_at {S T : Nat → Prop} (ls : List Lt) (ao bo : Option Addr) (ac bc : Nat) (A A' : Nat → Option Addr) (C C' : Nat → Nat) (w : World) (hl : LutsAt S w ao A C ls) (hm : LutsAt T w bo A' C' ls) (hn : (ls.length : Int) ≤ 100000) (hi : ∀ l ∈ ls, l.ins.length ≤ 100000) :
    Calls Try.prog 23 #[.slice ao ls.length ac, .slice bo ls.length bc, .func (.func 24) #[] #[]] w fun e w' => e = .returned (.bool true) ∧ Below w.heap.size w w' := by
  have HL := hide hl
  have HM := hide hm
  have HI := hide hi
  clear hl hm hi
  go_enter Try.func23, Try.ntmps23
  go_wp2_with fail
  go_loopw [7, 17] (fun _ i wr => ∃ k : Nat, k ≤ ls.length ∧ i = .int .i64 k ∧ Hid (Below w.heap.size w wr)) (fun _ i _ => ls.length - (intOf i).toNat)
  case atStart => exact ⟨0, Nat.zero_le _, rfl, hide (Below.refl _ _)⟩
  case round =>
    obtain ⟨k, hk, rfl, hw⟩ := hrel
    by_cases hlt : k < ls.length
    · have hki : (k : Int) < (ls.length : Int) := by omega
      obtain ⟨b, off, ha, _, hbl, q0, q1⟩ := (HL.out.row.below hw.out).pair hlt
      obtain ⟨b2, off2, ha2, _, hbl2, q2, q3⟩ := (HM.out.row.below hw.out).pair hlt
      simp only [lutF, lutG] at q0 q1 q2 q3
      have hi1 := (HL.out.ins k hlt).below hw.out
      have hi2 := (HM.out.ins k hlt).below hw.out
      have hin : (ltAt ls k).ins.length ≤ 100000 := by
        have := HI.out ls[k] (List.getElem_mem _)
        simpa [ltAt, hlt] using this
      rw [ha, ha2]
      clear ha ha2
      generalize ltAt ls k = r at *
      obtain ⟨ins, tb⟩ := r
      simp only at q0 q1 q2 q3 hi1 hi2 hin
      have HB2 := hide (Below.step (below_alloc wr (.cells #[.slice (A k) ins.length (C k), .int .i64 tb] 40)) (below_alloc (wr.alloc (.cells #[.slice (A k) ins.length (C k), .int .i64 tb] 40)) (.cells #[.slice (A' k) ins.length (C' k), .int .i64 tb] 40)))
      have x2 := cell_alloc q2 (.cells #[.slice (A k) ins.length (C k), .int .i64 tb] 40)
      have x3 := cell_alloc q3 (.cells #[.slice (A k) ins.length (C k), .int .i64 tb] 40)
      have HC := hide (alike1_at ins tb (A k) (A' k) (C k) (C' k) _ (hi1.below HB2.out) (hi2.below HB2.out) (by omega))
      have HB3 := hide (Below.step hw.out HB2.out)
      clear hi1 hi2 q2 q3
      go_wp2_with fail
      refine HC.out.mono ?_
      rintro e w4 ⟨rfl, hb⟩
      have HB4 := hide (Below.step HB3.out hb)
      clear hb HC
      go_wp2_with fail
      exact ⟨⟨k + 1, by omega, by go_num, HB4⟩, by simp [intOf]; omega⟩
    · go_wp2_with fail
      go_ret
      exact ⟨rfl, hw.out⟩
end Go.Proofs.Ytgjjjagkbdbalaa
