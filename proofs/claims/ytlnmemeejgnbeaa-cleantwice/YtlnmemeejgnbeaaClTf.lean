/-
  CONTRACTS of the closure in CleanTwice, of slices.IndexFunc and slices.ContainsFunc at it.
-/
import Derived.Test.YtlnmemeejgnbeaaClTp
import Derived.Test.YtlnmemeejgnbeaaClBld
set_option linter.unusedSimpArgs false
set_option linter.unusedVariables false
namespace Go.Proofs.Ytlnmemeejgnbeaa
open Go.RowKit

def hasReg (ns : List Nd) (k : Nat) : Bool := (ns.take k).any fun x => x.op == 4
theorem hasReg_succ (ns : List Nd) {k : Nat} (h : k < ns.length) : hasReg ns (k + 1) = (hasReg ns k || ((ndAt ns k).op == 4)) := by
  unfold hasReg
  rw [take_nd ns k h, List.any_append]; simp
theorem hasReg_all (ns : List Nd) : hasReg ns ns.length = ns.any fun x => x.op == 4 := by unfold hasReg; rw [List.take_length]
theorem hasReg_at {ns : List Nd} {k : Nat} (h : k < ns.length) (h4 : ((ndAt ns k).op == 4) = true) : hasReg ns ns.length = true := by
  rw [hasReg_all]
  refine List.any_eq_true.2 ⟨ndAt ns k, ?_, h4⟩
  unfold ndAt; rw [List.getElem?_eq_getElem h]; exact List.getElem_mem h
theorem noreg_of {ns : List Nd} (h : hasReg ns ns.length = false) : NoReg ns := fun i hi h4 => by
  rw [hasReg_at hi (by rw [h4]; rfl)] at h; cases h

set_option maxRecDepth 100000 in
set_option maxHeartbeats 1600000 in
theorem isReg_at (op a b nx : Int) (w : World) :
    Calls Try.prog 15 #[.agg #[.int .i64 op, .int .i64 a, .int .i64 b, .int .i64 nx]] w fun e w' => e = .returned (.bool (op == 4)) ∧ Below w.heap.size w w' := by
  have HB := hide (below_alloc w (.cells #[.int .i64 op, .int .i64 a, .int .i64 b, .int .i64 nx] 26))
  go_enter Try.func15, Try.ntmps15
  go_wp2_with fail
  go_ret
  exact ⟨rfl, HB.out⟩

set_option maxRecDepth 100000 in
set_option maxHeartbeats 3200000 in
theorem index_at {S : Nat → Prop} (ns : List Nd) (la : Option Addr) (lc : Nat) (w : World) (hd : Lies S w la (ndsC ns)) (hn : ns.length ≤ 20000) :
    Calls Try.prog 25 #[.slice la ns.length lc, .func (.func 15) #[] #[]] w fun e w' => (∃ i : Int, e = .returned (.int .i64 i) ∧ (0 ≤ i ↔ hasReg ns ns.length = true)) ∧ Below w.heap.size w w' := by
  have HD := hide hd
  clear hd
  go_enter Try.func25, Try.ntmps25
  go_wp2_with fail
  go_loopw [5, 8] (fun _ i wr => ∃ j : Nat, j ≤ ns.length ∧ i = .int .i64 j ∧ Hid (Below w.heap.size w wr) ∧ Hid (hasReg ns j = false)) (fun _ i _ => ns.length - (intOf i).toNat)
  case atStart => exact ⟨0, Nat.zero_le _, rfl, hide (Below.refl _ _), hide (by simp [hasReg])⟩
  case round =>
    obtain ⟨j, hj, rfl, hb, hno⟩ := hrel
    by_cases hlt : j < ns.length
    · have hji : (j : Int) < (ns.length : Int) := by omega
      obtain ⟨g, off, ha, _, _, r0, r1, r2, r3⟩ := (HD.out.below hb.out).nodes hlt
      have HTK := hide (hasReg_succ ns hlt)
      have HAN := hide fun h => hasReg_at (ns := ns) hlt h
      have HA := hide ha
      rw [HA.out]
      clear ha
      generalize ndAt ns j = x at *
      obtain ⟨op, a, b, nx⟩ := x
      simp only at r0 r1 r2 r3
      have HC := hide (isReg_at op a b nx wr)
      go_wp2_with fail
      refine HC.out.mono ?_
      rintro e w4 ⟨rfl, hb4⟩
      have HB4 := hide (Below.step hb.out hb4)
      clear hb4 HC r0 r1 r2 r3
      cases hq : (op == 4) with
      | true =>
        have HA := hide (HAN.out hq)
        clear hq
        go_wp2_with fail
        go_ret
        exact ⟨⟨(j : Int), rfl, iff_of_true (by omega) HA.out⟩, HB4.out⟩
      | false =>
        have HA : Hid (hasReg ns (j + 1) = false) := hide (by rw [HTK.out, hno.out]; exact hq)
        clear hq
        go_wp2_with fail
        exact ⟨⟨j + 1, by omega, by go_num, HB4, HA⟩, by simp [intOf]; omega⟩
    · have HJ : Hid (j = ns.length) := (by omega : j = ns.length)
      have HA : Hid (hasReg ns ns.length = false) := hide (by have := hno.out; rwa [HJ.out] at this)
      go_wp2_with fail
      go_ret
      exact ⟨⟨-1, rfl, iff_of_false (by decide) (by rw [HA.out]; decide)⟩, hb.out⟩

set_option maxRecDepth 100000 in
set_option maxHeartbeats 3200000 in
theorem contains_at {S : Nat → Prop} (ns : List Nd) (la : Option Addr) (lc : Nat) (w : World) (hd : Lies S w la (ndsC ns)) (hn : ns.length ≤ 20000) :
    Calls Try.prog 14 #[.slice la ns.length lc, .func (.func 15) #[] #[]] w fun e w' => e = .returned (.bool (hasReg ns ns.length)) ∧ Below w.heap.size w w' := by
  have HI := hide (index_at ns la lc w hd hn)
  clear hd
  go_enter Try.func14, Try.ntmps14
  go_wp2_with fail
  refine HI.out.mono ?_
  rintro e w1 ⟨⟨i, rfl, hi⟩, hb⟩
  have HB := hide hb
  have HQ : Hid (decide ((0 : Int) ≤ i) = hasReg ns ns.length) := hide (by
    cases hq : hasReg ns ns.length with
    | true => exact decide_eq_true (hi.2 hq)
    | false => exact decide_eq_false (fun h => by rw [hi.1 h] at hq; cases hq))
  clear hb hi
  go_wp2_with fail
  go_ret
  refine ⟨?_, HB.out⟩
  show Ending.returned (.bool (decide ((0 : Int) ≤ i))) = _
  rw [HQ.out]
end Go.Proofs.Ytlnmemeejgnbeaa
