/-
  CONTRACT of the statements' tabled: nets of tables that are few enough.
-/
import Derived.Test.YtacgepdmhdcdkaaLMem
set_option linter.unusedSimpArgs false
set_option linter.unusedVariables false
namespace Go.Proofs.Ytacgepdmhdcdkaa
open Go.RowKit

/-- among the first k tables one has more than ten signals -/
def wideTo (ls : List Lt) : Nat → Bool
  | 0 => false
  | k + 1 => wideTo ls k || decide (10 < (ltAt ls k).ins.length)
theorem wideTo_at {ls : List Lt} : ∀ {k : Nat}, wideTo ls k = false → ∀ i, i < k → (ltAt ls i).ins.length ≤ 10
  | 0, _, i, hi => absurd hi (Nat.not_lt_zero _)
  | k + 1, h, i, hi => by
    simp only [wideTo, Bool.or_eq_false_iff, decide_eq_false_iff_not] at h
    by_cases e : i = k
    · subst e; omega
    · exact wideTo_at h.1 i (by omega)
theorem wideTo_yes {ls : List Lt} {k : Nat} (h : 10 < (ltAt ls k).ins.length) : ∀ n, k < n → wideTo ls n = true
  | 0, hn => absurd hn (Nat.not_lt_zero _)
  | n + 1, hn => by
    simp only [wideTo, Bool.or_eq_true, decide_eq_true_eq]
    by_cases e : k = n
    · subst e; exact .inr h
    · exact .inl (wideTo_yes h n (by omega))

set_option maxRecDepth 100000 in
set_option maxHeartbeats 1600000 in
theorem wide_at (a : Option Addr) (n c : Nat) (t : Int) (w : World) :
    Calls Try.prog 13 #[.agg #[.slice a n c, .int .i64 t]] w fun e w' => e = .returned (.bool (decide ((10 : Int) < (n : Int)))) ∧ Below w.heap.size w w' := by
  have HB := hide (below_alloc w (.cells #[.slice a n c, .int .i64 t] 44))
  go_enter Try.func13, Try.ntmps13
  go_wp2_with fail
  go_ret
  exact ⟨rfl, HB.out⟩

set_option maxRecDepth 100000 in
set_option maxHeartbeats 3200000 in
theorem windex_at {S : Nat → Prop} (ls : List Lt) (la : Option Addr) (lc : Nat) (A : Nat → Option Addr) (C : Nat → Nat) (w : World) (hd : Lies S w la (lutsC A C ls)) (hn : ls.length ≤ 20000) :
    Calls Try.prog 22 #[.slice la ls.length lc, .func (.func 13) #[] #[]] w fun e w' => (∃ i : Int, e = .returned (.int .i64 i) ∧ (0 ≤ i ↔ wideTo ls ls.length = true)) ∧ Below w.heap.size w w' := by
  have HD := hide hd
  clear hd
  go_enter Try.func22, Try.ntmps22
  go_wp2_with fail
  go_loopw [5, 8] (fun _ i wr => ∃ j : Nat, j ≤ ls.length ∧ i = .int .i64 j ∧ Hid (Below w.heap.size w wr) ∧ Hid (wideTo ls j = false)) (fun _ i _ => ls.length - (intOf i).toNat)
  case atStart => exact ⟨0, Nat.zero_le _, rfl, hide (Below.refl _ _), hide rfl⟩
  case round =>
    obtain ⟨j, hj, rfl, hb, hno⟩ := hrel
    by_cases hlt : j < ls.length
    · have hji : (j : Int) < (ls.length : Int) := by omega
      obtain ⟨g, off, ha, _, _, r0, r1⟩ := (HD.out.below hb.out).pair hlt
      simp only [lutF, lutG] at r0 r1
      have HTK : Hid (wideTo ls (j + 1) = (wideTo ls j || decide (10 < (ltAt ls j).ins.length))) := hide rfl
      have HAN : Hid (10 < (ltAt ls j).ins.length → wideTo ls ls.length = true) := hide fun h => wideTo_yes h _ hlt
      have HA := hide ha
      rw [HA.out]
      clear ha
      generalize ltAt ls j = x at *
      obtain ⟨ins, tb⟩ := x
      simp only at r0 r1
      have HC := hide (wide_at (A j) ins.length (C j) tb wr)
      by_cases hq : (10 : Int) < (ins.length : Int)
      · have HAA := hide (HAN.out (by simp only; omega))
        clear HTK HAN
        rw [decide_eq_true hq] at HC
        clear hq
        go_wp2_with fail
        refine HC.out.mono ?_
        rintro e w4 ⟨rfl, hb4⟩
        have HB4 := hide (Below.step hb.out hb4)
        clear hb4 HC r0 r1
        go_wp2_with fail
        go_ret
        exact ⟨⟨(j : Int), rfl, iff_of_true (by omega) HAA.out⟩, HB4.out⟩
      · have HAA : Hid (wideTo ls (j + 1) = false) := hide (by rw [HTK.out, hno.out]; simp only [Bool.false_or, decide_eq_false_iff_not]; omega)
        clear HTK HAN
        rw [decide_eq_false hq] at HC
        clear hq
        go_wp2_with fail
        refine HC.out.mono ?_
        rintro e w4 ⟨rfl, hb4⟩
        have HB4 := hide (Below.step hb.out hb4)
        clear hb4 HC r0 r1
        go_wp2_with fail
        exact ⟨⟨j + 1, by omega, by go_num, HB4, HAA⟩, by simp [intOf]; omega⟩
    · have HJ : Hid (j = ls.length) := (by omega : j = ls.length)
      have HA : Hid (wideTo ls ls.length = false) := hide (by have := hno.out; rwa [HJ.out] at this)
      go_wp2_with fail
      go_ret
      exact ⟨⟨-1, rfl, iff_of_false (by decide) (by rw [HA.out]; decide)⟩, hb.out⟩

set_option maxRecDepth 100000 in
set_option maxHeartbeats 3200000 in
theorem wcontains_at {S : Nat → Prop} (ls : List Lt) (la : Option Addr) (lc : Nat) (A : Nat → Option Addr) (C : Nat → Nat) (w : World) (hd : Lies S w la (lutsC A C ls)) (hn : ls.length ≤ 20000) :
    Calls Try.prog 12 #[.slice la ls.length lc, .func (.func 13) #[] #[]] w fun e w' => e = .returned (.bool (wideTo ls ls.length)) ∧ Below w.heap.size w w' := by
  have HI := hide (windex_at ls la lc A C w hd hn)
  clear hd
  go_enter Try.func12, Try.ntmps12
  go_wp2_with fail
  refine HI.out.mono ?_
  rintro e w1 ⟨⟨i, rfl, hi⟩, hb⟩
  have HB := hide hb
  have HQ : Hid (decide ((0 : Int) ≤ i) = wideTo ls ls.length) := hide (by
    cases hq : wideTo ls ls.length with
    | true => exact decide_eq_true (hi.2 hq)
    | false => exact decide_eq_false (fun h => by rw [hi.1 h] at hq; cases hq))
  clear hb hi
  go_wp2_with fail
  go_ret
  refine ⟨?_, HB.out⟩
  show Ending.returned (.bool (decide ((0 : Int) ≤ i))) = _
  rw [HQ.out]

set_option maxRecDepth 100000 in
set_option maxHeartbeats 3200000 in
theorem tabled_big (given : Int) (rn ln on rc lc oc : Nat) (ra la oa : Option Addr) (w : World) (h : (40 : Int) < (rn : Int) ∨ (rn : Int) ≤ 40 ∧ (60 : Int) < (ln : Int) ∨ (rn : Int) ≤ 40 ∧ (ln : Int) ≤ 60 ∧ (40 : Int) < (on : Int) ∨ (rn : Int) ≤ 40 ∧ (ln : Int) ≤ 60 ∧ (on : Int) ≤ 40 ∧ (200 : Int) < given) :
    Calls Try.prog 4 #[.agg #[.int .i64 given, .slice ra rn rc, .slice la ln lc, .slice oa on oc]] w fun e w' => e = .returned (.bool false) ∧ Below w.heap.size w w' := by
  have HB := hide (below_alloc w (.cells #[.int .i64 given, .slice ra rn rc, .slice la ln lc, .slice oa on oc] 26))
  rcases h with h1 | ⟨h0, h1⟩ | ⟨h0, h2, h1⟩ | ⟨h0, h2, h3, h1⟩
  all_goals
    go_enter Try.func4, Try.ntmps4
    go_wp2_with fail
    go_ret
    exact ⟨rfl, HB.out⟩

set_option maxRecDepth 100000 in
set_option maxHeartbeats 3200000 in
theorem tabled_at {S : Nat → Prop} (given : Int) (ls : List Lt) (rn on rc lc oc : Nat) (ra la oa : Option Addr) (A : Nat → Option Addr) (C : Nat → Nat) (w : World) (hd : Lies S w la (lutsC A C ls)) :
    Calls Try.prog 4 #[.agg #[.int .i64 given, .slice ra rn rc, .slice la ls.length lc, .slice oa on oc]] w fun e w' => (∃ b, e = .returned (.bool b) ∧ (b = true → rn ≤ 40 ∧ ls.length ≤ 60 ∧ on ≤ 40 ∧ given ≤ 200 ∧ ∀ i, i < ls.length → (ltAt ls i).ins.length ≤ 10)) ∧ Below w.heap.size w w' := by
  by_cases h : (40 : Int) < (rn : Int) ∨ (rn : Int) ≤ 40 ∧ (60 : Int) < (ls.length : Int) ∨ (rn : Int) ≤ 40 ∧ (ls.length : Int) ≤ 60 ∧ (40 : Int) < (on : Int) ∨ (rn : Int) ≤ 40 ∧ (ls.length : Int) ≤ 60 ∧ (on : Int) ≤ 40 ∧ (200 : Int) < given
  · refine (tabled_big given rn ls.length on rc lc oc ra la oa w h).mono ?_
    rintro e w' ⟨rfl, hb⟩
    exact ⟨⟨false, rfl, fun h => by cases h⟩, hb⟩
  · obtain ⟨h1, h2, h3, h4⟩ : (rn : Int) ≤ 40 ∧ (ls.length : Int) ≤ 60 ∧ (on : Int) ≤ 40 ∧ given ≤ 200 := by omega
    clear h
    have HB := hide (below_alloc w (.cells #[.int .i64 given, .slice ra rn rc, .slice la ls.length lc, .slice oa on oc] 26))
    have HC := hide (wcontains_at ls la lc A C _ (hd.below HB.out) (by omega))
    clear hd
    go_enter Try.func4, Try.ntmps4
    go_wp2_with fail
    refine HC.out.mono ?_
    rintro e w1 ⟨rfl, hb⟩
    have HB1 := hide (Below.step HB.out hb)
    clear hb
    go_wp2_with fail
    go_ret
    exact ⟨⟨_, rfl, fun hb => ⟨by omega, by omega, by omega, h4, wideTo_at (by simpa using hb)⟩⟩, HB1.out⟩
end Go.Proofs.Ytacgepdmhdcdkaa
