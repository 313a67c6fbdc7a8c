/-
  CONTRACTS of slices.Equal of two rows of numbers; of gate's closure.
-/
import Derived.Test.YtacgepdmhdcdkaaLWy
set_option linter.unusedSimpArgs false
set_option linter.unusedVariables false
namespace Go.Proofs.Ytacgepdmhdcdkaa
open Go.RowKit

theorem list_of_outAt {l m : List Int} (hn : l.length = m.length) (h : ∀ i, i < l.length → outAt l i = outAt m i) : l = m := by
  apply List.ext_getElem hn
  intro i h1 h2
  have := h i h1
  simpa [outAt, h1, h2] using this

set_option maxRecDepth 100000 in
set_option maxHeartbeats 3200000 in
theorem eqi_at {S T : Nat → Prop} (l m : List Int) (la ma : Option Addr) (lc mc : Nat) (w : World) (hl : Lies S w la (intsC l)) (hm : Lies T w ma (intsC m)) (hl4 : l.length ≤ 10000) (hm4 : m.length ≤ 10000) :
    Calls Try.prog 44 #[.slice la l.length lc, .slice ma m.length mc] w fun e w' => e = .returned (.bool (decide (l = m))) ∧ Below w.heap.size w w' := by
  have HL := hide hl
  have HM := hide hm
  clear hl hm
  by_cases hn : l.length = m.length
  · have HN := hide hn
    have hni : ((l.length : Int) != (m.length : Int)) = false := by simp [hn]
    go_enter Try.func44, Try.ntmps44
    go_wp2_with fail
    go_loopw [5, 13] (fun _ i wr => ∃ k : Nat, k ≤ l.length ∧ i = .int .i64 k ∧ Hid (∀ i, i < k → outAt l i = outAt m i) ∧ Hid (Below w.heap.size w wr)) (fun _ i _ => l.length - (intOf i).toNat)
    case atStart => exact ⟨0, Nat.zero_le _, rfl, hide (fun i hi => absurd hi (Nat.not_lt_zero _)), hide (Below.refl _ _)⟩
    case round =>
      obtain ⟨k, hk, rfl, he, hb⟩ := hrel
      by_cases hlt : k < l.length
      · have hki : (k : Int) < (l.length : Int) := by omega
        have hkm : (k : Int) < (m.length : Int) := by omega
        obtain ⟨b, off, ha, _, hbl, n0⟩ := (HL.out.below hb.out).ints hlt
        obtain ⟨b2, off2, ha2, _, hbl2, n2⟩ := (HM.out.below hb.out).ints (i := k) (by omega)
        have HA := hide ha
        have HA2 := hide ha2
        rw [HA.out, HA2.out]
        clear ha ha2 hbl hbl2
        by_cases hq : outAt l k = outAt m k
        · have HE := hide (fun i (hi : i < k + 1) => if e : i < k then he.out i e else by have : i = k := by omega
                                                                                          rw [this]; exact hq)
          rw [hq] at n0
          clear hq
          generalize outAt m k = v at n0 n2
          go_wp2_with fail
          go_quiet (fail)
          go_wp2_with fail
          exact ⟨⟨k + 1, by omega, by go_num, hide HE.out, hide (Below.drewNs hb.out _)⟩, by simp [intOf]; omega⟩
        · have HD : Hid (decide (l = m) = false) := hide (decide_eq_false fun e => hq (by rw [e]))
          have hqb : (outAt l k != outAt m k) = true := by simpa using hq
          clear hq
          generalize outAt l k = v1 at *
          generalize outAt m k = v2 at *
          go_wp2_with fail
          go_quiet (fail)
          go_wp2_with fail
          go_ret
          exact ⟨by rw [HD.out]; rfl, Below.drewNs hb.out _⟩
      · have HK : Hid (k = l.length) := hide (by omega)
        have HD : Hid (decide (l = m) = true) := hide (decide_eq_true (list_of_outAt HN.out fun i hi => he.out i (by have := HK.out; omega)))
        go_wp2_with fail
        go_ret
        exact ⟨by rw [HD.out]; rfl, hb.out⟩
  · have HD : Hid (decide (l = m) = false) := hide (decide_eq_false fun e => hn (by rw [e]))
    have hni : ((l.length : Int) != (m.length : Int)) = true := by simp; omega
    clear hn
    go_enter Try.func44, Try.ntmps44
    go_wp2_with fail
    go_ret
    exact ⟨by rw [HD.out]; rfl, Below.refl _ _⟩

set_option maxRecDepth 100000 in
set_option maxHeartbeats 3200000 in
theorem eqw_at {S T : Nat → Prop} (x y : Wy) (w : World) (hx : WyIn S w x) (hy : WyIn T w y) (hx4 : x.l.ins.length ≤ 10000) (hy4 : y.l.ins.length ≤ 10000) :
    Calls Try.prog 43 #[.agg #[.slice x.a x.l.ins.length x.c, .int .i64 x.l.table], .agg #[.slice y.a y.l.ins.length y.c, .int .i64 y.l.table]] w fun e w' => e = .returned (.bool (decide (x.l.ins = y.l.ins))) ∧ Below w.heap.size w w' := by
  have hb1 : Below w.heap.size w ((w.alloc (.cells #[.slice x.a x.l.ins.length x.c, .int .i64 x.l.table] 44)).alloc (.cells #[.slice y.a y.l.ins.length y.c, .int .i64 y.l.table] 44)) := Below.step (below_alloc _ _) (below_alloc _ _)
  have HC := hide (eqi_at x.l.ins y.l.ins x.a y.a x.c y.c _ (Lies.below hx hb1) (Lies.below hy hb1) hx4 hy4)
  have HB1 := hide hb1
  clear hx hy hb1
  go_enter Try.func43, Try.ntmps43
  go_wp2_with fail
  refine HC.out.mono ?_
  rintro e w2 ⟨rfl, hb⟩
  have HB2 := hide (Below.step HB1.out hb)
  clear hb HC
  go_wp2_with fail
  go_ret
  exact ⟨rfl, HB2.out⟩
end Go.Proofs.Ytacgepdmhdcdkaa
