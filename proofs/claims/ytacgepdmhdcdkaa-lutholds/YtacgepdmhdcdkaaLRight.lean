/-
  CONTRACTS of right, Right.
-/
import Derived.Test.YtacgepdmhdcdkaaLLeaf
set_option linter.unusedSimpArgs false
set_option linter.unusedVariables false
namespace Go.Proofs.Ytacgepdmhdcdkaa
open Go.RowKit

set_option maxRecDepth 100000 in
set_option maxHeartbeats 1600000 in
theorem lright_big (a : Option Addr) (n c : Nat) (t ahead : Int) (w : World) (h : (4 : Int) < (n : Int)) :
    Calls Try.prog 19 #[.agg #[.slice a n c, .int .i64 t], .int .i64 ahead] w fun e w' => e = .returned (.bool false) ∧ Below w.heap.size w w' := by
  have HB := hide (below_alloc w (.cells #[.slice a n c, .int .i64 t] 44))
  go_enter Try.func19, Try.ntmps19
  go_wp2_with fail
  go_quiet (fail)
  go_wp2_with fail
  go_ret
  exact ⟨rfl, Below.drewNs HB.out _⟩

set_option maxRecDepth 100000 in
set_option maxHeartbeats 1600000 in
theorem lright_tbl (a : Option Addr) (n c : Nat) (t ahead : Int) (w : World) (h : n ≤ 4) (hr : inR t (pow4 n : Nat) = false) :
    Calls Try.prog 19 #[.agg #[.slice a n c, .int .i64 t], .int .i64 ahead] w fun e w' => e = .returned (.bool false) ∧ Below w.heap.size w w' := by
  have HB := hide (below_alloc w (.cells #[.slice a n c, .int .i64 t] 44))
  have HBL : Hid (∀ (W : World) (r : Int), r = (pow4 n : Nat) → Calls Try.prog 17 #[.int .i64 t, .int .i64 r] W fun e w' => e = .returned (.bool false) ∧ w' = W) := hide fun W r hr2 => by subst hr2; exact lbelow_is _ _ _ hr _
  clear hr
  obtain rfl | rfl | rfl | rfl | rfl : n = 0 ∨ n = 1 ∨ n = 2 ∨ n = 3 ∨ n = 4 := by omega
  all_goals
    go_enter Try.func19, Try.ntmps19
    go_wp2_with fail
    go_quiet (((with_reducible refine Calls.quiet_of_same (HBL.out _ _ ?_)); decide))
    go_wp2_with fail
    go_ret
    exact ⟨rfl, Below.drewNs HB.out _⟩

set_option maxRecDepth 100000 in
set_option maxHeartbeats 3200000 in
theorem lright_ins {S : Nat → Prop} (a : Option Addr) (ins : List Int) (n c : Nat) (t : Int) (ahead : Nat) (w : World) (hn : ins.length = n) (h : n ≤ 4) (h0 : 0 < n) (hr : inR t (pow4 n : Nat) = true) (hl : Lies S w a (intsC ins)) :
    Calls Try.prog 19 #[.agg #[.slice a n c, .int .i64 t], .int .i64 ahead] w fun e w' => e = .returned (.bool (outsTo ahead ins n)) ∧ Below w.heap.size w w' := by
  have HB := hide (below_alloc w (.cells #[.slice a n c, .int .i64 t] 44))
  have HL := hide (hl.below HB.out)
  have HN := hide hn
  have HBL : Hid (∀ (W : World) (r : Int), r = (pow4 n : Nat) → Calls Try.prog 17 #[.int .i64 t, .int .i64 r] W fun e w' => e = .returned (.bool true) ∧ w' = W) := hide fun W r hr2 => by subst hr2; exact lbelow_is _ _ _ hr _
  clear hr hl hn
  obtain rfl | rfl | rfl | rfl : n = 1 ∨ n = 2 ∨ n = 3 ∨ n = 4 := by omega
  all_goals
    go_enter Try.func19, Try.ntmps19
    go_wp2_with fail
    go_quiet (((with_reducible refine Calls.quiet_of_same (HBL.out _ _ ?_)); decide))
    go_wp2_with fail
    have HB2 := hide (Below.drewNs HB.out nq)
    have HL2 := hide (HL.out.below (Below.drewNs (Below.refl _ _) nq))
    generalize ((w.alloc (.cells #[.slice a _ c, .int .i64 t] 44)).drewN nq) = W at *
    go_loopw [6, 25] (fun _ i wr => ∃ k : Nat, k ≤ ins.length ∧ i = .int .i64 k ∧ Hid (Below w.heap.size w wr) ∧ Hid (Lies S wr a (intsC ins)) ∧ Hid (outsTo ahead ins k = true)) (fun _ i _ => ins.length - (intOf i).toNat)
    case atStart => exact ⟨0, Nat.zero_le _, rfl, HB2, HL2, hide rfl⟩
    case round =>
      obtain ⟨k, hk, rfl, hb, hl, hno⟩ := hrel
      have hnn := HN.out
      by_cases hlt : k < ins.length
      · have hki : (k : Int) < (ins.length : Int) := by omega
        obtain ⟨b, off, ha, _, _, n0⟩ := hl.out.ints hlt
        have HA := hide ha
        rw [HA.out]
        have HOI : Hid (outsTo ahead ins (k + 1) = inR (outAt ins k) ahead) := hide (by simp only [outsTo, hno.out]; rfl)
        have HOA : Hid (inR (outAt ins k) ahead = false → outsTo ahead ins ins.length = false) := hide fun hf => by
          cases hq : outsTo ahead ins ins.length with
          | false => rfl
          | true => rw [outsTo_at hq k hlt] at hf; cases hf
        rw [hnn] at hki HOA
        clear ha hnn
        cases hr : inR (outAt ins k) ahead with
        | true =>
          rw [hr] at HOI
          clear HOA
          have HC := hide (lbelow_is _ _ _ hr wr)
          clear hr
          go_wp2_with fail
          refine HC.out.mono ?_
          rintro e w4 ⟨rfl, rfl⟩
          go_wp2_with fail
          exact ⟨⟨k + 1, by omega, by go_num, hb, HA.out ▸ hl, HOI⟩, by simp [intOf]; omega⟩
        | false =>
          have HOB := hide (HOA.out hr)
          clear HOA HOI
          have HC := hide (lbelow_is _ _ _ hr wr)
          clear hr
          go_wp2_with fail
          refine HC.out.mono ?_
          rintro e w4 ⟨rfl, rfl⟩
          go_wp2_with fail
          go_ret
          exact ⟨ret_bool HOB.out.symm, hb.out⟩
      · have hkn : k = ins.length := by omega
        rw [hnn] at hkn
        subst hkn
        go_wp2_with fail
        go_ret
        exact ⟨ret_bool hno.out.symm, hb.out⟩

set_option maxRecDepth 100000 in
set_option maxHeartbeats 3200000 in
theorem lright_none (a : Option Addr) (c : Nat) (t : Int) (ahead : Int) (w : World) (hr : inR t (pow4 0 : Nat) = true) :
    Calls Try.prog 19 #[.agg #[.slice a 0 c, .int .i64 t], .int .i64 ahead] w fun e w' => e = .returned (.bool true) ∧ Below w.heap.size w w' := by
  have HB := hide (below_alloc w (.cells #[.slice a 0 c, .int .i64 t] 44))
  have HBL : Hid (∀ (W : World) (r : Int), r = (pow4 0 : Nat) → Calls Try.prog 17 #[.int .i64 t, .int .i64 r] W fun e w' => e = .returned (.bool true) ∧ w' = W) := hide fun W r hr2 => by subst hr2; exact lbelow_is _ _ _ hr _
  clear hr
  go_enter Try.func19, Try.ntmps19
  go_wp2_with fail
  go_quiet (((with_reducible refine Calls.quiet_of_same (HBL.out _ _ ?_)); decide))
  go_wp2_with fail
  go_loop [6, 25] (fun _ i => i = .int .i64 0) (fun _ _ => 0)
  case atStart => rfl
  case round =>
    obtain rfl := hrel
    go_wp2_with fail
    go_ret
    exact ⟨rfl, Below.drewNs HB.out _⟩

theorem lright_at {S : Nat → Prop} (a : Option Addr) (l : Lt) (c : Nat) (ahead : Nat) (w : World) (hl : Lies S w a (intsC l.ins)) :
    Calls Try.prog 19 #[.agg #[.slice a l.ins.length c, .int .i64 l.table], .int .i64 ahead] w fun e w' => e = .returned (.bool (rightL ahead l)) ∧ Below w.heap.size w w' := by
  by_cases h : l.ins.length ≤ 4
  · cases hr : inR l.table (pow4 l.ins.length : Nat) with
    | false => have := lright_tbl a l.ins.length c l.table ahead w h hr; simpa [rightL, h, hr] using this
    | true =>
      by_cases h0 : 0 < l.ins.length
      · have := lright_ins a l.ins l.ins.length c l.table ahead w rfl h h0 hr hl
        simpa [rightL, h, hr] using this
      · have e : l.ins.length = 0 := by omega
        rw [e] at hr
        have := lright_none a c l.table ahead w hr
        have er : rightL ahead l = true := by simp [rightL, e, hr, outsTo]
        rw [er, e]; exact this
  · have := lright_big a l.ins.length c l.table ahead w (by omega)
    simpa [rightL, h] using this
end Go.Proofs.Ytacgepdmhdcdkaa
