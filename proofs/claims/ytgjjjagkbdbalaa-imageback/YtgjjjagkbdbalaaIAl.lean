/-
  CONTRACTS of alike, pick.
-/
import Derived.Test.YtgjjjagkbdbalaaIEq
import Derived.Test.YtgjjjagkbdbalaaIPlain
set_option linter.unusedSimpArgs false
set_option linter.unusedVariables false
namespace Go.Proofs.Ytgjjjagkbdbalaa
open Go.RowKit

set_option maxRecDepth 100000 in
set_option maxHeartbeats 6400000 in
theorem alike_at {S T : Nat → Prop} {p q : NetQ} {w : World} {gn : Nat} {rs : List Rg} {ls : List Lt} {os : List Int} (h : NetT p S w gn rs ls os) (k : NetT q T w gn rs ls os) (hr : RightT gn rs ls os) :
    Calls Try.prog 10 #[.pointer (some ⟨p.p, 0, none⟩), .pointer (some ⟨q.p, 0, none⟩)] w fun e w' => e = .returned (.bool true) ∧ Below w.heap.size w w' := by
  have h1 := hr.g1
  have h2 := hr.r1
  have h3 := hr.l1
  have h4 := hr.o1
  have HI : Hid (∀ l ∈ ls, l.ins.length ≤ 100000) := hide fun l hl => by have := (hr.lut hl).1; omega
  have a0 := cell_regrown h.c0
  have a1 := cell_regrown h.c1
  have a2 := cell_regrown h.c2
  have a3 := cell_regrown h.c3
  have b0 := cell_regrown k.c0
  have b1 := cell_regrown k.c1
  have b2 := cell_regrown k.c2
  have b3 := cell_regrown k.c3
  have HCA : Hid (∀ d o, Calls Try.prog 21 #[.slice p.ra rs.length p.rc, .slice q.ra rs.length q.rc] (Sort.grow (redrawn w d) o) fun e w'' => e = .returned (.bool true) ∧ ∃ z : Regrown, w'' = Sort.grow (redrawn w z.d) z.os) := hide fun d o => Calls.regrown_of (equalR_at rs p.ra q.ra p.rc q.rc _ (h.regs.below (below_regrown w d o)) (k.regs.below (below_regrown w d o)) (by omega))
  have HCB : Hid (∀ d o, Calls Try.prog 22 #[.slice p.oa os.length p.oc, .slice q.oa os.length q.oc] (Sort.grow (redrawn w d) o) fun e w'' => e = .returned (.bool true) ∧ ∃ z : Regrown, w'' = Sort.grow (redrawn w z.d) z.os) := hide fun d o => Calls.regrown_of (equalI_at os p.oa q.oa p.oc q.oc _ (h.outs.below (below_regrown w d o)) (k.outs.below (below_regrown w d o)) (by omega))
  have HCC : Hid (∀ d o, Calls Try.prog 23 #[.slice p.la ls.length p.lc, .slice q.la ls.length q.lc, .func (.func 24) #[] #[]] (Sort.grow (redrawn w d) o) fun e w'' => e = .returned (.bool true) ∧ ∃ z : Regrown, w'' = Sort.grow (redrawn w z.d) z.os) := hide fun d o => Calls.regrown_of (equalL_at ls p.la q.la p.lc q.lc p.A q.A p.C q.C _ (h.luts.below (below_regrown w d o)) (k.luts.below (below_regrown w d o)) (by omega) HI.out)
  clear h k hr
  go_enter Try.func10, Try.ntmps10
  go_wp2_with fail
  refine wp_region_quiet_below (by kernel_rfl) (by kernel_rfl) ?_
  repeat (quiet_step (first | with_reducible exact HCA.out _ _ | with_reducible exact HCB.out _ _ | with_reducible exact HCC.out _ _))
  refine wpQuiet_nil ?_
  intro _ hw'
  obtain ⟨⟨dq, osq⟩, hw''⟩ := hw'
  subst hw''
  have HB := hide (below_regrown w dq osq)
  clear a0 a1 a2 a3 b0 b1 b2 b3 HCA HCB HCC
  generalize Sort.grow (redrawn w dq) osq = w5 at *
  go_wp2_with fail
  go_ret
  exact ⟨rfl, HB.out⟩

theorem pick_val (a : Int) (n : Nat) (h0 : 0 < n) (h : n ≤ 100000) : ∃ k : Nat, k < n ∧ wrap64 ((IntKind.u64.wrap a).tmod (n : Int)) = (k : Int) := by
  have h1 : 0 ≤ IntKind.u64.wrap a := by rw [IntKind.wrap_u64]; exact Int.emod_nonneg _ (by omega)
  generalize IntKind.u64.wrap a = z at *
  rw [Int.tmod_eq_emod_of_nonneg h1]
  have h2 := Int.emod_nonneg z (show (n : Int) ≠ 0 by omega)
  have h3 := Int.emod_lt_of_pos z (show 0 < (n : Int) by omega)
  obtain ⟨k, hk⟩ := Int.eq_ofNat_of_zero_le h2
  refine ⟨k, by omega, ?_⟩
  rw [hk]
  unfold wrap64; omega

set_option maxRecDepth 100000 in
set_option maxHeartbeats 1600000 in
theorem pick_at (a : Int) (n : Nat) (h0 : 0 < n) (h : n ≤ 100000) (w : World) : Calls Try.prog 11 #[.int .i64 a, .int .i64 n] w fun e w' => (∃ k : Nat, k < n ∧ e = .returned (.int .i64 k)) ∧ w' = w := by
  obtain ⟨k, hk, he⟩ := pick_val a n h0 h
  have hn : IntKind.u64.wrap (n : Int) = (n : Int) := by rw [IntKind.wrap_u64]; omega
  have hz : ((n : Int) == 0) = false := by rw [beq_eq_false_iff_ne]; omega
  have HE := hide he
  have HK := hide hk
  clear hk he
  go_enter Try.func11, Try.ntmps11
  go_wp2_with fail
  rw [HE.out]
  go_ret
  exact ⟨⟨k, HK.out, rfl⟩, rfl⟩
end Go.Proofs.Ytgjjjagkbdbalaa
