/-
  What is proved: called with any two nets and any two lists of rows of bits, rungworkkeep.GateJoins returns true (two nets beside one another let out what each of them lets out alone), it panics nowhere, and each argument reads behind the call as it read before. Conditions: none.
-/
import Derived.Test.YtoghcacigdeloaaRows
import Derived.WalkKit
import Derived.ProofKit
import Derived.OpenShut
import Derived.ShutString
import Derived.ChangeOld
import Derived.Below
import Derived.Deep.Grids
import Derived.Test.YtoghcacigdeloaaGOpen
import Derived.Test.YtoghcacigdeloaaGJn
namespace Go.Proofs.Ytoghcacigdeloaa.gateJoins
open Go.ChangeShapes Go.WideShapes Go.ChangeAt Go.RowKit Go.Deep
set_option linter.unusedVariables false

theorem own : ownKnob Try.prog.godebug = none := by kernel_rfl
theorem laidOut : laidOutB Try.prog = true := by kernel_rfl

theorem walk (given given2 : Int) (ns ms : List Nd) (os mo : List Int) (na oa ma pa ga ha : Option Addr) (nc oc mc pc gc hc : Nat) (A A2 : Nat → Option Addr) (C C2 : Nat → Nat) (gs hs : List (List Bool)) (w : World) (hn : Lies AnyB w na (ndsC ns)) (ho : Lies AnyB w oa (intsC os)) (hm : Lies AnyB w ma (ndsC ms)) (hp : Lies AnyB w pa (intsC mo)) (hgr : Grid w ga A C gs) (hhr : Grid w ha A2 C2 hs) :
    Calls Try.prog 4 #[.agg #[.int .i64 given, .slice na ns.length nc, .slice oa os.length oc], .agg #[.int .i64 given2, .slice ma ms.length mc, .slice pa mo.length pc], .slice ga gs.length gc, .slice ha hs.length hc] w fun e w' => e = .returned (.bool true) ∧ Below w.heap.size w w' := by
  cases hs1 : smallP given ns.length os.length with
  | false => exact jn_bigA given given2 ns ms os mo na oa ma pa ga ha nc oc mc pc gc hc A A2 C C2 gs hs w hs1
  | true =>
    cases hs2 : smallP given2 ms.length mo.length with
    | false => exact jn_bigB given given2 ns ms os mo na oa ma pa ga ha nc oc mc pc gc hc A A2 C C2 gs hs w hn ho hm hp hs1 hs2
    | true =>
      by_cases h20 : (20 : Int) < (gs.length : Int)
      · exact jn_longA given given2 ns ms os mo na oa ma pa ga ha nc oc mc pc gc hc A A2 C C2 gs hs w hn ho hm hp hs1 hs2 h20
      · by_cases h21 : (20 : Int) < (hs.length : Int)
        · exact jn_longB given given2 ns ms os mo na oa ma pa ga ha nc oc mc pc gc hc A A2 C C2 gs hs w hn ho hm hp hs1 hs2 (by omega) h21
        · cases hr1 : rightP given ns os with
          | false => exact jn_wrongA given given2 ns ms os mo na oa ma pa ga ha nc oc mc pc gc hc A A2 C C2 gs hs w hn ho hm hp hs1 hs2 (by omega) (by omega) hr1
          | true =>
            cases hr2 : rightP given2 ms mo with
            | false => exact jn_wrongB given given2 ns ms os mo na oa ma pa ga ha nc oc mc pc gc hc A A2 C C2 gs hs w hn ho hm hp hs1 hs2 (by omega) (by omega) hr1 hr2
            | true => exact jn_right_at given given2 ns ms os mo na oa ma pa ga ha nc oc mc pc gc hc A A2 C C2 gs hs w hn ho hm hp hs1 hs2 (by omega) (by omega) hgr hhr hr1 hr2

/-! ### the row's step -/
set_option maxRecDepth 100000 in
theorem lifted (os : Os) (started : os.Started) (H : Type) (enc : TypeId × Value → H) :
    ReturnsInHanded {} Try.checked os 4 .any (Rows.gateJoinsSpec.pre6 enc Try.prog Try.f4 Rows.gateJoinsRow.domain false) (Rows.gateJoinsSpec.post enc Try.prog Try.f4 false true false false) := by
  refine returnsInHanded_of_change (C := Try.checked) own started (by kernel_rfl) Try.func4
    (ChangeSpec.witness6 (enc := enc) (C := Try.checked) false ⟨#[], #[.agg #[.int .i64 0, .slice none 0 0, .slice none 0 0], .agg #[.int .i64 0, .slice none 0 0, .slice none 0 0], .slice none 0 0, .slice none 0 0], []⟩ 8 (by kernel_rfl) (by kernel_rfl) (by kernel_rfl) (by kernel_rfl)) ?_
  intro W base args ds gs before hval0 hW hcnd _
  have hval : ∀ (j : Nat) t v, Try.f4.params[j]? = some t → args[j]? = some v → Value.okWide Try.prog W .any base t v := hval0
  have hW' := hW
  obtain ⟨p, q, hA0, hV, rfl, hfz, hnd⟩ := hW
  have hA : DataW.TrodAll enc Try.prog W 0 (fun _ => true) true Try.f4.params.toList args.toList ds p := hA0
  rw [Try.params4] at hA hval
  obtain ⟨v0, vs0, d0, ds0, p0, q0, hargs, rfl, rfl, h0, r0⟩ := trodAll_cons hA
  obtain ⟨v1, vs1, d1, ds1, p1, q1, rfl, rfl, rfl, h1, r1⟩ := trodAll_cons r0
  obtain ⟨v2, vs2, d2, ds2, p2, q2, rfl, rfl, rfl, h2, r2⟩ := trodAll_cons r1
  obtain ⟨v3, vs3, d3, ds3, p3, q3, rfl, rfl, rfl, h3, r3⟩ := trodAll_cons r2
  obtain ⟨rfl, rfl, rfl⟩ := trodAll_nil r3
  obtain rfl : args = #[v0, v1, v2, v3] := by cases args; simp_all
  obtain ⟨rfl, rfl⟩ := trodVars_none hV
  obtain ⟨given, ns, oss, na, oa, nc, oc, hv0, hn, ho⟩ := open_net (hval 0 25 v0 rfl rfl) h0
  obtain ⟨given2, ms, mo, ma, pa, mc, pc, hv1, hm, hp⟩ := open_net (hval 1 25 v1 rfl rfl) h1
  obtain ⟨ga, gc, A, C, gss, hv2, hgr⟩ := open_grid (hval 2 26 v2 rfl rfl) h2
  obtain ⟨ha, hc, A2, C2, hss, hv3, hhr⟩ := open_grid (hval 3 26 v3 rfl rfl) h3
  have lt0 : ∀ x ∈ p0, x.block < W.heap.size := by obtain ⟨m, hm⟩ := h0; exact DataW.trod_lt m _ _ _ hm
  have lt1 : ∀ x ∈ p1, x.block < W.heap.size := by obtain ⟨m, hm⟩ := h1; exact DataW.trod_lt m _ _ _ hm
  have lt2 : ∀ x ∈ p2, x.block < W.heap.size := by obtain ⟨m, hm⟩ := h2; exact DataW.trod_lt m _ _ _ hm
  have lt3 : ∀ x ∈ p3, x.block < W.heap.size := by obtain ⟨m, hm⟩ := h3; exact DataW.trod_lt m _ _ _ hm
  clear hA0 hval0
  have hwalk := walk given given2 ns ms oss mo na oa ma pa ga ha nc oc mc pc gc hc A A2 C C2 gss hss W hn ho hm hp hgr hhr
  rw [← hv0, ← hv1, ← hv2, ← hv3] at hwalk
  refine hwalk.mono fun e W' ⟨he, bel⟩ => ?_
  subst he
  exact ⟨_, rfl, _, _, _, [], _, [], hW', trodAll_mk1 (shut_bool Try.underlying4 _), (trodAll_cons_mk (Below.trod laidOut (by kernel_rfl) (of_decide_eq_true (by kernel_rfl)) h0 bel lt0) (trodAll_cons_mk (Below.trod laidOut (by kernel_rfl) (of_decide_eq_true (by kernel_rfl)) h1 bel lt1) (trodAll_cons_mk (Below.trod laidOut (by kernel_rfl) (of_decide_eq_true (by kernel_rfl)) h2 bel lt2) (trodAll_cons_mk (Below.trod laidOut (by kernel_rfl) (of_decide_eq_true (by kernel_rfl)) h3 bel lt3) trodAll_mk0)))), rfl, bel.frame _, fun h => by cases h⟩

theorem over : Rows.gateJoinsRow.holds Try.pinned (OpenSpec.ofChange Rows.gateJoinsSpec) :=
  OpenClaim.holds_of_wide 4 Try.f4 rfl rfl rfl rfl rfl rfl rfl ⟨rfl, rfl, rfl, rfl, rfl⟩ rfl rfl rfl rfl rfl (by kernel_rfl) Try.func4 (by kernel_rfl)
    (of_decide_eq_true (by kernel_rfl)) (by unfold Func.isWrapper; first | (rw [if_pos (by decide +kernel)]; kernel_rfl) | (rw [if_neg (by decide +kernel)]; exact ⟨rfl, rfl⟩))
    (fun os started H enc _ => lifted os started H enc)

theorem proved : Rows.GateJoinsSaid := over
end Go.Proofs.Ytoghcacigdeloaa.gateJoins
namespace Go.Proofs.Ytoghcacigdeloaa
theorem gateJoins_holds : Rows.GateJoinsSaid := gateJoins.proved
#print axioms gateJoins_holds
end Go.Proofs.Ytoghcacigdeloaa
