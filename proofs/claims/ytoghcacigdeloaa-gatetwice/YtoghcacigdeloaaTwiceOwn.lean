/-
  What is proved: called with any net and any rows of bits, rungworkkeep.GateTwice returns true (a net whose outs are turned twice lets out the same, with as many gates more; what is given beyond is not seen; and it begins anew as it began), it panics nowhere, and each argument reads behind the call as it read before. Conditions: none.
-/
import Derived.Test.YtoghcacigdeloaaRows
import Derived.WalkKit
import Derived.ProofKit
import Derived.OpenShut
import Derived.ShutString
import Derived.ChangeOld
import Derived.Below
import Derived.Deep.Grids
import Derived.Test.YtoghcacigdeloaaGOpen
import Derived.Test.YtoghcacigdeloaaGTw
namespace Go.Proofs.Ytoghcacigdeloaa.gateTwice
open Go.ChangeShapes Go.WideShapes Go.ChangeAt Go.RowKit Go.Deep
set_option linter.unusedVariables false

theorem own : ownKnob Try.prog.godebug = none := by kernel_rfl
theorem laidOut : laidOutB Try.prog = true := by kernel_rfl

theorem walk (given : Int) (ns : List Nd) (os : List Int) (na oa ga : Option Addr) (nc oc gc : Nat) (A : Nat → Option Addr) (C : Nat → Nat) (gs : List (List Bool)) (w : World) (hn : Lies AnyB w na (ndsC ns)) (ho : Lies AnyB w oa (intsC os)) (hgr : Grid w ga A C gs) :
    Calls Try.prog 3 #[.agg #[.int .i64 given, .slice na ns.length nc, .slice oa os.length oc], .slice ga gs.length gc] w fun e w' => e = .returned (.bool true) ∧ Below w.heap.size w w' := by
  cases hs : smallP given ns.length os.length with
  | false => exact tw_big given ns os na oa ga nc oc gc A C gs w hs
  | true =>
    by_cases h20 : (20 : Int) < (gs.length : Int)
    · exact tw_long given ns os na oa ga nc oc gc A C gs w hs h20
    · cases hr : rightP given ns os with
      | false => exact tw_wrong given ns os na oa ga nc oc gc A C gs w hn ho hs (by omega) hr
      | true => exact tw_right_at given ns os na oa ga nc oc gc A C gs w hn ho hgr hs (by omega) hr

/-! ### the row's step -/
set_option maxRecDepth 100000 in
theorem lifted (os : Os) (started : os.Started) (H : Type) (enc : TypeId × Value → H) :
    ReturnsInHanded {} Try.checked os 3 .any (Rows.gateTwiceSpec.pre6 enc Try.prog Try.f3 Rows.gateTwiceRow.domain false) (Rows.gateTwiceSpec.post enc Try.prog Try.f3 false true false false) := by
  refine returnsInHanded_of_change (C := Try.checked) own started (by kernel_rfl) Try.func3
    (ChangeSpec.witness6 (enc := enc) (C := Try.checked) false ⟨#[], #[.agg #[.int .i64 0, .slice none 0 0, .slice none 0 0], .slice none 0 0], []⟩ 8 (by kernel_rfl) (by kernel_rfl) (by kernel_rfl) (by kernel_rfl)) ?_
  intro W base args ds gs before hval0 hW hcnd _
  have hval : ∀ (j : Nat) t v, Try.f3.params[j]? = some t → args[j]? = some v → Value.okWide Try.prog W .any base t v := hval0
  have hW' := hW
  obtain ⟨p, q, hA0, hV, rfl, hfz, hnd⟩ := hW
  have hA : DataW.TrodAll enc Try.prog W 0 (fun _ => true) true Try.f3.params.toList args.toList ds p := hA0
  rw [Try.params3] at hA hval
  obtain ⟨v0, vs0, d0, ds0, p0, q0, hargs, rfl, rfl, h0, r0⟩ := trodAll_cons hA
  obtain ⟨v1, vs1, d1, ds1, p1, q1, rfl, rfl, rfl, h1, r1⟩ := trodAll_cons r0
  obtain ⟨rfl, rfl, rfl⟩ := trodAll_nil r1
  obtain rfl : args = #[v0, v1] := by cases args; simp_all
  obtain ⟨rfl, rfl⟩ := trodVars_none hV
  obtain ⟨given, ns, oss, na, oa, nc, oc, hv0, hn, ho⟩ := open_net (hval 0 25 v0 rfl rfl) h0
  obtain ⟨ga, gc, A, C, gss, hv1, hgr⟩ := open_grid (hval 1 26 v1 rfl rfl) h1
  have lt0 : ∀ x ∈ p0, x.block < W.heap.size := by obtain ⟨m, hm⟩ := h0; exact DataW.trod_lt m _ _ _ hm
  have lt1 : ∀ x ∈ p1, x.block < W.heap.size := by obtain ⟨m, hm⟩ := h1; exact DataW.trod_lt m _ _ _ hm
  clear hA0 hval0
  have hwalk := walk given ns oss na oa ga nc oc gc A C gss W hn ho hgr
  rw [← hv0, ← hv1] at hwalk
  refine hwalk.mono fun e W' ⟨he, bel⟩ => ?_
  subst he
  exact ⟨_, rfl, _, _, _, [], _, [], hW', trodAll_mk1 (shut_bool Try.underlying4 _), (trodAll_cons_mk (Below.trod laidOut (by kernel_rfl) (of_decide_eq_true (by kernel_rfl)) h0 bel lt0) (trodAll_cons_mk (Below.trod laidOut (by kernel_rfl) (of_decide_eq_true (by kernel_rfl)) h1 bel lt1) trodAll_mk0)), rfl, bel.frame _, fun h => by cases h⟩

theorem over : Rows.gateTwiceRow.holds Try.pinned (OpenSpec.ofChange Rows.gateTwiceSpec) :=
  OpenClaim.holds_of_wide 3 Try.f3 rfl rfl rfl rfl rfl rfl rfl ⟨rfl, rfl, rfl, rfl, rfl⟩ rfl rfl rfl rfl rfl (by kernel_rfl) Try.func3 (by kernel_rfl)
    (of_decide_eq_true (by kernel_rfl)) (by unfold Func.isWrapper; first | (rw [if_pos (by decide +kernel)]; kernel_rfl) | (rw [if_neg (by decide +kernel)]; exact ⟨rfl, rfl⟩))
    (fun os started H enc _ => lifted os started H enc)

theorem proved : Rows.GateTwiceSaid := over
end Go.Proofs.Ytoghcacigdeloaa.gateTwice
namespace Go.Proofs.Ytoghcacigdeloaa
theorem gateTwice_holds : Rows.GateTwiceSaid := gateTwice.proved
#print axioms gateTwice_holds
end Go.Proofs.Ytoghcacigdeloaa
