/-
  What is proved: called with any row of nodes and any row of outs, rungworkkeep.CleanKnown returns true (a net with nothing given and no register, cleaned, has no gate left, is right, and lets out the same), it panics nowhere, and each argument reads behind the call as it read before. Conditions: none.
-/
import Derived.Test.YtlnmemeejgnbeaaRows
import Derived.WalkKit
import Derived.ProofKit
import Derived.OpenShut
import Derived.ShutString
import Derived.ChangeOld
import Derived.Below
import Derived.Test.YtlnmemeejgnbeaaGOpenK
import Derived.Test.YtlnmemeejgnbeaaClKw
namespace Go.Proofs.Ytlnmemeejgnbeaa.cleanKnown
open Go.ChangeShapes Go.WideShapes Go.ChangeAt Go.RowKit Go.Deep
set_option linter.unusedVariables false

theorem own : ownKnob Try.prog.godebug = none := by kernel_rfl
theorem laidOut : laidOutB Try.prog = true := by kernel_rfl

theorem walk (ls : List Nd) (ol : List Int) (la oa : Option Addr) (lc oc : Nat) (w : World) (hl : Lies AnyB w la (ndsC ls)) (ho : Lies AnyB w oa (intsC ol)) :
    Calls Try.prog 3 #[.slice la ls.length lc, .slice oa ol.length oc] w fun e w' => e = .returned (.bool true) ∧ Below w.heap.size w w' := by
  by_cases h1 : (60 : Int) < (ls.length : Int)
  · exact ck_long ls ol la oa lc oc w h1
  · by_cases h2 : (20 : Int) < (ol.length : Int)
    · exact ck_many ls ol la oa lc oc w h1 h2
    · exact ck_main ls ol la oa lc oc w hl ho h1 h2

/-! ### the row's step -/
set_option maxRecDepth 100000 in
theorem lifted (os : Os) (started : os.Started) (H : Type) (enc : TypeId × Value → H) :
    ReturnsInHanded {} Try.checked os 3 .any (Rows.cleanKnownSpec.pre6 enc Try.prog Try.f3 Rows.cleanKnownRow.domain false) (Rows.cleanKnownSpec.post enc Try.prog Try.f3 false true false false) := by
  refine returnsInHanded_of_change (C := Try.checked) own started (by kernel_rfl) Try.func3
    (ChangeSpec.witness6 (enc := enc) (C := Try.checked) false ⟨#[], #[.slice none 0 0, .slice none 0 0], []⟩ 8 (by kernel_rfl) (by kernel_rfl) (by kernel_rfl) (by kernel_rfl)) ?_
  intro W base args ds gs before hval0 hW hcnd _
  have hval : ∀ (j : Nat) t v, Try.f3.params[j]? = some t → args[j]? = some v → Value.okWide Try.prog W .any base t v := hval0
  have hW' := hW
  obtain ⟨p, q, hA0, hV, rfl, hfz, hnd⟩ := hW
  have hA : DataW.TrodAll enc Try.prog W 0 (fun _ => true) true Try.f3.params.toList args.toList ds p := hA0
  rw [Try.params3] at hA hval
  obtain ⟨v0, vs0, d0, ds0, p0, q0, hargs, rfl, rfl, h0, r0⟩ := trodAll_cons hA
  obtain ⟨v1, vs1, d1, ds1, p1, q1, rfl, rfl, rfl, h1, r1⟩ := trodAll_cons r0
  obtain ⟨rfl, rfl, rfl⟩ := trodAll_nil r1
  obtain rfl : args = #[v0, v1] := by cases args; simp_all
  obtain ⟨rfl, rfl⟩ := trodVars_none hV
  obtain ⟨la, lc, ls, hv0, hl⟩ := open_nodes (hval 0 22 v0 rfl rfl) h0
  obtain ⟨oa, oc, ol, hv1, ho⟩ := open_ints (hval 1 23 v1 rfl rfl) h1
  have lt0 : ∀ x ∈ p0, x.block < W.heap.size := by obtain ⟨m, hm⟩ := h0; exact DataW.trod_lt m _ _ _ hm
  have lt1 : ∀ x ∈ p1, x.block < W.heap.size := by obtain ⟨m, hm⟩ := h1; exact DataW.trod_lt m _ _ _ hm
  clear hA0 hval0
  have hwalk := walk ls ol la oa lc oc W hl ho
  rw [← hv0, ← hv1] at hwalk
  refine hwalk.mono fun e W' ⟨he, bel⟩ => ?_
  subst he
  exact ⟨_, rfl, _, _, _, [], _, [], hW', trodAll_mk1 (shut_bool Try.underlying4 _), (trodAll_cons_mk (Below.trod laidOut (by kernel_rfl) (of_decide_eq_true (by kernel_rfl)) h0 bel lt0) (trodAll_cons_mk (Below.trod laidOut (by kernel_rfl) (of_decide_eq_true (by kernel_rfl)) h1 bel lt1) trodAll_mk0)), rfl, bel.frame _, fun h => by cases h⟩

theorem over : Rows.cleanKnownRow.holds Try.pinned (OpenSpec.ofChange Rows.cleanKnownSpec) :=
  OpenClaim.holds_of_wide 3 Try.f3 rfl rfl rfl rfl rfl rfl rfl ⟨rfl, rfl, rfl, rfl, rfl⟩ rfl rfl rfl rfl rfl (by kernel_rfl) Try.func3 (by kernel_rfl)
    (of_decide_eq_true (by kernel_rfl)) (by unfold Func.isWrapper; first | (rw [if_pos (by decide +kernel)]; kernel_rfl) | (rw [if_neg (by decide +kernel)]; exact ⟨rfl, rfl⟩))
    (fun os started H enc _ => lifted os started H enc)

theorem proved : Rows.CleanKnownSaid := over
end Go.Proofs.Ytlnmemeejgnbeaa.cleanKnown
namespace Go.Proofs.Ytlnmemeejgnbeaa
theorem cleanKnown_holds : Rows.CleanKnownSaid := cleanKnown.proved
#print axioms cleanKnown_holds
end Go.Proofs.Ytlnmemeejgnbeaa
