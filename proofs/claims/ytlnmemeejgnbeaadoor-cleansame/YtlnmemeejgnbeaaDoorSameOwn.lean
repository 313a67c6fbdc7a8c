/-
  What is proved: called with any net and any rows of bits, rungworkkeep.CleanSame returns true (a net that is cleaned has no more gates, and no more nodes, and lets out the same, cycle by cycle, whatever is given; cleaned again it has no more; a net that may not be is refused), it panics nowhere, and each argument reads behind the call as it read before. Conditions: errors.errorType holds what its text says (the card ties it).
-/
import Derived.Test.YtlnmemeejgnbeaaDoorRows
import Derived.Test.YtlnmemeejgnbeaaDoorCards
import Derived.Test.YtlnmemeejgnbeaaDoorTie
import Derived.SevenTiedAt
import Derived.WalkKit
import Derived.ProofKit
import Derived.OpenShut
import Derived.ShutString
import Derived.ChangeOld
import Derived.Below
import Derived.Lay
import Derived.Stop.Joined
import Derived.HandedShaped
import Derived.Deep.Grids
import Derived.ChangeSlices
import Derived.LaidHandle
import Derived.MakeChecks
import Derived.Test.YtlnmemeejgnbeaaDoorClSame
import Derived.Test.YtlnmemeejgnbeaaDoorGOpenD
set_option linter.unusedSimpArgs false
set_option linter.unusedVariables false
namespace Go.Proofs.YtlnmemeejgnbeaaDoor.cleanSame
open Go.ChangeShapes Go.WideShapes Go.ChangeAt Go.RowKit Go.Deep

theorem own : ownKnob Tryd.prog.godebug = none := by kernel_rfl
theorem laidOut : laidOutB Tryd.prog = true := by kernel_rfl
theorem et : Tryd.prog.globalNamed "errors.errorType" = some 0 := by kernel_rfl
theorem rt : (Tryd.prog.cutTypes.find? (·.1 == "internal/reflectlite.rtype")).map (·.2) = some 85 := by kernel_rfl
theorem oneRow : ((List.range Tryd.prog.types.size).filter fun t => Tryd.prog.rowNamed t [101, 114, 114, 111, 114]) = [31] := by kernel_rfl
abbrev plainL : List (String × DataW Unit) := Rows.cleanSameRow.laid.filter fun x => x.2.handleName?.isNone
theorem two {w : World} (h : laidMetH Tryd.prog Rows.cleanSameRow.laid w) : laidMet Tryd.prog plainL w ∧ handlesMet Tryd.prog (Rows.cleanSameRow.laid.filter fun x => x.2.handleName?.isSome) w := h
theorem hdl {W : World} (h : laidMetH Tryd.prog Rows.cleanSameRow.laid W) : W.cell? ⟨0, 0, none⟩ = some (.iface 85 (.agg #[.pointer (some ⟨1, 31, none⟩)])) := by
  obtain ⟨name, u, ty, e1, e2, e3, e4, e5⟩ := (two h).2 ("errors.errorType", Rows.laid_errors_errorType) (by simp [Rows.cleanSameRow, List.mem_filter]; kernel_rfl)
  have en : name = [101, 114, 114, 111, 114] := (Option.some.inj e1).symm
  subst en
  obtain rfl := Option.some.inj (rt.symm.trans e2)
  have hm : ty ∈ (List.range Tryd.prog.types.size).filter fun t => Tryd.prog.rowNamed t [101, 114, 114, 111, 114] := List.mem_filter.2 ⟨List.mem_range.2 e3, e4⟩
  rw [oneRow] at hm
  obtain rfl := List.mem_singleton.1 hm
  have hh : typeHandle Tryd.prog 31 = .pointer (some ⟨1, 31, none⟩) := by kernel_rfl
  rw [hh] at e5
  simpa using World.var?_cell et e5 0
noncomputable def base0 (os : Os) : World :=
  let w0 := World.holding Tryd.prog os ⟨#[], #[], []⟩
  { w0 with heap := w0.heap.modify 0 fun
      | .cells _ t frozen => .cells #[.iface 85 (.agg #[.pointer (some ⟨1, 31, none⟩)])] t frozen
      | o => o }
noncomputable def start (os : Os) : World := (base0 os).layVars Tryd.prog plainL
theorem start_os (os : Os) : (start os).os = os := World.layVars_os _ _ _
theorem start_plain (os : Os) : laidMet Tryd.prog plainL (start os) := by
  have e1 : (plainL.filter fun x => (plainL.map (·.1)).contains x.1) = plainL := List.filter_eq_self.2 fun x hx => List.contains_iff_mem.2 (List.mem_map.2 ⟨x, hx, rfl⟩)
  have e2 : (plainL.filter fun x => !(plainL.map (·.1)).contains x.1) = [] := List.filter_eq_nil_iff.2 fun x hx => by rw [List.contains_iff_mem.2 (List.mem_map.2 ⟨x, hx, rfl⟩)]; simp
  exact laidMet_layVars (w0 := base0 os) (plainL.map (·.1)) [] (by rw [e1]; rfl) (by rw [e1]; kernel_rfl) (by rw [e1]; kernel_rfl) (by rw [e2]; exact LaidIn.none)
theorem start_met (os : Os) (args : Array Value) : laidMetH Tryd.prog Rows.cleanSameRow.laid ((start os).forCall (fun _ _ => 0) ⟨#[], args, []⟩).memory :=
  laidMetH_of_parts ((start_plain os).of_heap (by simp [World.memory, World.forCall, Input.heap])) (by kernel_rfl)
theorem walk (given : Int) (ns : List Nd) (os : List Int) (na oa ga : Option Addr) (nc oc gc : Nat) (A : Nat → Option Addr) (C : Nat → Nat) (gs : List (List Bool)) (w : World) (hn : Lies AnyB w na (ndsC ns)) (ho : Lies AnyB w oa (intsC os)) (hgr : Grid w ga A C gs) (hdl : w.cell? ⟨0, 0, none⟩ = some (.iface 85 (.agg #[.pointer (some ⟨1, 31, none⟩)]))) :
    Calls Tryd.prog 3 #[.agg #[.int .i64 given, .slice na ns.length nc, .slice oa os.length oc], .slice ga gs.length gc] w fun e w' => e = .returned (.bool true) ∧ Below w.heap.size w w' := by
  cases hs : smallP given ns.length os.length with
  | false => exact cs_big given ns os na oa ga nc oc gc A C gs w hs
  | true =>
    by_cases h20 : (20 : Int) < (gs.length : Int)
    · exact cs_long given ns os na oa ga nc oc gc A C gs w hs h20
    · cases hr : rightP given ns os with
      | false => exact cs_wrong given ns os na oa ga nc oc gc A C gs w hn ho hs h20 hr hdl
      | true => exact cs_right given ns os na oa ga nc oc gc A C gs w hn ho hgr hs h20 hr

set_option maxRecDepth 100000 in
theorem lifted (os : Os) (started : os.Started) (H : Type) (enc : TypeId × Value → H) :
    ReturnsInHanded {} Tryd.checked os 3 .any (fun w args => (Rows.cleanSameSpec.pre enc Tryd.prog Tryd.f3 Rows.cleanSameRow.domain false w args ∧ laidMetH Tryd.prog Rows.cleanSameRow.laid w) ∧ sizedMet enc Tryd.prog Tryd.f3 (OpenSpec.ofChange Rows.cleanSameSpec) false w args)
      (Rows.cleanSameSpec.post enc Tryd.prog Tryd.f3 false true false false) := by
  refine returnsInHanded_of_change_and (C := Tryd.checked) (X := fun w _ => laidMetH Tryd.prog Rows.cleanSameRow.laid w) (fun _ _ _ hh h => h.of_heap hh) own started (by kernel_rfl) Tryd.func3
    (ChangeSpec.witness_shaped (enc := enc) (C := Tryd.checked) (os := os) (X := fun w _ => laidMetH Tryd.prog Rows.cleanSameRow.laid w) false (start os) #[.agg #[.int .i64 0, .slice none 0 0, .slice none 0 0], .slice none 0 0] 8 (start_os _) (World.shaped_of_ZipB (by kernel_rfl) (by kernel_rfl)) (by kernel_rfl) (by kernel_rfl) (by kernel_rfl) (start_met os _)) ?_
  intro W base args ds gs before hval0 hW _ _ hL _
  have hval : ∀ (j : Nat) t v, Tryd.f3.params[j]? = some t → args[j]? = some v → Value.okWide Tryd.prog W .any base t v := hval0
  have hW' := hW
  obtain ⟨p, q, hA0, hV, rfl, hfz, hnd⟩ := hW
  have hA : DataW.TrodAll enc Tryd.prog W 0 (fun _ => true) true Tryd.f3.params.toList args.toList ds p := hA0
  rw [Tryd.params3] at hA hval
  obtain ⟨v0, vs0, d0, ds0, p0, q0, hargs, rfl, rfl, h0, r0⟩ := trodAll_cons hA
  obtain ⟨v1, vs1, d1, ds1, p1, q1, rfl, rfl, rfl, h1, r1⟩ := trodAll_cons r0
  obtain ⟨rfl, rfl, rfl⟩ := trodAll_nil r1
  obtain rfl : args = #[v0, v1] := by cases args; simp_all
  obtain ⟨rfl, rfl⟩ := trodVars_none hV
  obtain ⟨given, ns, oss, na, oa, nc, oc, hv0, hn, ho⟩ := open_net (hval 0 25 v0 rfl rfl) h0
  obtain ⟨ga, gc, A, C, gss, hv1, hgr⟩ := open_grid (hval 1 26 v1 rfl rfl) h1
  have lt0 : ∀ x ∈ p0, x.block < W.heap.size := by obtain ⟨m, hm⟩ := h0; exact DataW.trod_lt m _ _ _ hm
  have lt1 : ∀ x ∈ p1, x.block < W.heap.size := by obtain ⟨m, hm⟩ := h1; exact DataW.trod_lt m _ _ _ hm
  clear hA0 hval0
  have hwalk := walk given ns oss na oa ga nc oc gc A C gss W hn ho hgr (hdl hL)
  rw [← hv0, ← hv1] at hwalk
  refine hwalk.mono fun e W' ⟨he, bel⟩ => ?_
  subst he
  exact ⟨_, rfl, _, _, _, [], _, [], hW', trodAll_mk1 (shut_bool Tryd.underlying4 _), (trodAll_cons_mk (Below.trod laidOut (by kernel_rfl) (of_decide_eq_true (by kernel_rfl)) h0 bel lt0) (trodAll_cons_mk (Below.trod laidOut (by kernel_rfl) (of_decide_eq_true (by kernel_rfl)) h1 bel lt1) trodAll_mk0)), rfl, bel.frame _, fun h => by cases h⟩

theorem over : Rows.CleanSameSaid :=
  OpenClaim.holds_of_wide 3 Tryd.f3 rfl rfl rfl rfl rfl rfl rfl ⟨rfl, rfl, rfl, rfl, rfl⟩ rfl rfl rfl rfl rfl (by kernel_rfl) Tryd.func3 (by kernel_rfl)
    (of_decide_eq_true (by kernel_rfl)) (by unfold Func.isWrapper; first | (rw [if_pos (by decide +kernel)]; kernel_rfl) | (rw [if_neg (by decide +kernel)]; exact ⟨rfl, rfl⟩))
    (fun os started H enc _ => lifted os started H enc)

theorem proved : Rows.CleanSameCardSaid :=
  Claim7.holds_tied_plain_at .later [] [.handle] true (true, "5da89b02345e7573d5ad972a4ef4a2e985c56079efb78e05316aa0cd857b5320") true
    over (fun _ h => by cases h) (by kernel_rfl) (fun _ h => by cases h) cleanSame_row_tie rfl ⟨rfl, rfl⟩ (by kernel_rfl) rfl
    (fun f fn hf hfn => by
      obtain rfl : f = 3 := Option.some.inj ((show Tryd.prog.funcNamed "rungwork/rungworkkeep.CleanSame" = some 3 by kernel_rfl).symm.trans hf) |>.symm
      obtain rfl : fn = Tryd.f3 := (Option.some.inj (Tryd.func3.symm.trans hfn)).symm
      exact ⟨by kernel_rfl, fun j t ht => by
        rw [Tryd.params3] at ht
        rcases j with _ | _ | j
        · have h9 : t = 25 := by simpa using ht.symm
          subst h9
          exact (show Tryd.prog.wantsStandIn 25 = false by kernel_rfl)
        · have h9 : t = 26 := by simpa using ht.symm
          subst h9
          exact (show Tryd.prog.wantsStandIn 26 = false by kernel_rfl)
        · simp at ht⟩)
    (by kernel_rfl)
end Go.Proofs.YtlnmemeejgnbeaaDoor.cleanSame
namespace Go.Proofs.YtlnmemeejgnbeaaDoor
theorem cleanSame_holds : Rows.CleanSameCardSaid := cleanSame.proved
#print axioms cleanSame_holds
end Go.Proofs.YtlnmemeejgnbeaaDoor
