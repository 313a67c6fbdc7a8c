/-
  What is proved: called with any net of tables and any text, rungworklaw.ImageWrites returns true (any net's bytes, and the net that any bytes are, are the document's), it panics nowhere, and each argument reads behind the call as it read before. Conditions: none beside the listed package variable, which the card ties to the program's text.
-/
import Derived.Test.YtgjjjagkbdbalaaDoorRows
import Derived.Test.YtgjjjagkbdbalaaDoorCards
import Derived.Test.YtgjjjagkbdbalaaDoorTie
import Derived.SevenTiedAt
import Derived.WalkKit
import Derived.ProofKit
import Derived.OpenShut
import Derived.ShutString
import Derived.ChangeOld
import Derived.Below
import Derived.Lay
import Derived.Stop.Joined
import Derived.HandedShaped
import Derived.Deep.Grids
import Derived.ChangeSlices
import Derived.LaidHandle
import Derived.MakeChecks
import Derived.Test.YtgjjjagkbdbalaaDoorIW
import Derived.Test.YtgjjjagkbdbalaaDoorIOpen
set_option linter.unusedSimpArgs false
set_option linter.unusedVariables false
namespace Go.Proofs.YtgjjjagkbdbalaaDoor.imageWrites
open Go.ChangeMaps (open_string shut_string)
open Go.ChangeShapes Go.WideShapes Go.ChangeAt Go.RowKit Go.Deep

theorem own : ownKnob Tryd.prog.godebug = none := by kernel_rfl
theorem laidOut : laidOutB Tryd.prog = true := by kernel_rfl
theorem et : Tryd.prog.globalNamed "errors.errorType" = some 0 := by kernel_rfl
theorem rt : (Tryd.prog.cutTypes.find? (·.1 == "internal/reflectlite.rtype")).map (·.2) = some 103 := by kernel_rfl
theorem oneRow : ((List.range Tryd.prog.types.size).filter fun t => Tryd.prog.rowNamed t [101, 114, 114, 111, 114]) = [37] := by kernel_rfl
abbrev plainL : List (String × DataW Unit) := Rows.imageWritesRow.laid.filter fun x => x.2.handleName?.isNone
theorem two {w : World} (h : laidMetH Tryd.prog Rows.imageWritesRow.laid w) : laidMet Tryd.prog plainL w ∧ handlesMet Tryd.prog (Rows.imageWritesRow.laid.filter fun x => x.2.handleName?.isSome) w := h
theorem hdl {W : World} (h : laidMetH Tryd.prog Rows.imageWritesRow.laid W) : W.cell? ⟨0, 0, none⟩ = some (.iface 103 (.agg #[.pointer (some ⟨1, 37, none⟩)])) := by
  obtain ⟨name, u, ty, e1, e2, e3, e4, e5⟩ := (two h).2 ("errors.errorType", Rows.laid_errors_errorType) (by simp [Rows.imageWritesRow, List.mem_filter]; kernel_rfl)
  have en : name = [101, 114, 114, 111, 114] := (Option.some.inj e1).symm
  subst en
  obtain rfl := Option.some.inj (rt.symm.trans e2)
  have hm : ty ∈ (List.range Tryd.prog.types.size).filter fun t => Tryd.prog.rowNamed t [101, 114, 114, 111, 114] := List.mem_filter.2 ⟨List.mem_range.2 e3, e4⟩
  rw [oneRow] at hm
  obtain rfl := List.mem_singleton.1 hm
  have hh : typeHandle Tryd.prog 37 = .pointer (some ⟨1, 37, none⟩) := by kernel_rfl
  rw [hh] at e5
  simpa using World.var?_cell et e5 0
noncomputable def base0 (os : Os) : World :=
  let w0 := World.holding Tryd.prog os ⟨#[], #[], []⟩
  { w0 with heap := w0.heap.modify 0 fun
      | .cells _ t frozen => .cells #[.iface 103 (.agg #[.pointer (some ⟨1, 37, none⟩)])] t frozen
      | o => o }
noncomputable def start (os : Os) : World := (base0 os).layVars Tryd.prog plainL
theorem start_os (os : Os) : (start os).os = os := World.layVars_os _ _ _
theorem start_plain (os : Os) : laidMet Tryd.prog plainL (start os) := by
  have e1 : (plainL.filter fun x => (plainL.map (·.1)).contains x.1) = plainL := List.filter_eq_self.2 fun x hx => List.contains_iff_mem.2 (List.mem_map.2 ⟨x, hx, rfl⟩)
  have e2 : (plainL.filter fun x => !(plainL.map (·.1)).contains x.1) = [] := List.filter_eq_nil_iff.2 fun x hx => by rw [List.contains_iff_mem.2 (List.mem_map.2 ⟨x, hx, rfl⟩)]; simp
  exact laidMet_layVars (w0 := base0 os) (plainL.map (·.1)) [] (by rw [e1]; rfl) (by rw [e1]; kernel_rfl) (by rw [e1]; kernel_rfl) (by rw [e2]; exact LaidIn.none)
theorem start_met (os : Os) (args : Array Value) : laidMetH Tryd.prog Rows.imageWritesRow.laid ((start os).forCall (fun _ _ => 0) ⟨#[], args, []⟩).memory :=
  laidMetH_of_parts ((start_plain os).of_heap (by simp [World.memory, World.forCall, Input.heap])) (by kernel_rfl)
theorem walk (given : Int) (rs : List Rg) (ls : List Lt) (os : List Int) (ra la oa : Option Addr) (rc lc oc : Nat) (A : Nat → Option Addr) (C : Nat → Nat) (l : ByteArray) (w : World) (hr : Lies AnyB w ra (rgsC rs)) (hl : LutsAt AnyB w la A C ls) (ho : Lies AnyB w oa (intsC os)) (hdl : w.cell? ⟨0, 0, none⟩ = some (.iface 103 (.agg #[.pointer (some ⟨1, 37, none⟩)]))) :
    Calls Tryd.prog 3 #[.agg #[.int .i64 given, .slice ra rs.length rc, .slice la ls.length lc, .slice oa os.length oc], .string l] w fun e w' => e = .returned (.bool true) ∧ Below w.heap.size w w' := by
  by_cases hbg : (40 : Int) < (rs.length : Int) ∨ (60 : Int) < (ls.length : Int) ∨ (40 : Int) < (os.length : Int) ∨ ((1000 : Int) < given ∧ given ≤ 20000)
  · exact iw_big given rs ls os.length ra la oa rc lc oc l w hbg
  · have h := iw_at given rs ls os ra la oa rc lc oc A C l.data.toList w hr hl ho hdl (by omega) (by omega) (by omega) (by omega)
    rwa [show (⟨l.data.toList.toArray⟩ : ByteArray) = l by cases l; simp] at h

set_option maxRecDepth 100000 in
theorem lifted (os : Os) (started : os.Started) (H : Type) (enc : TypeId × Value → H) :
    ReturnsInHanded {} Tryd.checked os 3 .any (fun w args => (Rows.imageWritesSpec.pre enc Tryd.prog Tryd.f3 Rows.imageWritesRow.domain false w args ∧ laidMetH Tryd.prog Rows.imageWritesRow.laid w) ∧ sizedMet enc Tryd.prog Tryd.f3 (OpenSpec.ofChange Rows.imageWritesSpec) false w args)
      (Rows.imageWritesSpec.post enc Tryd.prog Tryd.f3 false true false false) := by
  refine returnsInHanded_of_change_and (C := Tryd.checked) (X := fun w _ => laidMetH Tryd.prog Rows.imageWritesRow.laid w) (fun _ _ _ hh h => h.of_heap hh) own started (by kernel_rfl) Tryd.func3
    (ChangeSpec.witness_shaped (enc := enc) (C := Tryd.checked) (os := os) (X := fun w _ => laidMetH Tryd.prog Rows.imageWritesRow.laid w) false (start os) #[.agg #[.int .i64 0, .slice none 0 0, .slice none 0 0, .slice none 0 0], .string ⟨#[]⟩] 8 (start_os _) (World.shaped_of_ZipB (by kernel_rfl) (by kernel_rfl)) (by kernel_rfl) (by kernel_rfl) (by kernel_rfl) (start_met os _)) ?_
  intro W base args ds gs before hval0 hW _ _ hL _
  have hval : ∀ (j : Nat) t v, Tryd.f3.params[j]? = some t → args[j]? = some v → Value.okWide Tryd.prog W .any base t v := hval0
  have hW' := hW
  obtain ⟨p, q, hA0, hV, rfl, hfz, hnd⟩ := hW
  have hA : DataW.TrodAll enc Tryd.prog W 0 (fun _ => true) true Tryd.f3.params.toList args.toList ds p := hA0
  rw [Tryd.params3] at hA hval
  obtain ⟨v0, vs0, d0, ds0, p0, q0, hargs, rfl, rfl, h0, r0⟩ := trodAll_cons hA
  obtain ⟨v1, vs1, d1, ds1, p1, q1, rfl, rfl, rfl, h1, r1⟩ := trodAll_cons r0
  obtain ⟨rfl, rfl, rfl⟩ := trodAll_nil r1
  obtain rfl : args = #[v0, v1] := by cases args; simp_all
  obtain ⟨rfl, rfl⟩ := trodVars_none hV
  obtain ⟨given, rs, ls, oss, ra, la, oa, rc, lc, oc, A, C, hv0, hr, hl, ho⟩ := open_net (hval 0 26 v0 rfl rfl) h0
  obtain ⟨s, rfl, rfl, rfl, w1⟩ := open_string Tryd.underlying9 (hval 1 9 v1 rfl rfl) h1
  have lt0 : ∀ x ∈ p0, x.block < W.heap.size := by obtain ⟨m, hm⟩ := h0; exact DataW.trod_lt m _ _ _ hm
  clear hA0 hval0
  have hwalk := walk given rs ls oss ra la oa rc lc oc A C s W hr hl ho (hdl hL)
  rw [← hv0] at hwalk
  refine hwalk.mono fun e W' ⟨he, bel⟩ => ?_
  subst he
  exact ⟨_, rfl, _, _, _, [], _, [], hW', trodAll_mk1 (shut_bool Tryd.underlying4 _), (trodAll_cons_mk (Below.trod laidOut (by kernel_rfl) (of_decide_eq_true (by kernel_rfl)) h0 bel lt0) (trodAll_cons_mk (shut_string Tryd.underlying9 w1) trodAll_mk0)), rfl, bel.frame _, fun h => by cases h⟩

theorem over : Rows.ImageWritesSaid :=
  OpenClaim.holds_of_wide 3 Tryd.f3 rfl rfl rfl rfl rfl rfl rfl ⟨rfl, rfl, rfl, rfl, rfl⟩ rfl rfl rfl rfl rfl (by kernel_rfl) Tryd.func3 (by kernel_rfl)
    (of_decide_eq_true (by kernel_rfl)) (by unfold Func.isWrapper; first | (rw [if_pos (by decide +kernel)]; kernel_rfl) | (rw [if_neg (by decide +kernel)]; exact ⟨rfl, rfl⟩))
    (fun os started H enc _ => lifted os started H enc)

theorem proved : Rows.ImageWritesCardSaid :=
  Claim7.holds_tied_plain_at .later [] [.handle] true (true, "9abc7d4e048cbae6bafd01980f7caa4a4016b91ceaaa9cd5e8e0c08686f72751") true
    over (fun _ h => by cases h) (by kernel_rfl) (fun _ h => by cases h) imageWrites_row_tie rfl ⟨rfl, rfl⟩ (by kernel_rfl) rfl
    (fun f fn hf hfn => by
      obtain rfl : f = 3 := Option.some.inj ((show Tryd.prog.funcNamed "rungwork/rungworklaw.ImageWrites" = some 3 by kernel_rfl).symm.trans hf) |>.symm
      obtain rfl : fn = Tryd.f3 := (Option.some.inj (Tryd.func3.symm.trans hfn)).symm
      exact ⟨by kernel_rfl, fun j t ht => by
        rw [Tryd.params3] at ht
        rcases j with _ | _ | j
        · have h9 : t = 26 := by simpa using ht.symm
          subst h9
          exact (show Tryd.prog.wantsStandIn 26 = false by kernel_rfl)
        · have h9 : t = 9 := by simpa using ht.symm
          subst h9
          exact (show Tryd.prog.wantsStandIn 9 = false by kernel_rfl)
        · simp at ht⟩)
    (by kernel_rfl)
end Go.Proofs.YtgjjjagkbdbalaaDoor.imageWrites
namespace Go.Proofs.YtgjjjagkbdbalaaDoor
theorem imageWrites_holds : Rows.ImageWritesCardSaid := imageWrites.proved
#print axioms imageWrites_holds
end Go.Proofs.YtgjjjagkbdbalaaDoor
