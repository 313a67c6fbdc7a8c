/-
  What is proved: called with any bytes, any types of what is given and comes out, any numbers that are given, cycle by cycle, and any text to load, rungworklaw.DeviceSteps returns true (which bytes may be put into a device, what comes out of it, cycle by cycle, and what it holds, is the document's), it panics nowhere, and each argument reads behind the call as it read before. Conditions: none beside the listed package variables, which the card ties to the program's text.
-/
import Derived.Test.YtndpehjbepfbkaaGreatDoorRows
import Derived.Test.YtndpehjbepfbkaaGreatDoorCards
import Derived.Test.YtndpehjbepfbkaaGreatDoorTie
import Derived.SevenTiedAt
import Derived.WalkKit
import Derived.ProofKit
import Derived.OpenShut
import Derived.ShutString
import Derived.ChangeOld
import Derived.Below
import Derived.Lay
import Derived.Stop.Joined
import Derived.HandedShaped
import Derived.Deep.Grids
import Derived.ChangeSlices
import Derived.LaidHandle
import Derived.MakeChecks
import Derived.Test.YtndpehjbepfbkaaGreatDoorDW
import Derived.Test.YtndpehjbepfbkaaGreatDoorDFacts
set_option linter.unusedSimpArgs false
set_option linter.unusedVariables false
namespace Go.Proofs.YtndpehjbepfbkaaGreatDoor
open Go.ChangeShapes Go.WideShapes Go.ChangeAt Go.RowKit Go.Deep
section
variable {H : Type} {enc : TypeId × Value → H} {w : World} {fuel : Nat} {cs : List Value} {x : DataW H × List MemPlace}
set_option maxRecDepth 100000 in
theorem open_intsL (h : DataW.trod enc Tryz.prog w 0 (fun _ => true) true fuel 22 cs = some x) : ∃ ao len cap, ∃ l : List Int, cs = [.slice ao len cap] ∧ l.length = len ∧ Lies AnyB w ao (intsC l) ∧ len ≤ cap ∧ cap ≤ maxLen := by
  rcases open_slice1 Tryz.underlying22 (by kernel_rfl) h with ⟨rfl, _⟩ | ⟨a, len, cap, m, n, V, D, Pl, rfl, _, hl, hm, hmm, _, hx⟩
  · exact ⟨none, 0, 0, [], rfl, rfl, .inl rfl, Nat.le_refl _, Nat.zero_le _⟩
  · simp only [if_true] at hmm
    subst hmm
    obtain ⟨B, hB⟩ := choose_lt (α := Int) (p := fun i b => V i = .int .i64 b) (fun i hi => by
      obtain ⟨b, h1, _⟩ := DataW.trod_int (k := .i64) Tryz.underlying3 (hx i hi).2
      exact ⟨b, by simpa using h1⟩)
    refine ⟨some a, len, m, (List.range len).map B, rfl, by simp, ?_, hl, hm⟩
    rcases Nat.eq_zero_or_pos len with h0 | h0
    · subst h0; exact .inl rfl
    · obtain ⟨b, off, spot⟩ := a
      have hspot : spot = none := by simpa [Addr.add] using World.cell?_spot (hx 0 (by omega)).1
      subst hspot
      refine .inr ⟨b, off, rfl, trivial, fun i u hu => ?_⟩
      have hi : i < len := by
        rcases Nat.lt_or_ge i len with h | h
        · exact h
        · rw [List.getElem?_eq_none (by simp [intsC]; omega)] at hu; cases hu
      have := (hx i (by omega)).1
      rw [Addr.add_lit] at this
      rw [this, hB i (by omega), ← hu]
      simp [intsC, hi]
end
set_option maxRecDepth 100000 in
theorem open_gridI {H : Type} {enc : TypeId × Value → H} {w : World} {r : Reach} {b0 : Nat} {v : Value} {d : DataW H} {p : List MemPlace} (hv : Value.okWide Tryz.prog w r b0 23 v) (h : DataW.Trod enc Tryz.prog w 0 (fun _ => true) true 23 v d p) :
    ∃ (ga : Option Addr) (gc : Nat) (A : Nat → Option Addr) (C : Nat → Nat) (gs : List (List Int)), v = .slice ga gs.length gc ∧ GridI w ga A C gs := by
  obtain ⟨ga, len, gc, rfl⟩ := okWide_slice Tryz.underlying23 hv
  obtain ⟨fuel, h⟩ := h
  rcases open_slice1 Tryz.underlying23 (by kernel_rfl) h with ⟨hcs, _⟩ | ⟨a, len', cap, m, n, V, D, Pl, hcs, _, hl, hm, hmm, _, hx⟩
  · simp [Value.cells] at hcs
    obtain ⟨rfl, rfl, rfl⟩ := hcs
    exact ⟨none, 0, fun _ => none, fun _ => 0, [], rfl, fun r hr => absurd hr (Nat.not_lt_zero _)⟩
  · simp [Value.cells] at hcs
    obtain ⟨rfl, rfl, rfl⟩ := hcs
    simp only [if_true] at hmm
    subst hmm
    obtain ⟨Y, hY⟩ := choose_lt (α := Option Addr × Nat × List Int) (p := fun i y => V i = .slice y.1 y.2.2.length y.2.1 ∧ Lies AnyB w y.1 (intsC y.2.2) ∧ y.2.2.length ≤ y.2.1 ∧ y.2.1 ≤ maxLen) (fun i hi => by
      obtain ⟨ao, l, c, bs, h1, h2, h3, h4, h5⟩ := open_intsL (hx i hi).2
      refine ⟨(ao, c, bs), ?_, h3, by show bs.length ≤ c; omega, h5⟩
      show V i = .slice ao bs.length c
      rw [h2]; simpa using h1)
    refine ⟨some a, m, fun r => (Y r).1, fun r => (Y r).2.1, (List.range len).map fun r => (Y r).2.2, by simp, fun r hr => ?_⟩
    simp at hr
    have hrow : rowI ((List.range len).map fun r => (Y r).2.2) r = (Y r).2.2 := by unfold rowI; simp [hr]
    rw [hrow]
    obtain ⟨h1, h2, h4, h5⟩ := hY r (by omega)
    refine ⟨?_, h2, Nat.le_trans h4 h5⟩
    obtain ⟨b, off, spot⟩ := a
    have hspot : spot = none := by simpa [Addr.add] using World.cell?_spot (hx 0 (by omega)).1
    subst hspot
    have := (hx r (by omega)).1
    rw [Addr.add_lit, h1] at this
    exact ⟨b, off, rfl, this⟩
set_option maxRecDepth 100000 in
theorem open_rowI {H : Type} {enc : TypeId × Value → H} {w : World} {r : Reach} {b0 : Nat} {v : Value} {d : DataW H} {p : List MemPlace} (hv : Value.okWide Tryz.prog w r b0 22 v) (h : DataW.Trod enc Tryz.prog w 0 (fun _ => true) true 22 v d p) :
    ∃ (ia : Option Addr) (ic : Nat) (ins : List Int), v = .slice ia ins.length ic ∧ Lies AnyB w ia (intsC ins) := by
  obtain ⟨ga, len, gc, rfl⟩ := okWide_slice Tryz.underlying22 hv
  obtain ⟨fuel, h⟩ := h
  obtain ⟨ao, l, c, bs, h1, h2, h3, h4, h5⟩ := open_intsL h
  simp [Value.cells] at h1
  obtain ⟨rfl, rfl, rfl⟩ := h1
  exact ⟨ga, gc, bs, by rw [h2], h3⟩
end Go.Proofs.YtndpehjbepfbkaaGreatDoor
namespace Go.Proofs.YtndpehjbepfbkaaGreatDoor.deviceSteps
open Go.ChangeMaps (open_string shut_string)
open Go.ChangeShapes Go.WideShapes Go.ChangeAt Go.RowKit Go.Deep

theorem own : ownKnob Tryz.prog.godebug = none := by kernel_rfl
theorem laidOut : laidOutB Tryz.prog = true := by kernel_rfl
theorem et : Tryz.prog.globalNamed "errors.errorType" = some 0 := by kernel_rfl
theorem rt : (Tryz.prog.cutTypes.find? (·.1 == "internal/reflectlite.rtype")).map (·.2) = some 171 := by kernel_rfl
theorem oneRow : ((List.range Tryz.prog.types.size).filter fun t => Tryz.prog.rowNamed t [101, 114, 114, 111, 114]) = [30] := by kernel_rfl
abbrev plainL : List (String × DataW Unit) := Rows.deviceStepsRow.laid.filter fun x => x.2.handleName?.isNone
theorem two {w : World} (h : laidMetH Tryz.prog Rows.deviceStepsRow.laid w) : laidMet Tryz.prog plainL w ∧ handlesMet Tryz.prog (Rows.deviceStepsRow.laid.filter fun x => x.2.handleName?.isSome) w := h
theorem hdl {W : World} (h : laidMetH Tryz.prog Rows.deviceStepsRow.laid W) : W.cell? ⟨0, 0, none⟩ = some (.iface 171 (.agg #[.pointer (some ⟨4, 30, none⟩)])) := by
  obtain ⟨name, u, ty, e1, e2, e3, e4, e5⟩ := (two h).2 ("errors.errorType", Rows.laid_errors_errorType) (by simp [Rows.deviceStepsRow, List.mem_filter]; kernel_rfl)
  have en : name = [101, 114, 114, 111, 114] := (Option.some.inj e1).symm
  subst en
  obtain rfl := Option.some.inj (rt.symm.trans e2)
  have hm : ty ∈ (List.range Tryz.prog.types.size).filter fun t => Tryz.prog.rowNamed t [101, 114, 114, 111, 114] := List.mem_filter.2 ⟨List.mem_range.2 e3, e4⟩
  rw [oneRow] at hm
  obtain rfl := List.mem_singleton.1 hm
  have hh : typeHandle Tryz.prog 30 = .pointer (some ⟨4, 30, none⟩) := by kernel_rfl
  rw [hh] at e5
  simpa using World.var?_cell et e5 0
noncomputable def base0 (os : Os) : World :=
  let w0 := World.holding Tryz.prog os ⟨#[], #[], []⟩
  { w0 with heap := w0.heap.modify 0 fun
      | .cells _ t frozen => .cells #[.iface 171 (.agg #[.pointer (some ⟨4, 30, none⟩)])] t frozen
      | o => o }
noncomputable def start (os : Os) : World := (base0 os).layVars Tryz.prog plainL
theorem start_os (os : Os) : (start os).os = os := World.layVars_os _ _ _
theorem start_plain (os : Os) : laidMet Tryz.prog plainL (start os) := by
  have e1 : (plainL.filter fun x => (plainL.map (·.1)).contains x.1) = plainL := List.filter_eq_self.2 fun x hx => List.contains_iff_mem.2 (List.mem_map.2 ⟨x, hx, rfl⟩)
  have e2 : (plainL.filter fun x => !(plainL.map (·.1)).contains x.1) = [] := List.filter_eq_nil_iff.2 fun x hx => by rw [List.contains_iff_mem.2 (List.mem_map.2 ⟨x, hx, rfl⟩)]; simp
  exact laidMet_layVars (w0 := base0 os) (plainL.map (·.1)) [] (by rw [e1]; rfl) (by rw [e1]; kernel_rfl) (by rw [e1]; kernel_rfl) (by rw [e2]; exact LaidIn.none)
theorem start_met (os : Os) (args : Array Value) : laidMetH Tryz.prog Rows.deviceStepsRow.laid ((start os).forCall (fun _ _ => 0) ⟨#[], args, []⟩).memory :=
  laidMetH_of_parts ((start_plain os).of_heap (by simp [World.memory, World.forCall, Input.heap])) (by kernel_rfl)
theorem walk (l ld : ByteArray) (ins outs : List Int) (ia oa ga : Option Addr) (ic oc gc : Nat) (A : Nat → Option Addr) (C : Nat → Nat) (gs : List (List Int)) (w : World) (hi : Lies AnyB w ia (intsC ins)) (ho : Lies AnyB w oa (intsC outs)) (hgr : GridI w ga A C gs) (hdl : EType w) :
    Calls Tryz.prog 3 #[.string l, .slice ia ins.length ic, .slice oa outs.length oc, .slice ga gs.length gc, .string ld] w fun e w' => e = .returned (.bool true) ∧ Below w.heap.size w w' := by
  have hsl : (l.size : Int) = (l.data.toList.length : Int) := by rw [Array.length_toList]; rfl
  have hsd : (ld.size : Int) = (ld.data.toList.length : Int) := by rw [Array.length_toList]; rfl
  by_cases hbg : (500 : Int) < (l.size : Int) ∨ (20 : Int) < (ins.length : Int) ∨ (20 : Int) < (outs.length : Int) ∨ (30 : Int) < (gs.length : Int) ∨ (100 : Int) < (ld.size : Int)
  · exact ds_big l ld ia oa ga ins.length ic outs.length oc gs.length gc w hbg
  · have h := ds_at l.data.toList ld.data.toList ins outs ia oa ga ic oc gc A C gs w hi ho hgr hdl (by omega) (by omega) (by omega) (by omega) (by omega)
    rwa [show (⟨l.data.toList.toArray⟩ : ByteArray) = l by cases l; simp, show (⟨ld.data.toList.toArray⟩ : ByteArray) = ld by cases ld; simp] at h

set_option maxRecDepth 100000 in
theorem lifted (os : Os) (started : os.Started) (H : Type) (enc : TypeId × Value → H) :
    ReturnsInHanded {} Tryz.checked os 3 .any (fun w args => (Rows.deviceStepsSpec.pre enc Tryz.prog Tryz.f3 Rows.deviceStepsRow.domain false w args ∧ laidMetH Tryz.prog Rows.deviceStepsRow.laid w) ∧ sizedMet enc Tryz.prog Tryz.f3 (OpenSpec.ofChange Rows.deviceStepsSpec) false w args)
      (Rows.deviceStepsSpec.post enc Tryz.prog Tryz.f3 false true false false) := by
  refine returnsInHanded_of_change_and (C := Tryz.checked) (X := fun w _ => laidMetH Tryz.prog Rows.deviceStepsRow.laid w) (fun _ _ _ hh h => h.of_heap hh) own started (by kernel_rfl) Tryz.func3
    (ChangeSpec.witness_shaped (enc := enc) (C := Tryz.checked) (os := os) (X := fun w _ => laidMetH Tryz.prog Rows.deviceStepsRow.laid w) false (start os) #[.string ⟨#[]⟩, .slice none 0 0, .slice none 0 0, .slice none 0 0, .string ⟨#[]⟩] 8 (start_os _) (World.shaped_of_ZipB (by kernel_rfl) (by kernel_rfl)) (by kernel_rfl) (by kernel_rfl) (by kernel_rfl) (start_met os _)) ?_
  intro W base args ds gs before hval0 hW _ _ hL _
  have hval : ∀ (j : Nat) t v, Tryz.f3.params[j]? = some t → args[j]? = some v → Value.okWide Tryz.prog W .any base t v := hval0
  have hW' := hW
  obtain ⟨p, q, hA0, hV, rfl, hfz, hnd⟩ := hW
  have hA : DataW.TrodAll enc Tryz.prog W 0 (fun _ => true) true Tryz.f3.params.toList args.toList ds p := hA0
  rw [Tryz.params3] at hA hval
  obtain ⟨v0, vs0, d0, ds0, p0, q0, hargs, rfl, rfl, h0, r0⟩ := trodAll_cons hA
  obtain ⟨v1, vs1, d1, ds1, p1, q1, rfl, rfl, rfl, h1, r1⟩ := trodAll_cons r0
  obtain ⟨v2, vs2, d2, ds2, p2, q2, rfl, rfl, rfl, h2, r2⟩ := trodAll_cons r1
  obtain ⟨v3, vs3, d3, ds3, p3, q3, rfl, rfl, rfl, h3, r3⟩ := trodAll_cons r2
  obtain ⟨v4, vs4, d4, ds4, p4, q4, rfl, rfl, rfl, h4, r4⟩ := trodAll_cons r3
  obtain ⟨rfl, rfl, rfl⟩ := trodAll_nil r4
  obtain rfl : args = #[v0, v1, v2, v3, v4] := by cases args; simp_all
  obtain ⟨rfl, rfl⟩ := trodVars_none hV
  obtain ⟨s, rfl, rfl, rfl, w1⟩ := open_string Tryz.underlying9 (hval 0 9 v0 rfl rfl) h0
  obtain ⟨ia, ic, ins, hv1, hi⟩ := open_rowI (hval 1 22 v1 rfl rfl) h1
  obtain ⟨oa, oc, outs, hv2, ho⟩ := open_rowI (hval 2 22 v2 rfl rfl) h2
  obtain ⟨ga, gc, A, C, gss, hv3, hgr⟩ := open_gridI (hval 3 23 v3 rfl rfl) h3
  obtain ⟨sd, rfl, rfl, rfl, w4⟩ := open_string Tryz.underlying9 (hval 4 9 v4 rfl rfl) h4
  have lt1 : ∀ x ∈ p1, x.block < W.heap.size := by obtain ⟨m, hm⟩ := h1; exact DataW.trod_lt m _ _ _ hm
  have lt2 : ∀ x ∈ p2, x.block < W.heap.size := by obtain ⟨m, hm⟩ := h2; exact DataW.trod_lt m _ _ _ hm
  have lt3 : ∀ x ∈ p3, x.block < W.heap.size := by obtain ⟨m, hm⟩ := h3; exact DataW.trod_lt m _ _ _ hm
  clear hA0 hval0
  have hwalk := walk s sd ins outs ia oa ga ic oc gc A C gss W hi ho hgr (hdl hL)
  rw [← hv1, ← hv2, ← hv3] at hwalk
  refine hwalk.mono fun e W' ⟨he, bel⟩ => ?_
  subst he
  exact ⟨_, rfl, _, _, _, [], _, [], hW', trodAll_mk1 (shut_bool Tryz.underlying4 _), (trodAll_cons_mk (shut_string Tryz.underlying9 w1) (trodAll_cons_mk (Below.trod laidOut (by kernel_rfl) (of_decide_eq_true (by kernel_rfl)) h1 bel lt1) (trodAll_cons_mk (Below.trod laidOut (by kernel_rfl) (of_decide_eq_true (by kernel_rfl)) h2 bel lt2) (trodAll_cons_mk (Below.trod laidOut (by kernel_rfl) (of_decide_eq_true (by kernel_rfl)) h3 bel lt3) (trodAll_cons_mk (shut_string Tryz.underlying9 w4) trodAll_mk0))))), rfl, bel.frame _, fun h => by cases h⟩

theorem over : Rows.DeviceStepsSaid :=
  OpenClaim.holds_of_wide 3 Tryz.f3 rfl rfl rfl rfl rfl rfl rfl ⟨rfl, rfl, rfl, rfl, rfl⟩ rfl rfl rfl rfl rfl named Tryz.func3 k_all k_inst k_wrap
    (fun os started H enc _ => lifted os started H enc)

theorem proved : Rows.DeviceStepsCardSaid :=
  Claim7.holds_tied_plain_at .later [] _ _ _ _
    over (fun _ h => by cases h) (by kernel_rfl) (fun _ h => by cases h) deviceSteps_row_tie rfl ⟨rfl, rfl⟩ (by kernel_rfl) rfl
    (fun f fn hf hfn => by
      obtain rfl : f = 3 := Option.some.inj ((show Tryz.prog.funcNamed "rungwork/rungworklaw.DeviceSteps" = some 3 by kernel_rfl).symm.trans hf) |>.symm
      obtain rfl : fn = Tryz.f3 := (Option.some.inj (Tryz.func3.symm.trans hfn)).symm
      exact ⟨by kernel_rfl, fun j t ht => by
        rw [Tryz.params3] at ht
        rcases j with _ | _ | _ | _ | _ | j
        · obtain rfl : t = 9 := by simpa using ht.symm
          exact (show Tryz.prog.wantsStandIn 9 = false by kernel_rfl)
        · obtain rfl : t = 22 := by simpa using ht.symm
          exact (show Tryz.prog.wantsStandIn 22 = false by kernel_rfl)
        · obtain rfl : t = 22 := by simpa using ht.symm
          exact (show Tryz.prog.wantsStandIn 22 = false by kernel_rfl)
        · obtain rfl : t = 23 := by simpa using ht.symm
          exact (show Tryz.prog.wantsStandIn 23 = false by kernel_rfl)
        · obtain rfl : t = 9 := by simpa using ht.symm
          exact (show Tryz.prog.wantsStandIn 9 = false by kernel_rfl)
        · simp at ht⟩)
    (by kernel_rfl)
end Go.Proofs.YtndpehjbepfbkaaGreatDoor.deviceSteps
namespace Go.Proofs.YtndpehjbepfbkaaGreatDoor
theorem deviceSteps_holds : Rows.DeviceStepsCardSaid := deviceSteps.proved
#print axioms deviceSteps_holds
end Go.Proofs.YtndpehjbepfbkaaGreatDoor
