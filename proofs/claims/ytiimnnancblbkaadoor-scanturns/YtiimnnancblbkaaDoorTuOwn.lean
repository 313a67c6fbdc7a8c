/-
  What is proved: called with any text and any rows of numbers, rungworkkeep.ScanTurns returns true (a program that is found right, with each If asking the opposite and its variables and blocks declared in another order, lets out the same, cycle by cycle), it panics nowhere, and each argument reads behind the call as it read before. Conditions: none beside the listed package variables, which the card ties to the program's text.
-/
import Derived.Test.YtiimnnancblbkaaDoorRows
import Derived.Test.YtiimnnancblbkaaDoorCards
import Derived.Test.YtiimnnancblbkaaDoorTie
import Derived.SevenTiedAt
import Derived.WalkKit
import Derived.ProofKit
import Derived.OpenShut
import Derived.ShutString
import Derived.ChangeOld
import Derived.Below
import Derived.Lay
import Derived.Stop.Joined
import Derived.Test.YtiimnnancblbkaaDoorLaid
import Derived.Deep.Grids
import Derived.Test.YtiimnnancblbkaaDoorScZ
import Derived.Test.YtiimnnancblbkaaDoorTuFacts
set_option linter.unusedSimpArgs false
namespace Go.Proofs.YtiimnnancblbkaaDoor
open Go.ChangeShapes Go.WideShapes Go.ChangeAt Go.RowKit Go.Deep
section
variable {H : Type} {enc : TypeId × Value → H} {w : World} {fuel : Nat} {cs : List Value} {x : DataW H × List MemPlace}
set_option maxRecDepth 100000 in
theorem open_intsL (h : DataW.trod enc Tryd.prog w 0 (fun _ => true) true fuel 38 cs = some x) : ∃ ao len cap, ∃ l : List Int, cs = [.slice ao len cap] ∧ l.length = len ∧ Lies AnyB w ao (intsC l) ∧ len ≤ cap ∧ cap ≤ maxLen := by
  rcases open_slice1 Tryd.underlying38 (by kernel_rfl) h with ⟨rfl, _⟩ | ⟨a, len, cap, m, n, V, D, Pl, rfl, _, hl, hm, hmm, _, hx⟩
  · exact ⟨none, 0, 0, [], rfl, rfl, .inl rfl, Nat.le_refl _, Nat.zero_le _⟩
  · simp only [if_true] at hmm
    subst hmm
    obtain ⟨B, hB⟩ := choose_lt (α := Int) (p := fun i b => V i = .int .i64 b) (fun i hi => by
      obtain ⟨b, h1, _⟩ := DataW.trod_int (k := .i64) Tryd.underlying3 (hx i hi).2
      exact ⟨b, by simpa using h1⟩)
    refine ⟨some a, len, m, (List.range len).map B, rfl, by simp, ?_, hl, hm⟩
    rcases Nat.eq_zero_or_pos len with h0 | h0
    · subst h0; exact .inl rfl
    · obtain ⟨b, off, spot⟩ := a
      have hspot : spot = none := by simpa [Addr.add] using World.cell?_spot (hx 0 (by omega)).1
      subst hspot
      refine .inr ⟨b, off, rfl, trivial, fun i u hu => ?_⟩
      have hi : i < len := by
        rcases Nat.lt_or_ge i len with h | h
        · exact h
        · rw [List.getElem?_eq_none (by simp [intsC]; omega)] at hu; cases hu
      have := (hx i (by omega)).1
      rw [Addr.add_lit] at this
      rw [this, hB i (by omega), ← hu]
      simp [intsC, hi]
end
set_option maxRecDepth 100000 in
theorem open_gridI {H : Type} {enc : TypeId × Value → H} {w : World} {r : Reach} {b0 : Nat} {v : Value} {d : DataW H} {p : List MemPlace} (hv : Value.okWide Tryd.prog w r b0 22 v) (h : DataW.Trod enc Tryd.prog w 0 (fun _ => true) true 22 v d p) :
    ∃ (ga : Option Addr) (gc : Nat) (A : Nat → Option Addr) (C : Nat → Nat) (gs : List (List Int)), v = .slice ga gs.length gc ∧ GridI w ga A C gs := by
  obtain ⟨ga, len, gc, rfl⟩ := okWide_slice Tryd.underlying22 hv
  obtain ⟨fuel, h⟩ := h
  rcases open_slice1 Tryd.underlying22 (by kernel_rfl) h with ⟨hcs, _⟩ | ⟨a, len', cap, m, n, V, D, Pl, hcs, _, hl, hm, hmm, _, hx⟩
  · simp [Value.cells] at hcs
    obtain ⟨rfl, rfl, rfl⟩ := hcs
    exact ⟨none, 0, fun _ => none, fun _ => 0, [], rfl, fun r hr => absurd hr (Nat.not_lt_zero _)⟩
  · simp [Value.cells] at hcs
    obtain ⟨rfl, rfl, rfl⟩ := hcs
    simp only [if_true] at hmm
    subst hmm
    obtain ⟨Y, hY⟩ := choose_lt (α := Option Addr × Nat × List Int) (p := fun i y => V i = .slice y.1 y.2.2.length y.2.1 ∧ Lies AnyB w y.1 (intsC y.2.2) ∧ y.2.2.length ≤ y.2.1 ∧ y.2.1 ≤ maxLen) (fun i hi => by
      obtain ⟨ao, l, c, bs, h1, h2, h3, h4, h5⟩ := open_intsL (hx i hi).2
      refine ⟨(ao, c, bs), ?_, h3, by show bs.length ≤ c; omega, h5⟩
      show V i = .slice ao bs.length c
      rw [h2]; simpa using h1)
    refine ⟨some a, m, fun r => (Y r).1, fun r => (Y r).2.1, (List.range len).map fun r => (Y r).2.2, by simp, fun r hr => ?_⟩
    simp at hr
    have hrow : rowI ((List.range len).map fun r => (Y r).2.2) r = (Y r).2.2 := by unfold rowI; simp [hr]
    rw [hrow]
    obtain ⟨h1, h2, h4, h5⟩ := hY r (by omega)
    refine ⟨?_, h2.imp fun b hb _ => hb, h4, h5⟩
    obtain ⟨b, off, spot⟩ := a
    have hspot : spot = none := by simpa [Addr.add] using World.cell?_spot (hx 0 (by omega)).1
    subst hspot
    have := (hx r (by omega)).1
    rw [Addr.add_lit, h1] at this
    exact ⟨b, off, rfl, this⟩
end Go.Proofs.YtiimnnancblbkaaDoor
namespace Go.Proofs.YtiimnnancblbkaaDoor.scanTurns
open Go.ChangeShapes Go.WideShapes Go.ChangeAt Go.RowKit Go.Deep
open Go.ChangeMaps (open_string shut_string)
set_option linter.unusedVariables false

theorem own : ownKnob Tryd.prog.godebug = none := by kernel_rfl
theorem plain {w : World} (h : laidMetH Tryd.prog Rows.scanTurnsRow.laid w) : laidMet Tryd.prog Rows.scanTurnsRow.laid w := by
  rwa [MakeChecks.laidMetH_plain _ _ _ (by kernel_rfl)] at h
theorem vars {w : World} (h : laidMetH Tryd.prog Rows.scanTurnsRow.laid w) : Vars w := by
  have h' := plain h
  exact vars_laid h' (by simp [Rows.scanTurnsRow, Rows.laid_rungwork_tree_marks, marksL]) (by simp [Rows.scanTurnsRow, Rows.laid_rungwork_tree_kept, keptL]) (by simp [Rows.scanTurnsRow, Rows.laid_rungwork_tree_types]) (by simp [Rows.scanTurnsRow, Rows.laid_rungwork_tree_ways])
theorem start_met (os : Os) (args : Array Value) : laidMetH Tryd.prog Rows.scanTurnsRow.laid ((World.laidAll Tryd.prog os Rows.scanTurnsRow.laid).forCall (fun _ _ => 0) ⟨#[], args, []⟩).memory := by
  rw [MakeChecks.laidMetH_plain _ _ _ (by kernel_rfl)]
  exact laidMet_laidAll _ (by kernel_rfl) (by kernel_rfl)

theorem laidOut : laidOutB Tryd.prog = true := by kernel_rfl
theorem walk (s : ByteArray) (ga : Option Addr) (gc : Nat) (A : Nat → Option Addr) (C : Nat → Nat) (gs : List (List Int)) (w : World) (hgr : GridI w ga A C gs) (hv : Vars w) (h14 : 5 ≤ w.heap.size) :
    Calls Tryd.prog 3 #[.string s, .slice ga gs.length gc] w fun e w' => e = .returned (.bool true) ∧ Below w.heap.size w w' := by
  by_cases h30 : 30 < gs.length
  · exact turns_many s ga gs.length gc w h30
  · exact turns_at s ga gc A C gs w h30 hgr hv h14

set_option maxRecDepth 100000 in
theorem lifted (os : Os) (started : os.Started) (H : Type) (enc : TypeId × Value → H) :
    ReturnsInHanded {} Tryd.checked os 3 .any (fun w args => (Rows.scanTurnsSpec.pre enc Tryd.prog Tryd.f3 Rows.scanTurnsRow.domain false w args ∧ laidMetH Tryd.prog Rows.scanTurnsRow.laid w) ∧ sizedMet enc Tryd.prog Tryd.f3 (OpenSpec.ofChange Rows.scanTurnsSpec) false w args)
      (Rows.scanTurnsSpec.post enc Tryd.prog Tryd.f3 false true false false) := by
  refine returnsInHanded_of_change_and (C := Tryd.checked) (X := fun w _ => laidMetH Tryd.prog Rows.scanTurnsRow.laid w) (fun _ _ _ hh h => h.of_heap hh) own started (by kernel_rfl) Tryd.func3
    (ChangeSpec.witness_shaped (enc := enc) (C := Tryd.checked) (os := os) (X := fun w _ => laidMetH Tryd.prog Rows.scanTurnsRow.laid w) false (World.laidAll Tryd.prog os Rows.scanTurnsRow.laid) #[.string ⟨#[]⟩, .slice none 0 0] 8 (World.laidAll_os _ _ _) (World.shaped_of_ZipB (by kernel_rfl) (by kernel_rfl)) (by kernel_rfl) (by kernel_rfl) (by kernel_rfl) (start_met os _)) ?_
  intro W base args ds gs before hval0 hW _ _ hL _
  have hval : ∀ (j : Nat) t v, Tryd.f3.params[j]? = some t → args[j]? = some v → Value.okWide Tryd.prog W .any base t v := hval0
  have hW' := hW
  obtain ⟨p, q, hA0, hV, rfl, hfz, hnd⟩ := hW
  have hA : DataW.TrodAll enc Tryd.prog W 0 (fun _ => true) true Tryd.f3.params.toList args.toList ds p := hA0
  rw [Tryd.params3] at hA hval
  obtain ⟨v0, vs0, d0, ds0, p0, q0, hargs, rfl, rfl, h0, r0⟩ := trodAll_cons hA
  obtain ⟨v1, vs1, d1, ds1, p1, q1, rfl, rfl, rfl, h1, r1⟩ := trodAll_cons r0
  obtain ⟨rfl, rfl, rfl⟩ := trodAll_nil r1
  obtain rfl : args = #[v0, v1] := by cases args; simp_all
  obtain ⟨rfl, rfl⟩ := trodVars_none hV
  obtain ⟨s, rfl, rfl, rfl, w0⟩ := open_string Tryd.underlying9 (hval 0 9 v0 rfl rfl) h0
  obtain ⟨ga, gc, A, C, gss, hv1, hgr⟩ := open_gridI (hval 1 22 v1 rfl rfl) h1
  have lt1 : ∀ x ∈ p1, x.block < W.heap.size := by obtain ⟨m, hm⟩ := h1; exact DataW.trod_lt m _ _ _ hm
  have hv := vars hL
  clear hA0 hval0
  have hwalk := walk s ga gc A C gss W hgr hv (big_of_laid (plain hL) (d := Rows.laid_unicode_utf8_acceptRanges) (by simp [Rows.scanTurnsRow]))
  rw [← hv1] at hwalk
  refine hwalk.mono fun e W' ⟨he, bel⟩ => ?_
  subst he
  exact ⟨_, rfl, _, _, _, [], _, [], hW', trodAll_mk1 (shut_bool Tryd.underlying4 _), (trodAll_cons_mk (shut_string Tryd.underlying9 w0) (trodAll_cons_mk (Below.trod laidOut (by kernel_rfl) (of_decide_eq_true (by kernel_rfl)) h1 bel lt1) trodAll_mk0)), rfl, bel.frame _, fun h => by cases h⟩

theorem over : Rows.ScanTurnsSaid :=
  OpenClaim.holds_of_wide 3 Tryd.f3 rfl rfl rfl rfl rfl rfl rfl ⟨rfl, rfl, rfl, rfl, rfl⟩ rfl rfl rfl rfl rfl named Tryd.func3 k_all k_inst k_wrap
    (fun os started H enc _ => lifted os started H enc)

theorem proved : Rows.ScanTurnsCardSaid :=
  Claim7.holds_tied_plain_at .later [] [.data, .data, .data, .data, .data, .pinned] true (true, "52d5c731cb91347a435a11b60ab350bda1bcb043a40d22af12da4b8916cd98e9") true
    over (fun _ h => by cases h) (by kernel_rfl) (fun _ h => by cases h) scanTurns_row_tie rfl ⟨rfl, rfl⟩ (by kernel_rfl) rfl
    (fun f fn hf hfn => by
      obtain rfl : f = 3 := Option.some.inj ((show Tryd.prog.funcNamed "rungwork/rungworkkeep.ScanTurns" = some 3 by kernel_rfl).symm.trans hf) |>.symm
      obtain rfl : fn = Tryd.f3 := (Option.some.inj (Tryd.func3.symm.trans hfn)).symm
      exact ⟨by kernel_rfl, fun j t ht => by
        rw [Tryd.params3] at ht
        rcases j with _ | _ | j
        · have h9 : t = 9 := by simpa using ht.symm
          subst h9
          exact (show Tryd.prog.wantsStandIn 9 = false by kernel_rfl)
        · have h9 : t = 22 := by simpa using ht.symm
          subst h9
          exact (show Tryd.prog.wantsStandIn 22 = false by kernel_rfl)
        · simp at ht⟩)
    (by kernel_rfl)
end Go.Proofs.YtiimnnancblbkaaDoor.scanTurns
namespace Go.Proofs.YtiimnnancblbkaaDoor
theorem scanTurns_holds : Rows.ScanTurnsCardSaid := scanTurns.proved
#print axioms scanTurns_holds
end Go.Proofs.YtiimnnancblbkaaDoor
