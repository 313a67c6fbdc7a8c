/-
  What is proved: called with any row of numbers and any number, rungworkkeep.ScanBlocks returns true (a timer tells whether it was asked in each of the last so many cycles, an edge whether it is asked and was not, a counter how often that was since it was let go, at most 255), it panics nowhere, and each argument reads behind the call as it read before. Conditions: none beside the listed package variables, which the card ties to the program's text.
-/
import Derived.Test.YtpblellbffmolaaGreatDoorRows
import Derived.Test.YtpblellbffmolaaGreatDoorCards
import Derived.Test.YtpblellbffmolaaGreatDoorTie
import Derived.SevenTiedAt
import Derived.WalkKit
import Derived.ProofKit
import Derived.OpenShut
import Derived.ShutString
import Derived.ChangeOld
import Derived.Below
import Derived.Lay
import Derived.Stop.Joined
import Derived.Test.YtpblellbffmolaaGreatDoorLaid
import Derived.Deep.Grids
import Derived.Test.YtpblellbffmolaaGreatDoorBlW
import Derived.Test.YtpblellbffmolaaGreatDoorBlFacts
set_option linter.unusedSimpArgs false
namespace Go.Proofs.YtpblellbffmolaaGreatDoor
open Go.ChangeShapes Go.WideShapes Go.ChangeAt Go.RowKit Go.Deep
section
variable {H : Type} {enc : TypeId × Value → H} {w : World} {fuel : Nat} {cs : List Value} {x : DataW H × List MemPlace}
set_option maxRecDepth 100000 in
theorem open_intsL (h : DataW.trod enc Tryz.prog w 0 (fun _ => true) true fuel 22 cs = some x) : ∃ ao len cap, ∃ l : List Int, cs = [.slice ao len cap] ∧ l.length = len ∧ Lies AnyB w ao (intsC l) ∧ len ≤ cap ∧ cap ≤ maxLen := by
  rcases open_slice1 Tryz.underlying22 (by kernel_rfl) h with ⟨rfl, _⟩ | ⟨a, len, cap, m, n, V, D, Pl, rfl, _, hl, hm, hmm, _, hx⟩
  · exact ⟨none, 0, 0, [], rfl, rfl, .inl rfl, Nat.le_refl _, Nat.zero_le _⟩
  · simp only [if_true] at hmm
    subst hmm
    obtain ⟨B, hB⟩ := choose_lt (α := Int) (p := fun i b => V i = .int .i64 b) (fun i hi => by
      obtain ⟨b, h1, _⟩ := DataW.trod_int (k := .i64) Tryz.underlying3 (hx i hi).2
      exact ⟨b, by simpa using h1⟩)
    refine ⟨some a, len, m, (List.range len).map B, rfl, by simp, ?_, hl, hm⟩
    rcases Nat.eq_zero_or_pos len with h0 | h0
    · subst h0; exact .inl rfl
    · obtain ⟨b, off, spot⟩ := a
      have hspot : spot = none := by simpa [Addr.add] using World.cell?_spot (hx 0 (by omega)).1
      subst hspot
      refine .inr ⟨b, off, rfl, trivial, fun i u hu => ?_⟩
      have hi : i < len := by
        rcases Nat.lt_or_ge i len with h | h
        · exact h
        · rw [List.getElem?_eq_none (by simp [intsC]; omega)] at hu; cases hu
      have := (hx i (by omega)).1
      rw [Addr.add_lit] at this
      rw [this, hB i (by omega), ← hu]
      simp [intsC, hi]
end
set_option maxRecDepth 100000 in
theorem open_rowI {H : Type} {enc : TypeId × Value → H} {w : World} {r : Reach} {b0 : Nat} {v : Value} {d : DataW H} {p : List MemPlace} (hv : Value.okWide Tryz.prog w r b0 22 v) (h : DataW.Trod enc Tryz.prog w 0 (fun _ => true) true 22 v d p) :
    ∃ (ga : Option Addr) (gc : Nat) (l : List Int), v = .slice ga l.length gc ∧ Lies AnyB w ga (intsC l) := by
  obtain ⟨ga, len, gc, rfl⟩ := okWide_slice Tryz.underlying22 hv
  obtain ⟨fuel, h⟩ := h
  obtain ⟨ao, l, c, asks, hcs, hll, hlie, _⟩ := open_intsL h
  simp [Value.cells] at hcs
  obtain ⟨rfl, rfl, rfl⟩ := hcs
  subst hll
  exact ⟨_, _, asks, rfl, hlie⟩
end Go.Proofs.YtpblellbffmolaaGreatDoor
namespace Go.Proofs.YtpblellbffmolaaGreatDoor.scanBlocks
open Go.ChangeShapes Go.WideShapes Go.ChangeAt Go.RowKit Go.Deep
open Go.ChangeMaps (open_string shut_string)
set_option linter.unusedVariables false

theorem own : ownKnob Tryz.prog.godebug = none := by kernel_rfl
theorem plain {w : World} (h : laidMetH Tryz.prog Rows.scanBlocksRow.laid w) : laidMet Tryz.prog Rows.scanBlocksRow.laid w := by
  rwa [MakeChecks.laidMetH_plain _ _ _ (by kernel_rfl)] at h
theorem vars {w : World} (h : laidMetH Tryz.prog Rows.scanBlocksRow.laid w) : Vars w ∧ Tab w := by
  have h' := plain h
  exact ⟨vars_laid h' (by simp [Rows.scanBlocksRow, Rows.laid_rungwork_tree_marks, marksL]) (by simp [Rows.scanBlocksRow, Rows.laid_rungwork_tree_kept, keptL]) (by simp [Rows.scanBlocksRow, Rows.laid_rungwork_tree_types]) (by simp [Rows.scanBlocksRow, Rows.laid_rungwork_tree_ways]),
    tab_of_laid h' (by rw [show (Lib.tabData .u64 Lib.pow10Tab : DataW Unit) = Rows.laid_internal_strconv_uint64pow10 by kernel_rfl]; simp [Rows.scanBlocksRow])⟩
theorem start_met (os : Os) (args : Array Value) : laidMetH Tryz.prog Rows.scanBlocksRow.laid ((World.laidAll Tryz.prog os Rows.scanBlocksRow.laid).forCall (fun _ _ => 0) ⟨#[], args, []⟩).memory := by
  rw [MakeChecks.laidMetH_plain _ _ _ (by kernel_rfl)]
  exact laidMet_laidAll _ (by kernel_rfl) (by kernel_rfl)

theorem laidOut : laidOutB Tryz.prog = true := by kernel_rfl
theorem walk (n : Int) (asks : List Int) (ga : Option Addr) (gc : Nat) (w : World) (hlie : Lies AnyB w ga (intsC asks)) (hv : Vars w) (ht : Tab w) (h14 : 8 ≤ w.heap.size) :
    Calls Tryz.prog 3 #[.slice ga asks.length gc, .int .i64 n] w fun e w' => e = .returned (.bool true) ∧ Below w.heap.size w w' := by
  by_cases h60 : 60 < asks.length
  · exact blocks_many n ga asks.length gc w h60
  · exact sblocks_at n asks ga gc w h60 (hlie.imp fun b hb _ => hb) hv ht h14

set_option maxRecDepth 100000 in
theorem lifted (os : Os) (started : os.Started) (H : Type) (enc : TypeId × Value → H) :
    ReturnsInHanded {} Tryz.checked os 3 .any (fun w args => (Rows.scanBlocksSpec.pre enc Tryz.prog Tryz.f3 Rows.scanBlocksRow.domain false w args ∧ laidMetH Tryz.prog Rows.scanBlocksRow.laid w) ∧ sizedMet enc Tryz.prog Tryz.f3 (OpenSpec.ofChange Rows.scanBlocksSpec) false w args)
      (Rows.scanBlocksSpec.post enc Tryz.prog Tryz.f3 false true false false) := by
  refine returnsInHanded_of_change_and (C := Tryz.checked) (X := fun w _ => laidMetH Tryz.prog Rows.scanBlocksRow.laid w) (fun _ _ _ hh h => h.of_heap hh) own started (by kernel_rfl) Tryz.func3
    (ChangeSpec.witness_shaped (enc := enc) (C := Tryz.checked) (os := os) (X := fun w _ => laidMetH Tryz.prog Rows.scanBlocksRow.laid w) false (World.laidAll Tryz.prog os Rows.scanBlocksRow.laid) #[.slice none 0 0, .int .i64 0] 8 (World.laidAll_os _ _ _) (World.shaped_of_ZipB (by kernel_rfl) (by kernel_rfl)) (by kernel_rfl) (by kernel_rfl) (by kernel_rfl) (start_met os _)) ?_
  intro W base args ds gs before hval0 hW _ _ hL _
  have hval : ∀ (j : Nat) t v, Tryz.f3.params[j]? = some t → args[j]? = some v → Value.okWide Tryz.prog W .any base t v := hval0
  have hW' := hW
  obtain ⟨p, q, hA0, hV, rfl, hfz, hnd⟩ := hW
  have hA : DataW.TrodAll enc Tryz.prog W 0 (fun _ => true) true Tryz.f3.params.toList args.toList ds p := hA0
  rw [Tryz.params3] at hA hval
  obtain ⟨v0, vs0, d0, ds0, p0, q0, hargs, rfl, rfl, h0, r0⟩ := trodAll_cons hA
  obtain ⟨v1, vs1, d1, ds1, p1, q1, rfl, rfl, rfl, h1, r1⟩ := trodAll_cons r0
  obtain ⟨rfl, rfl, rfl⟩ := trodAll_nil r1
  obtain rfl : args = #[v0, v1] := by cases args; simp_all
  obtain ⟨rfl, rfl⟩ := trodVars_none hV
  obtain ⟨ga, gc, asks, hv0, hlie⟩ := open_rowI (hval 0 22 v0 rfl rfl) h0
  obtain ⟨n, rfl, rfl, rfl, w1⟩ := open_int Tryz.underlying3 (hval 1 3 v1 rfl rfl) h1
  have lt0 : ∀ x ∈ p0, x.block < W.heap.size := by obtain ⟨m, hm⟩ := h0; exact DataW.trod_lt m _ _ _ hm
  obtain ⟨hv, ht⟩ := vars hL
  clear hA0 hval0
  have hwalk := walk n asks ga gc W hlie hv ht (big_of_laid (plain hL) (d := Rows.laid_unicode_utf8_acceptRanges) (by simp [Rows.scanBlocksRow]))
  rw [← hv0] at hwalk
  refine hwalk.mono fun e W' ⟨he, bel⟩ => ?_
  subst he
  exact ⟨_, rfl, _, _, _, [], _, [], hW', trodAll_mk1 (shut_bool Tryz.underlying4 _), (trodAll_cons_mk (Below.trod laidOut (by kernel_rfl) (of_decide_eq_true (by kernel_rfl)) h0 bel lt0) (trodAll_cons_mk (shut_int Tryz.underlying3 w1) trodAll_mk0)), rfl, bel.frame _, fun h => by cases h⟩

theorem over : Rows.ScanBlocksSaid :=
  OpenClaim.holds_of_wide 3 Tryz.f3 rfl rfl rfl rfl rfl rfl rfl ⟨rfl, rfl, rfl, rfl, rfl⟩ rfl rfl rfl rfl rfl named Tryz.func3 k_all k_inst k_wrap
    (fun os started H enc _ => lifted os started H enc)

theorem proved : Rows.ScanBlocksCardSaid :=
  Claim7.holds_tied_plain_at .later [] [.data, .data, .data, .data, .data, .data, .data, .data, .pinned] true (true, "f7ee3a3578a56abde1e6b159ff7e0c4c2c7f11607b8e2c109d4c9416f32df9f8") true
    over (fun _ h => by cases h) (by kernel_rfl) (fun _ h => by cases h) scanBlocks_row_tie rfl ⟨rfl, rfl⟩ (by kernel_rfl) rfl
    (fun f fn hf hfn => by
      obtain rfl : f = 3 := Option.some.inj ((show Tryz.prog.funcNamed "rungwork/rungworkkeep.ScanBlocks" = some 3 by kernel_rfl).symm.trans hf) |>.symm
      obtain rfl : fn = Tryz.f3 := (Option.some.inj (Tryz.func3.symm.trans hfn)).symm
      exact ⟨by kernel_rfl, fun j t ht => by
        rw [Tryz.params3] at ht
        rcases j with _ | _ | j
        · have h9 : t = 22 := by simpa using ht.symm
          subst h9
          exact (show Tryz.prog.wantsStandIn 22 = false by kernel_rfl)
        · have h9 : t = 3 := by simpa using ht.symm
          subst h9
          exact (show Tryz.prog.wantsStandIn 3 = false by kernel_rfl)
        · simp at ht⟩)
    (by kernel_rfl)
end Go.Proofs.YtpblellbffmolaaGreatDoor.scanBlocks
namespace Go.Proofs.YtpblellbffmolaaGreatDoor
theorem scanBlocks_holds : Rows.ScanBlocksCardSaid := scanBlocks.proved
#print axioms scanBlocks_holds
end Go.Proofs.YtpblellbffmolaaGreatDoor
