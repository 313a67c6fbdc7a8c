/-
  What is proved: called with any text and any int, rungworkkeep.CheckTurns returns true (a program of which nothing is found is found nothing of with its declarations in another order, and with one more of another name; with one twice something is), it panics nowhere, and each argument reads behind the call as it read before. Conditions: none beside the listed package variables, which the card ties to the program's text.
-/
import Derived.Test.YtgncgbngjdcpgaaGreatDoorRows
import Derived.Test.YtgncgbngjdcpgaaGreatDoorCards
import Derived.Test.YtgncgbngjdcpgaaGreatDoorTie
import Derived.SevenTiedAt
import Derived.WalkKit
import Derived.ProofKit
import Derived.OpenShut
import Derived.ShutString
import Derived.ChangeOld
import Derived.Below
import Derived.Lay
import Derived.Stop.Joined
import Derived.HandedShaped
import Derived.Deep.Grids
import Derived.ChangeSlices
import Derived.LaidHandle
import Derived.MakeChecks
import Derived.Lib.LaidU8
import Derived.Lib.LaidTab
import Derived.Test.YtgncgbngjdcpgaaGreatDoorTurns
import Derived.Test.YtgncgbngjdcpgaaGreatDoorRound
set_option linter.unusedSimpArgs false
set_option linter.unusedVariables false
namespace Go.Proofs.YtgncgbngjdcpgaaGreatDoor
open Go.RowKit

theorem strs_of_tab {H : Type} {enc : TypeId × Value → H} {P : Program} {w : World} {base : Nat} {sp : Nat → Bool} {held : Bool} {fuel : Nat} {t e : TypeId} {n : Nat} {cs : List Value} {zs : List (List UInt8)} {p : List MemPlace}
    (ht : P.underlying t = some (.array n e)) (he : P.underlying e = some .string) (hce : P.cellsOf e = 1) (hct : P.cellsOf t = n)
    (h : DataW.trod enc P w base sp held fuel t cs = some (.agg (zs.map fun z => .lit (.string z)), p)) : cs = zs.map fun z => Value.string ⟨z.toArray⟩ := by
  cases fuel with
  | zero => simp [DataW.trod] at h
  | succ fuel =>
    simp only [DataW.trod, ht, hce, hct, Nat.mul_one] at h
    split at h
    · rename_i hl
      obtain ⟨xs, hm, hx⟩ := Option.map_eq_some_iff.1 h
      have hxs : xs.map (·.1) = zs.map fun z => (DataW.lit (.string z) : DataW H) := by
        have := congrArg Prod.fst hx
        simpa using this
      have hxl : xs.length = n := by simpa using Lib.mapM_length hm
      have hzl : zs.length = n := by
        have := congrArg List.length hxs
        simp at this
        omega
      apply List.ext_getElem?
      intro i
      by_cases hi : i < n
      · obtain ⟨b, hb, hf⟩ := Lib.mapM_at hm i i (by simp [hi])
        obtain ⟨z, hc, rfl, _⟩ := DataW.trod_string he hf
        have h1 : cs[i]? = some (.string z) := by
          have := congrArg (·[0]?) hc
          simpa [List.getElem?_take, List.getElem?_drop] using this
        have h2 : (xs.map (·.1))[i]? = some (DataW.lit (.string z.data.toList) : DataW H) := by simp [hb]
        rw [hxs] at h2
        simp only [List.getElem?_map, Option.map_eq_some_iff, DataW.lit.injEq, Lit.string.injEq] at h2
        obtain ⟨z', hz', e'⟩ := h2
        have e2 : (⟨z'.toArray⟩ : ByteArray) = z := by rw [e']
        simp [h1, hz', e2]
      · rw [List.getElem?_eq_none (by omega), List.getElem?_eq_none (by simp; omega)]
    · cases h

theorem var_block {P : Program} {w : World} {n : String} {g : Nat} {cs : Array Value} (hg : P.globalNamed n = some g) (h : w.var? P n = some cs) : w.heap[g]? = some (.cells cs (vt w g) (vz w g)) := by
  unfold World.var? at h
  rw [hg] at h
  simp only [Option.bind_some] at h
  cases hh : w.heap[g]? with
  | none => rw [hh] at h; cases h
  | some o =>
    rw [hh] at h
    cases o with
    | cells c t z =>
      simp only [Option.some.injEq] at h
      subst h
      simp [vt, vz, hh]
    | _ => cases h

theorem strs_laid {P : Program} {w : World} {l : List (String × DataW Unit)} (h : laidMet P l w) {n : String} {g : Nat} {t e : TypeId} {m : Nat} (zs : List (List UInt8)) (hm : (n, DataW.agg (zs.map fun z => .lit (.string z))) ∈ l)
    (hg : P.globalNamed n = some g) (hty : (P.globals[g]?).map (·.type) = some t) (ht : P.underlying t = some (.array m e)) (he : P.underlying e = some .string) (hce : P.cellsOf e = 1) (hct : P.cellsOf t = m) :
    w.heap[g]? = some (.cells (strs zs) (vt w g) (vz w g)) := by
  obtain ⟨g', t', cs, fuel, p, h1, h2, h3, h4⟩ := Lib.laidMet.reads h hm
  obtain rfl := Option.some.inj (hg.symm.trans h1)
  obtain rfl := Option.some.inj (hty.symm.trans h2)
  have := strs_of_tab ht he hce hct h4
  have e1 : cs = strs zs := by
    unfold strs
    rw [← this]
  rw [← e1]
  exact var_block hg h3

/-- what is asked of the listed variables -/
theorem vars_laid {w : World} {l : List (String × DataW Unit)} (h : laidMet Tryz.prog l w)
    (h1 : ("rungwork/tree.marks", DataW.agg (marksL.map fun z => .lit (.string z))) ∈ l) (h2 : ("rungwork/tree.kept", DataW.agg (keptL.map fun z => .lit (.string z))) ∈ l)
    (h3 : ("rungwork/tree.types", DataW.agg ([[], [98, 111, 111, 108], [98, 121, 116, 101], [116, 105, 109, 101, 114], [99, 111, 117, 110, 116, 101, 114], [101, 100, 103, 101]].map fun z => .lit (.string z))) ∈ l)
    (h4 : ("rungwork/tree.ways", DataW.agg ([[], [105, 110], [111, 117, 116], [118, 97, 114]].map fun z => .lit (.string z))) ∈ l) : Vars w :=
  ⟨strs_laid h _ h1 (by kernel_rfl) (by kernel_rfl) (m := 15) (e := 9) (t := 156) (by kernel_rfl) (by kernel_rfl) (by kernel_rfl) (by kernel_rfl),
   strs_laid h _ h2 (by kernel_rfl) (by kernel_rfl) (m := 20) (e := 9) (t := 157) (by kernel_rfl) (by kernel_rfl) (by kernel_rfl) (by kernel_rfl),
   strs_laid h _ h3 (by kernel_rfl) (by kernel_rfl) (m := 6) (e := 9) (t := 164) (by kernel_rfl) (by kernel_rfl) (by kernel_rfl) (by kernel_rfl),
   strs_laid h _ h4 (by kernel_rfl) (by kernel_rfl) (m := 4) (e := 9) (t := 165) (by kernel_rfl) (by kernel_rfl) (by kernel_rfl) (by kernel_rfl)⟩
theorem big_laid {w : World} {n : String} {g : Nat} {cs : Array Value} (hg : Tryz.prog.globalNamed n = some g) (h : w.var? Tryz.prog n = some cs) : g < w.heap.size := blk_lt (var_block hg h)
end Go.Proofs.YtgncgbngjdcpgaaGreatDoor
namespace Go.Proofs.YtgncgbngjdcpgaaGreatDoor.checkTurns
open Go.ChangeShapes Go.WideShapes Go.ChangeAt Go.RowKit Go.Deep
open Go.ChangeMaps (open_string shut_string)
set_option linter.unusedVariables false

theorem own : ownKnob Tryz.prog.godebug = none := by kernel_rfl
theorem laidOut : laidOutB Tryz.prog = true := by kernel_rfl
theorem et : Tryz.prog.globalNamed "errors.errorType" = some 3 := by kernel_rfl
theorem rt : (Tryz.prog.cutTypes.find? (·.1 == "internal/reflectlite.rtype")).map (·.2) = some 201 := by kernel_rfl
theorem oneRow : ((List.range Tryz.prog.types.size).filter fun t => Tryz.prog.rowNamed t [101, 114, 114, 111, 114]) = [32] := by kernel_rfl
abbrev plainL : List (String × DataW Unit) := Rows.checkTurnsRow.laid.filter fun x => x.2.handleName?.isNone
theorem two {w : World} (h : laidMetH Tryz.prog Rows.checkTurnsRow.laid w) : laidMet Tryz.prog plainL w ∧ handlesMet Tryz.prog (Rows.checkTurnsRow.laid.filter fun x => x.2.handleName?.isSome) w := h
theorem vars {w : World} (h : laidMetH Tryz.prog Rows.checkTurnsRow.laid w) : Vars w := by
  have h' := (two h).1
  have e : plainL = [("unicode/utf8.acceptRanges", Rows.laid_unicode_utf8_acceptRanges), ("rungwork/tree.ways", Rows.laid_rungwork_tree_ways), ("rungwork/tree.types", Rows.laid_rungwork_tree_types), ("rungwork/tree.marks", Rows.laid_rungwork_tree_marks), ("rungwork/tree.kept", Rows.laid_rungwork_tree_kept), ("unicode/utf8.first", Rows.laid_unicode_utf8_first)] := by kernel_rfl
  rw [e] at h'
  exact vars_laid h' (by simp [Rows.laid_rungwork_tree_marks, marksL]) (by simp [Rows.laid_rungwork_tree_kept, keptL]) (by simp [Rows.laid_rungwork_tree_types]) (by simp [Rows.laid_rungwork_tree_ways])
theorem big {w : World} (h : laidMetH Tryz.prog Rows.checkTurnsRow.laid w) : 8 ≤ w.heap.size := by
  have h' := (two h).1
  have e : plainL = [("unicode/utf8.acceptRanges", Rows.laid_unicode_utf8_acceptRanges), ("rungwork/tree.ways", Rows.laid_rungwork_tree_ways), ("rungwork/tree.types", Rows.laid_rungwork_tree_types), ("rungwork/tree.marks", Rows.laid_rungwork_tree_marks), ("rungwork/tree.kept", Rows.laid_rungwork_tree_kept), ("unicode/utf8.first", Rows.laid_unicode_utf8_first)] := by kernel_rfl
  rw [e] at h'
  obtain ⟨g1, t1, cs1, f1, p1, a1, _, a3, _⟩ := Lib.laidMet.reads h' (n := "unicode/utf8.acceptRanges") (d := Rows.laid_unicode_utf8_acceptRanges) (by simp)
  obtain ⟨g2, t2, cs2, f2, p2, b1, _, b3, _⟩ := Lib.laidMet.reads h' (n := "unicode/utf8.first") (d := Rows.laid_unicode_utf8_first) (by simp)
  have c1 := big_laid (g := 9) (by kernel_rfl) a3
  have c2 := big_laid (g := 8) (by kernel_rfl) b3
  omega
theorem hdl {W : World} (h : laidMetH Tryz.prog Rows.checkTurnsRow.laid W) : Hdl W := by
  obtain ⟨name, u, ty, e1, e2, e3, e4, e5⟩ := (two h).2 ("errors.errorType", Rows.laid_errors_errorType) (by simp [Rows.checkTurnsRow, List.mem_filter]; kernel_rfl)
  have en : name = [101, 114, 114, 111, 114] := (Option.some.inj e1).symm
  subst en
  obtain rfl := Option.some.inj (rt.symm.trans e2)
  have hm : ty ∈ (List.range Tryz.prog.types.size).filter fun t => Tryz.prog.rowNamed t [101, 114, 114, 111, 114] := List.mem_filter.2 ⟨List.mem_range.2 e3, e4⟩
  rw [oneRow] at hm
  obtain rfl := List.mem_singleton.1 hm
  have hh : typeHandle Tryz.prog 32 = .pointer (some ⟨14, 32, none⟩) := by kernel_rfl
  rw [hh] at e5
  simpa using World.var?_cell et e5 0
noncomputable def base0 (os : Os) : World :=
  let w0 := World.holding Tryz.prog os ⟨#[], #[], []⟩
  { w0 with heap := w0.heap.modify 3 fun
      | .cells _ t frozen => .cells #[.iface 201 (.agg #[.pointer (some ⟨14, 32, none⟩)])] t frozen
      | o => o }
noncomputable def start (os : Os) : World := (base0 os).layVars Tryz.prog plainL
theorem start_os (os : Os) : (start os).os = os := World.layVars_os _ _ _
theorem start_plain (os : Os) : laidMet Tryz.prog plainL (start os) := by
  have e1 : (plainL.filter fun x => (plainL.map (·.1)).contains x.1) = plainL := List.filter_eq_self.2 fun x hx => List.contains_iff_mem.2 (List.mem_map.2 ⟨x, hx, rfl⟩)
  have e2 : (plainL.filter fun x => !(plainL.map (·.1)).contains x.1) = [] := List.filter_eq_nil_iff.2 fun x hx => by rw [List.contains_iff_mem.2 (List.mem_map.2 ⟨x, hx, rfl⟩)]; simp
  exact laidMet_layVars (w0 := base0 os) (plainL.map (·.1)) [] (by rw [e1]; rfl) (by rw [e1]; kernel_rfl) (by rw [e1]; kernel_rfl) (by rw [e2]; exact LaidIn.none)
theorem start_met (os : Os) (args : Array Value) : laidMetH Tryz.prog Rows.checkTurnsRow.laid ((start os).forCall (fun _ _ => 0) ⟨#[], args, []⟩).memory :=
  laidMetH_of_parts ((start_plain os).of_heap (by simp [World.memory, World.forCall, Input.heap])) (by kernel_rfl)
theorem good {s : ByteArray} (hs : s.size ≤ 1200) (p : List De × List St) (k : Nat) (h : parse2 s = .ok p k) : p.1.length ≤ 20 ∧ depL p.2 ≤ 8 ∧ p.2.length ≤ 1000000 ∧ SmL p.2 := by
  obtain ⟨g1, g2⟩ := parse_inv (by omega) h
  have h1 : (stsK p.2).length ≤ (printK p).length := by simp only [printK, List.length_append]; omega
  have h2 := stsK_ge p.2
  exact ⟨g1.many, g1.deep, by omega, sm_sts p.2 (by omega)⟩

set_option maxRecDepth 100000 in
theorem lifted (os : Os) (started : os.Started) (H : Type) (enc : TypeId × Value → H) :
    ReturnsInHanded {} Tryz.checked os 6 .any (fun w args => (Rows.checkTurnsSpec.pre enc Tryz.prog Tryz.f6 Rows.checkTurnsRow.domain false w args ∧ laidMetH Tryz.prog Rows.checkTurnsRow.laid w) ∧ sizedMet enc Tryz.prog Tryz.f6 (OpenSpec.ofChange Rows.checkTurnsSpec) false w args)
      (Rows.checkTurnsSpec.post enc Tryz.prog Tryz.f6 false true false false) := by
  refine returnsInHanded_of_change_and (C := Tryz.checked) (X := fun w _ => laidMetH Tryz.prog Rows.checkTurnsRow.laid w) (fun _ _ _ hh h => h.of_heap hh) own started (by kernel_rfl) Tryz.func6
    (ChangeSpec.witness_shaped (enc := enc) (C := Tryz.checked) (os := os) (X := fun w _ => laidMetH Tryz.prog Rows.checkTurnsRow.laid w) false (start os) #[.string ⟨#[]⟩, .int .i64 0] 8 (start_os _) (World.shaped_of_ZipB (by kernel_rfl) (by kernel_rfl)) (by kernel_rfl) (by kernel_rfl) (by kernel_rfl) (start_met os _)) ?_
  intro W base args ds gs before hval0 hW _ _ hL _
  have hval : ∀ (j : Nat) t v, Tryz.f6.params[j]? = some t → args[j]? = some v → Value.okWide Tryz.prog W .any base t v := hval0
  have hW' := hW
  obtain ⟨p, q, hA0, hV, rfl, hfz, hnd⟩ := hW
  have hA : DataW.TrodAll enc Tryz.prog W 0 (fun _ => true) true Tryz.f6.params.toList args.toList ds p := hA0
  rw [Tryz.params6] at hA hval
  obtain ⟨v0, vs0, d0, ds0, p0, q0, hargs, rfl, rfl, h0, r0⟩ := trodAll_cons hA
  obtain ⟨v1, vs1, d1, ds1, p1, q1, rfl, rfl, rfl, h1, r1⟩ := trodAll_cons r0
  obtain ⟨rfl, rfl, rfl⟩ := trodAll_nil r1
  obtain rfl : args = #[v0, v1] := by cases args; simp_all
  obtain ⟨rfl, rfl⟩ := trodVars_none hV
  obtain ⟨s, rfl, rfl, rfl, w0⟩ := open_string Tryz.underlying9 (hval 0 9 v0 rfl rfl) h0
  obtain ⟨n, rfl, rfl, rfl, hwn⟩ := open_int Tryz.underlying3 (hval 1 3 v1 rfl rfl) h1
  have hv := vars hL
  have hh := hdl hL
  clear hA0 hval0
  refine (turns_at s n W hv hh (big hL) (fun hs => good hs)).mono fun e W' ⟨he, bel⟩ => ?_
  subst he
  exact ⟨_, rfl, _, _, _, [], _, [], hW', trodAll_mk1 (shut_bool Tryz.underlying4 _), trodAll_cons_mk (shut_string Tryz.underlying9 w0) (trodAll_cons_mk (shut_int Tryz.underlying3 hwn) trodAll_mk0), rfl, bel.frame _, fun h => by cases h⟩

theorem over : Rows.CheckTurnsSaid :=
  OpenClaim.holds_of_wide 6 Tryz.f6 rfl rfl rfl rfl rfl rfl rfl ⟨rfl, rfl, rfl, rfl, rfl⟩ rfl rfl rfl rfl rfl (by kernel_rfl) Tryz.func6 (by kernel_rfl)
    (of_decide_eq_true (by kernel_rfl)) (by unfold Func.isWrapper; first | (rw [if_pos (by decide +kernel)]; kernel_rfl) | (rw [if_neg (by decide +kernel)]; exact ⟨rfl, rfl⟩))
    (fun os started H enc _ => lifted os started H enc)

theorem proved : Rows.CheckTurnsCardSaid :=
  Claim7.holds_tied_plain_at .later [] [.data, .handle, .data, .data, .data, .data, .pinned] true (true, "637ae1b0aa8e98c8c408b703868b9cdcadf46a2281b062f128a4f05ac7ca5a5b") true
    over (fun _ h => by cases h) (by kernel_rfl) (fun _ h => by cases h) checkTurns_row_tie rfl ⟨rfl, rfl⟩ (by kernel_rfl) rfl
    (fun f fn hf hfn => by
      obtain rfl : f = 6 := Option.some.inj ((show Tryz.prog.funcNamed "rungwork/rungworkkeep.CheckTurns" = some 6 by kernel_rfl).symm.trans hf) |>.symm
      obtain rfl : fn = Tryz.f6 := (Option.some.inj (Tryz.func6.symm.trans hfn)).symm
      exact ⟨by kernel_rfl, fun j t ht => by
        rw [Tryz.params6] at ht
        rcases j with _ | _ | j
        · have h9 : t = 9 := by simpa using ht.symm
          subst h9
          exact (show Tryz.prog.wantsStandIn 9 = false by kernel_rfl)
        · have h9 : t = 3 := by simpa using ht.symm
          subst h9
          exact (show Tryz.prog.wantsStandIn 3 = false by kernel_rfl)
        · simp at ht⟩)
    (by kernel_rfl)
end Go.Proofs.YtgncgbngjdcpgaaGreatDoor.checkTurns
namespace Go.Proofs.YtgncgbngjdcpgaaGreatDoor
theorem checkTurns_holds : Rows.CheckTurnsCardSaid := checkTurns.proved
#print axioms checkTurns_holds
end Go.Proofs.YtgncgbngjdcpgaaGreatDoor
