/-
  What is proved: called with any text, rungworklaw.TreeReads returns true (the code's Parse, Name, Print and Decls tell of the text, if it is of at most 1500 bytes, what the document's answer tells), it panics nowhere, and the text reads behind the call as it did ahead of it; on condition that the listed package variables hold what they were set to (the card ties that to the program's text).
-/
import Derived.Test.YtlbgdoajaplabaaGreatDoorRows
import Derived.Test.YtlbgdoajaplabaaGreatDoorCards
import Derived.Test.YtlbgdoajaplabaaGreatDoorTie
import Derived.SevenTiedAt
import Derived.Test.YtlbgdoajaplabaaGreatDoorReads
import Derived.Test.YtlbgdoajaplabaaGreatDoorLaidT
import Derived.Test.YtlbgdoajaplabaaGreatDoorRdFacts
set_option linter.unusedSimpArgs false
set_option linter.unusedVariables false
namespace Go.Proofs.YtlbgdoajaplabaaGreatDoor.treeReads
open Go.ChangeShapes Go.WideShapes Go.ChangeAt Go.RowKit Go.Deep
open Go.ChangeMaps (open_string shut_string)

abbrev plainL : List (String × DataW Unit) := plainOf Rows.treeReadsRow.laid
theorem isPlain : plainL = [("math/bits.deBruijn32tab", Rows.laid_math_bits_deBruijn32tab), ("math/bits.deBruijn64tab", Rows.laid_math_bits_deBruijn64tab), ("internal/strconv.uint64pow10", Rows.laid_internal_strconv_uint64pow10), ("unicode/utf8.acceptRanges", Rows.laid_unicode_utf8_acceptRanges), ("strconv.ErrRange", Rows.laid_strconv_ErrRange), ("strconv.ErrSyntax", Rows.laid_strconv_ErrSyntax), ("rungwork/rungworkref.Fine", Rows.laid_rungwork_rungworkref_Fine), ("rungwork/tree.ways", Rows.laid_rungwork_tree_ways), ("rungwork/tree.types", Rows.laid_rungwork_tree_types), ("rungwork/tree.marks", Rows.laid_rungwork_tree_marks), ("rungwork/tree.kept", Rows.laid_rungwork_tree_kept), ("unicode/utf8.first", Rows.laid_unicode_utf8_first)] := by kernel_rfl
theorem env {W : World} (h : laidMetH Tryz.prog Rows.treeReadsRow.laid W) (hsh : W.ShapedOpen Tryz.prog) : Env W :=
  env_of h hsh (by simp [Rows.treeReadsRow, List.mem_filter]; kernel_rfl) (by show _ ∈ plainL; rw [isPlain]; simp) (by show _ ∈ plainL; rw [isPlain]; simp) (by show _ ∈ plainL; rw [isPlain]; simp) (by show _ ∈ plainL; rw [isPlain]; simp) (by show _ ∈ plainL; rw [isPlain]; simp) (by show _ ∈ plainL; rw [isPlain]; simp)
theorem tab {W : World} (h : laidMetH Tryz.prog Rows.treeReadsRow.laid W) : Tab W :=
  tab_of_laid (laid_two h (x := ("errors.errorType", Rows.laid_errors_errorType)) (by simp [Rows.treeReadsRow, List.mem_filter]; kernel_rfl)).1 (by rw [show (Lib.tabData .u64 Lib.pow10Tab : DataW Unit) = Rows.laid_internal_strconv_uint64pow10 by kernel_rfl]; show _ ∈ plainL; rw [isPlain]; simp)
noncomputable def start (os : Os) : World := (base0 os).layVars Tryz.prog plainL
theorem start_os (os : Os) : (start os).os = os := World.layVars_os _ _ _
theorem start_plain (os : Os) : laidMet Tryz.prog plainL (start os) := by
  have e1 : (plainL.filter fun x => (plainL.map (·.1)).contains x.1) = plainL := List.filter_eq_self.2 fun x hx => List.contains_iff_mem.2 (List.mem_map.2 ⟨x, hx, rfl⟩)
  have e2 : (plainL.filter fun x => !(plainL.map (·.1)).contains x.1) = [] := List.filter_eq_nil_iff.2 fun x hx => by rw [List.contains_iff_mem.2 (List.mem_map.2 ⟨x, hx, rfl⟩)]; simp
  exact laidMet_layVars (w0 := base0 os) (plainL.map (·.1)) [] (by rw [e1]; rfl) (by rw [e1]; kernel_rfl) (by rw [e1]; kernel_rfl) (by rw [e2]; exact LaidIn.none)
theorem start_met (os : Os) (args : Array Value) : laidMetH Tryz.prog Rows.treeReadsRow.laid ((start os).forCall (fun _ _ => 0) ⟨#[], args, []⟩).memory :=
  laidMetH_of_parts ((start_plain os).of_heap (by simp [World.memory, World.forCall, Input.heap])) (by kernel_rfl)

theorem walk (s : ByteArray) (w : World) (henv : Env w) (ht : Tab w) :
    Calls Tryz.prog 3 #[.string s] w fun e w' => e = .returned (.bool true) ∧ Below w.heap.size w w' := by
  by_cases h : 1500 < s.size
  · exact reads_long s w h
  · exact reads_at s w h henv ht

set_option maxRecDepth 100000 in
theorem lifted (os : Os) (started : os.Started) (H : Type) (enc : TypeId × Value → H) :
    ReturnsInHanded {} Tryz.checked os 3 .any (fun w args => (Rows.treeReadsSpec.pre enc Tryz.prog Tryz.f3 Rows.treeReadsRow.domain false w args ∧ laidMetH Tryz.prog Rows.treeReadsRow.laid w) ∧ sizedMet enc Tryz.prog Tryz.f3 (OpenSpec.ofChange Rows.treeReadsSpec) false w args)
      (Rows.treeReadsSpec.post enc Tryz.prog Tryz.f3 false true false false) := by
  refine returnsInHanded_and_shaped (C := Tryz.checked) (X := fun w _ => laidMetH Tryz.prog Rows.treeReadsRow.laid w) (fun _ _ _ hh h => h.of_heap hh) own started (by kernel_rfl) Tryz.func3
    (ChangeSpec.witness_shaped (enc := enc) (C := Tryz.checked) (os := os) (X := fun w _ => laidMetH Tryz.prog Rows.treeReadsRow.laid w) false (start os) #[.string ⟨#[]⟩] 8 (start_os _) (World.shaped_of_ZipB (by kernel_rfl) (by kernel_rfl)) (by kernel_rfl) (by kernel_rfl) (by kernel_rfl) (start_met os _)) ?_
  intro W base args ds gs before hval0 hW hL hsh
  have hval : ∀ (j : Nat) t v, Tryz.f3.params[j]? = some t → args[j]? = some v → Value.okWide Tryz.prog W .any base t v := hval0
  have hW' := hW
  obtain ⟨p, q, hA0, hV, rfl, hfz, hnd⟩ := hW
  have hA : DataW.TrodAll enc Tryz.prog W 0 (fun _ => true) true Tryz.f3.params.toList args.toList ds p := hA0
  rw [Tryz.params3] at hA hval
  obtain ⟨v0, vs0, d0, ds0, p0, q0, hargs, rfl, rfl, h0, r0⟩ := trodAll_cons hA
  obtain ⟨rfl, rfl, rfl⟩ := trodAll_nil r0
  obtain rfl : args = #[v0] := by cases args; simp_all
  obtain ⟨rfl, rfl⟩ := trodVars_none hV
  obtain ⟨s, rfl, rfl, rfl, w0⟩ := open_string Tryz.underlying9 (hval 0 9 v0 rfl rfl) h0
  have hv := env hL hsh
  have ht := tab hL
  clear hA0 hval0
  refine (walk s W hv ht).mono fun e W' ⟨he, bel⟩ => ?_
  subst he
  exact ⟨_, rfl, _, _, _, [], _, [], hW', trodAll_mk1 (shut_bool Tryz.underlying4 _), trodAll_cons_mk (shut_string Tryz.underlying9 w0) trodAll_mk0, rfl, bel.frame _, fun h => by cases h⟩

theorem over : Rows.TreeReadsSaid :=
  OpenClaim.holds_of_wide 3 Tryz.f3 rfl rfl rfl rfl rfl rfl rfl ⟨rfl, rfl, rfl, rfl, rfl⟩ rfl rfl rfl rfl rfl named Tryz.func3 k_all k_inst k_wrap
    (fun os started H enc _ => lifted os started H enc)

theorem proved : Rows.TreeReadsCardSaid :=
  Claim7.holds_tied_plain_at .later [] [.data, .data, .data, .data, .handle, .sentinel, .sentinel, .data, .data, .data, .data, .data, .pinned] true (true, "9a29438cbeaa3dd1217b6c2a4e6206731070d6a1bf7d58e40cc177013f97c546") true
    over (fun _ h => by cases h) (by kernel_rfl) (fun _ h => by cases h) treeReads_row_tie rfl ⟨rfl, rfl⟩ (by kernel_rfl) rfl
    (fun f fn hf hfn => by
      obtain rfl : f = 3 := Option.some.inj ((show Tryz.prog.funcNamed "rungwork/rungworklaw.TreeReads" = some 3 by kernel_rfl).symm.trans hf) |>.symm
      obtain rfl : fn = Tryz.f3 := (Option.some.inj (Tryz.func3.symm.trans hfn)).symm
      exact ⟨by kernel_rfl, fun j t ht => by
        rw [Tryz.params3] at ht
        rcases j with _ | j
        · have h9 : t = 9 := by simpa using ht.symm
          subst h9
          exact (show Tryz.prog.wantsStandIn 9 = false by kernel_rfl)
        · simp at ht⟩)
    (by kernel_rfl)
end Go.Proofs.YtlbgdoajaplabaaGreatDoor.treeReads
namespace Go.Proofs.YtlbgdoajaplabaaGreatDoor
theorem treeReads_holds : Rows.TreeReadsCardSaid := treeReads.proved
#print axioms treeReads_holds
end Go.Proofs.YtlbgdoajaplabaaGreatDoor
