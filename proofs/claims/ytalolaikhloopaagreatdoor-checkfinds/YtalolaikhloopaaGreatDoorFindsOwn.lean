/-
 What is proved: called with any text, any int and any name, rungworklaw.CheckFinds returns true (of whatever program the text is, the code's Check finds, and where, what the document's answer finds; blocks have the fields, and are called with as many, as it tells), it panics nowhere, and each argument reads behind the call as it did ahead of it; on condition that the listed package variables hold what they were set to (the card ties that to the program's text).
-/
import Derived.Test.YtalolaikhloopaaGreatDoorRows
import Derived.Test.YtalolaikhloopaaGreatDoorCards
import Derived.Test.YtalolaikhloopaaGreatDoorTie
import Derived.SevenTiedAt
import Derived.Test.YtalolaikhloopaaGreatDoorFinds
import Derived.Test.YtalolaikhloopaaGreatDoorLaidR
import Derived.Test.YtalolaikhloopaaGreatDoorFindFacts
set_option linter.unusedSimpArgs false
set_option linter.unusedVariables false
namespace Go.Proofs.YtalolaikhloopaaGreatDoor.checkFinds
open Go.ChangeShapes Go.WideShapes Go.ChangeAt Go.RowKit Go.Deep
open Go.ChangeMaps (open_string shut_string)

abbrev plainL : List (String × DataW Unit) := plainOf Rows.checkFindsRow.laid
theorem isPlain : plainL = [("math/bits.deBruijn32tab", Rows.laid_math_bits_deBruijn32tab), ("math/bits.deBruijn64tab", Rows.laid_math_bits_deBruijn64tab), ("internal/strconv.uint64pow10", Rows.laid_internal_strconv_uint64pow10), ("unicode/utf8.acceptRanges", Rows.laid_unicode_utf8_acceptRanges), ("strconv.ErrRange", Rows.laid_strconv_ErrRange), ("strconv.ErrSyntax", Rows.laid_strconv_ErrSyntax), ("rungwork/rungworkref.Fine", Rows.laid_rungwork_rungworkref_Fine), ("rungwork/tree.ways", Rows.laid_rungwork_tree_ways), ("rungwork/tree.types", Rows.laid_rungwork_tree_types), ("rungwork/tree.marks", Rows.laid_rungwork_tree_marks), ("rungwork/tree.kept", Rows.laid_rungwork_tree_kept), ("unicode/utf8.first", Rows.laid_unicode_utf8_first)] := by kernel_rfl
theorem env {W : World} (h : laidMetH Tryz.prog Rows.checkFindsRow.laid W) (hsh : W.ShapedOpen Tryz.prog) : Env W :=
 env_of h hsh (by simp [Rows.checkFindsRow, List.mem_filter]; kernel_rfl) (by show _ ∈ plainL; rw [isPlain]; simp) (by show _ ∈ plainL; rw [isPlain]; simp) (by show _ ∈ plainL; rw [isPlain]; simp) (by show _ ∈ plainL; rw [isPlain]; simp) (by show _ ∈ plainL; rw [isPlain]; simp) (by show _ ∈ plainL; rw [isPlain]; simp)
noncomputable def start (os : Os) : World := (base0 os).layVars Tryz.prog plainL
theorem start_os (os : Os) : (start os).os = os := World.layVars_os _ _ _
theorem start_plain (os : Os) : laidMet Tryz.prog plainL (start os) := by
 have e1 : (plainL.filter fun x => (plainL.map (·.1)).contains x.1) = plainL := List.filter_eq_self.2 fun x hx => List.contains_iff_mem.2 (List.mem_map.2 ⟨x, hx, rfl⟩)
 have e2 : (plainL.filter fun x => !(plainL.map (·.1)).contains x.1) = [] := List.filter_eq_nil_iff.2 fun x hx => by rw [List.contains_iff_mem.2 (List.mem_map.2 ⟨x, hx, rfl⟩)]; simp
 exact laidMet_layVars (w0 := base0 os) (plainL.map (·.1)) [] (by rw [e1]; rfl) (by rw [e1]; kernel_rfl) (by rw [e1]; kernel_rfl) (by rw [e2]; exact LaidIn.none)
theorem start_met (os : Os) (args : Array Value) : laidMetH Tryz.prog Rows.checkFindsRow.laid ((start os).forCall (fun _ _ => 0) ⟨#[], args, []⟩).memory :=
 laidMetH_of_parts ((start_plain os).of_heap (by simp [World.memory, World.forCall, Input.heap])) (by kernel_rfl)

set_option maxRecDepth 100000 in
theorem lifted (os : Os) (started : os.Started) (H : Type) (enc : TypeId × Value → H) :
  ReturnsInHanded {} Tryz.checked os 5 .any (fun w args => (Rows.checkFindsSpec.pre enc Tryz.prog Tryz.f5 Rows.checkFindsRow.domain false w args ∧ laidMetH Tryz.prog Rows.checkFindsRow.laid w) ∧ sizedMet enc Tryz.prog Tryz.f5 (OpenSpec.ofChange Rows.checkFindsSpec) false w args)
   (Rows.checkFindsSpec.post enc Tryz.prog Tryz.f5 false true false false) := by
 refine returnsInHanded_and_shaped (C := Tryz.checked) (X := fun w _ => laidMetH Tryz.prog Rows.checkFindsRow.laid w) (fun _ _ _ hh h => h.of_heap hh) own started (by kernel_rfl) Tryz.func5
  (ChangeSpec.witness_shaped (enc := enc) (C := Tryz.checked) (os := os) (X := fun w _ => laidMetH Tryz.prog Rows.checkFindsRow.laid w) false (start os) #[.string ⟨#[]⟩, .int .i64 0, .string ⟨#[]⟩] 8 (start_os _) (World.shaped_of_ZipB (by kernel_rfl) (by kernel_rfl)) (by kernel_rfl) (by kernel_rfl) (by kernel_rfl) (start_met os _)) ?_
 intro W base args ds gs before hval0 hW hL hsh
 have hval : ∀ (j : Nat) t v, Tryz.f5.params[j]? = some t → args[j]? = some v → Value.okWide Tryz.prog W .any base t v := hval0
 have hW' := hW
 obtain ⟨p, q, hA0, hV, rfl, hfz, hnd⟩ := hW
 have hA : DataW.TrodAll enc Tryz.prog W 0 (fun _ => true) true Tryz.f5.params.toList args.toList ds p := hA0
 rw [Tryz.params5] at hA hval
 obtain ⟨v0, vs0, d0, ds0, p0, q0, hargs, rfl, rfl, h0, r0⟩ := trodAll_cons hA
 obtain ⟨v1, vs1, d1, ds1, p1, q1, rfl, rfl, rfl, h1, r1⟩ := trodAll_cons r0
 obtain ⟨v2, vs2, d2, ds2, p2, q2, rfl, rfl, rfl, h2, r2⟩ := trodAll_cons r1
 obtain ⟨rfl, rfl, rfl⟩ := trodAll_nil r2
 obtain rfl : args = #[v0, v1, v2] := by cases args; simp_all
 obtain ⟨rfl, rfl⟩ := trodVars_none hV
 obtain ⟨t, rfl, rfl, rfl, w0⟩ := open_string Tryz.underlying9 (hval 0 9 v0 rfl rfl) h0
 obtain ⟨m, rfl, rfl, rfl, w1⟩ := open_int Tryz.underlying3 (hval 1 3 v1 rfl rfl) h1
 obtain ⟨s, rfl, rfl, rfl, w2⟩ := open_string Tryz.underlying9 (hval 2 9 v2 rfl rfl) h2
 have hv := env hL hsh
 clear hA0 hval0
 refine (finds_at t s m W hv).mono fun e W' ⟨he, bel⟩ => ?_
 subst he
 exact ⟨_, rfl, _, _, _, [], _, [], hW', trodAll_mk1 (shut_bool Tryz.underlying4 _), trodAll_cons_mk (shut_string Tryz.underlying9 w0) (trodAll_cons_mk (shut_int Tryz.underlying3 w1) (trodAll_cons_mk (shut_string Tryz.underlying9 w2) trodAll_mk0)), rfl, bel.frame _, fun h => by cases h⟩

theorem over : Rows.CheckFindsSaid :=
 OpenClaim.holds_of_wide 5 Tryz.f5 rfl rfl rfl rfl rfl rfl rfl ⟨rfl, rfl, rfl, rfl, rfl⟩ rfl rfl rfl rfl rfl named Tryz.func5 k_all k_inst k_wrap
  (fun os started H enc _ => lifted os started H enc)

theorem proved : Rows.CheckFindsCardSaid :=
 Claim7.holds_tied_plain_at .later [] [.data, .data, .data, .data, .handle, .sentinel, .sentinel, .data, .data, .data, .data, .data, .pinned] true (true, "2556129c3ff6871fb25a6db79108bc126dc34363e5577c5fb7f5878b69d95704") true
  over (fun _ h => by cases h) (by kernel_rfl) (fun _ h => by cases h) checkFinds_row_tie rfl ⟨rfl, rfl⟩ (by kernel_rfl) rfl
  (fun f fn hf hfn => by
   obtain rfl : f = 5 := Option.some.inj ((show Tryz.prog.funcNamed "rungwork/rungworklaw.CheckFinds" = some 5 by kernel_rfl).symm.trans hf) |>.symm
   obtain rfl : fn = Tryz.f5 := (Option.some.inj (Tryz.func5.symm.trans hfn)).symm
   exact ⟨by kernel_rfl, fun j t ht => by
    rw [Tryz.params5] at ht
    rcases j with _ | _ | _ | j
    ·have h9 : t = 9 := by simpa using ht.symm
     subst h9
     exact (show Tryz.prog.wantsStandIn 9 = false by kernel_rfl)
    ·have h9 : t = 3 := by simpa using ht.symm
     subst h9
     exact (show Tryz.prog.wantsStandIn 3 = false by kernel_rfl)
    ·have h9 : t = 9 := by simpa using ht.symm
     subst h9
     exact (show Tryz.prog.wantsStandIn 9 = false by kernel_rfl)
    ·simp at ht⟩)
  (by kernel_rfl)
end Go.Proofs.YtalolaikhloopaaGreatDoor.checkFinds
namespace Go.Proofs.YtalolaikhloopaaGreatDoor
theorem checkFinds_holds : Rows.CheckFindsCardSaid := checkFinds.proved
#print axioms checkFinds_holds
end Go.Proofs.YtalolaikhloopaaGreatDoor
