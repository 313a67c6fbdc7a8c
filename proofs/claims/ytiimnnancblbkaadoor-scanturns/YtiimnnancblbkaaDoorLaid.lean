/-
  FROM WHAT THE ROW LISTS: what the package's variables hold.
-/
import Derived.MakeChecks
import Derived.Lib.LaidU8
import Derived.Lib.LaidTab
import Derived.Test.YtiimnnancblbkaaDoorRow
set_option linter.unusedSimpArgs false
set_option linter.unusedVariables false
namespace Go.Proofs.YtiimnnancblbkaaDoor
open Go.RowKit

theorem strs_of_tab {H : Type} {enc : TypeId × Value → H} {P : Program} {w : World} {base : Nat} {sp : Nat → Bool} {held : Bool} {fuel : Nat} {t e : TypeId} {n : Nat} {cs : List Value} {zs : List (List UInt8)} {p : List MemPlace}
    (ht : P.underlying t = some (.array n e)) (he : P.underlying e = some .string) (hce : P.cellsOf e = 1) (hct : P.cellsOf t = n)
    (h : DataW.trod enc P w base sp held fuel t cs = some (.agg (zs.map fun z => .lit (.string z)), p)) : cs = zs.map fun z => Value.string ⟨z.toArray⟩ := by
  cases fuel with
  | zero => simp [DataW.trod] at h
  | succ fuel =>
    simp only [DataW.trod, ht, hce, hct, Nat.mul_one] at h
    split at h
    · rename_i hl
      obtain ⟨xs, hm, hx⟩ := Option.map_eq_some_iff.1 h
      have hxs : xs.map (·.1) = zs.map fun z => (DataW.lit (.string z) : DataW H) := by
        have := congrArg Prod.fst hx
        simpa using this
      have hxl : xs.length = n := by simpa using Lib.mapM_length hm
      have hzl : zs.length = n := by
        have := congrArg List.length hxs
        simp at this
        omega
      apply List.ext_getElem?
      intro i
      by_cases hi : i < n
      · obtain ⟨b, hb, hf⟩ := Lib.mapM_at hm i i (by simp [hi])
        obtain ⟨z, hc, rfl, _⟩ := DataW.trod_string he hf
        have h1 : cs[i]? = some (.string z) := by
          have := congrArg (·[0]?) hc
          simpa [List.getElem?_take, List.getElem?_drop] using this
        have h2 : (xs.map (·.1))[i]? = some (DataW.lit (.string z.data.toList) : DataW H) := by simp [hb]
        rw [hxs] at h2
        simp only [List.getElem?_map, Option.map_eq_some_iff, DataW.lit.injEq, Lit.string.injEq] at h2
        obtain ⟨z', hz', e'⟩ := h2
        have e2 : (⟨z'.toArray⟩ : ByteArray) = z := by rw [e']
        simp [h1, hz', e2]
      · rw [List.getElem?_eq_none (by omega), List.getElem?_eq_none (by simp; omega)]
    · cases h

theorem var_block {P : Program} {w : World} {n : String} {g : Nat} {cs : Array Value} (hg : P.globalNamed n = some g) (h : w.var? P n = some cs) : w.heap[g]? = some (.cells cs (vt w g) (vz w g)) := by
  unfold World.var? at h
  rw [hg] at h
  simp only [Option.bind_some] at h
  cases hh : w.heap[g]? with
  | none => rw [hh] at h; cases h
  | some o =>
    rw [hh] at h
    cases o with
    | cells c t z =>
      simp only [Option.some.injEq] at h
      subst h
      simp [vt, vz, hh]
    | _ => cases h

theorem strs_laid {P : Program} {w : World} {l : List (String × DataW Unit)} (h : laidMet P l w) {n : String} {g : Nat} {t e : TypeId} {m : Nat} (zs : List (List UInt8)) (hm : (n, DataW.agg (zs.map fun z => .lit (.string z))) ∈ l)
    (hg : P.globalNamed n = some g) (hty : (P.globals[g]?).map (·.type) = some t) (ht : P.underlying t = some (.array m e)) (he : P.underlying e = some .string) (hce : P.cellsOf e = 1) (hct : P.cellsOf t = m) :
    w.heap[g]? = some (.cells (strs zs) (vt w g) (vz w g)) := by
  obtain ⟨g', t', cs, fuel, p, h1, h2, h3, h4⟩ := Lib.laidMet.reads h hm
  obtain rfl := Option.some.inj (hg.symm.trans h1)
  obtain rfl := Option.some.inj (hty.symm.trans h2)
  have := strs_of_tab ht he hce hct h4
  have e1 : cs = strs zs := by
    unfold strs
    rw [← this]
  rw [← e1]
  exact var_block hg h3

theorem tab_laid {P : Program} {w : World} {l : List (String × DataW Unit)} (h : laidMet P l w) {n : String} {g : Nat} {t e : TypeId} {m : Nat} {k : IntKind} (zs : List Int) (hm : (n, Lib.tabData k zs) ∈ l)
    (hg : P.globalNamed n = some g) (hty : (P.globals[g]?).map (·.type) = some t) (ht : P.underlying t = some (.array m e)) (he : P.underlying e = some (.int k)) (hce : P.cellsOf e = 1) (hct : P.cellsOf t = m) :
    Lib.TabIs P w n k zs := by
  obtain ⟨g', t', cs, fuel, p, h1, h2, h3, h4⟩ := Lib.laidMet.reads h hm
  obtain rfl := Option.some.inj (hg.symm.trans h1)
  obtain rfl := Option.some.inj (hty.symm.trans h2)
  unfold Lib.TabIs
  rw [h3, ← Lib.cells_of_tab ht he hce hct h4]

/-- what is asked of the listed variables -/
theorem vars_laid {w : World} {l : List (String × DataW Unit)} (h : laidMet Tryd.prog l w)
    (h1 : ("rungwork/tree.marks", DataW.agg (marksL.map fun z => .lit (.string z))) ∈ l) (h2 : ("rungwork/tree.kept", DataW.agg (keptL.map fun z => .lit (.string z))) ∈ l)
    (h3 : ("rungwork/tree.types", DataW.agg ([[], [98, 111, 111, 108], [98, 121, 116, 101], [116, 105, 109, 101, 114], [99, 111, 117, 110, 116, 101, 114], [101, 100, 103, 101]].map fun z => .lit (.string z))) ∈ l)
    (h4 : ("rungwork/tree.ways", DataW.agg ([[], [105, 110], [111, 117, 116], [118, 97, 114]].map fun z => .lit (.string z))) ∈ l) : Vars w :=
  ⟨strs_laid h _ h1 (by kernel_rfl) (by kernel_rfl) (m := 15) (e := 9) (t := 122) (by kernel_rfl) (by kernel_rfl) (by kernel_rfl) (by kernel_rfl),
   strs_laid h _ h2 (by kernel_rfl) (by kernel_rfl) (m := 20) (e := 9) (t := 129) (by kernel_rfl) (by kernel_rfl) (by kernel_rfl) (by kernel_rfl),
   strs_laid h _ h3 (by kernel_rfl) (by kernel_rfl) (m := 6) (e := 9) (t := 125) (by kernel_rfl) (by kernel_rfl) (by kernel_rfl) (by kernel_rfl),
   strs_laid h _ h4 (by kernel_rfl) (by kernel_rfl) (m := 4) (e := 9) (t := 124) (by kernel_rfl) (by kernel_rfl) (by kernel_rfl) (by kernel_rfl)⟩
theorem big_of_laid {w : World} {l : List (String × DataW Unit)} {d : DataW Unit} (h : laidMet Tryd.prog l w) (h1 : ("unicode/utf8.acceptRanges", d) ∈ l) : 5 ≤ w.heap.size := by
  obtain ⟨g', t', cs, fuel, p, e1, e2, e3, e4⟩ := Lib.laidMet.reads h h1
  have hg : Tryd.prog.globalNamed "unicode/utf8.acceptRanges" = some 6 := by kernel_rfl
  have := blk_lt (var_block hg e3)
  omega
end Go.Proofs.YtiimnnancblbkaaDoor
