/-
  LAID: what the listed variables hold, drawn from what a row says of them; and the world's shape kept beside it.
-/
import Derived.Test.YtlbgdoajaplabaaGreatDoorRows
import Derived.WalkKit
import Derived.ProofKit
import Derived.OpenShut
import Derived.ShutString
import Derived.ChangeOld
import Derived.Below
import Derived.Lay
import Derived.Stop.Joined
import Derived.HandedShaped
import Derived.Handed
import Derived.ChangeSlices
import Derived.ChangeSame
import Derived.LaidHandle
import Derived.MakeChecks
import Derived.Lib.LaidU8
import Derived.Lib.LaidTab
import Derived.Shelf.Vars
import Derived.Test.YtlbgdoajaplabaaGreatDoorRdU
import Derived.Test.YtlbgdoajaplabaaGreatDoorText
set_option linter.unusedSimpArgs false
set_option linter.unusedVariables false
namespace Go.Proofs.YtlbgdoajaplabaaGreatDoor
open Go.RowKit

theorem strs_of_tab {H : Type} {enc : TypeId × Value → H} {P : Program} {w : World} {base : Nat} {sp : Nat → Bool} {held : Bool} {fuel : Nat} {t e : TypeId} {n : Nat} {cs : List Value} {zs : List (List UInt8)} {p : List MemPlace}
    (ht : P.underlying t = some (.array n e)) (he : P.underlying e = some .string) (hce : P.cellsOf e = 1) (hct : P.cellsOf t = n)
    (h : DataW.trod enc P w base sp held fuel t cs = some (.agg (zs.map fun z => .lit (.string z)), p)) : cs = zs.map fun z => Value.string ⟨z.toArray⟩ := by
  cases fuel with
  | zero => simp [DataW.trod] at h
  | succ fuel =>
    simp only [DataW.trod, ht, hce, hct, Nat.mul_one] at h
    split at h
    · rename_i hl
      obtain ⟨xs, hm, hx⟩ := Option.map_eq_some_iff.1 h
      have hxs : xs.map (·.1) = zs.map fun z => (DataW.lit (.string z) : DataW H) := by
        have := congrArg Prod.fst hx
        simpa using this
      have hxl : xs.length = n := by simpa using Lib.mapM_length hm
      have hzl : zs.length = n := by
        have := congrArg List.length hxs
        simp at this
        omega
      apply List.ext_getElem?
      intro i
      by_cases hi : i < n
      · obtain ⟨b, hb, hf⟩ := Lib.mapM_at hm i i (by simp [hi])
        obtain ⟨z, hc, rfl, _⟩ := DataW.trod_string he hf
        have h1 : cs[i]? = some (.string z) := by
          have := congrArg (·[0]?) hc
          simpa [List.getElem?_take, List.getElem?_drop] using this
        have h2 : (xs.map (·.1))[i]? = some (DataW.lit (.string z.data.toList) : DataW H) := by simp [hb]
        rw [hxs] at h2
        simp only [List.getElem?_map, Option.map_eq_some_iff, DataW.lit.injEq, Lit.string.injEq] at h2
        obtain ⟨z', hz', e'⟩ := h2
        have e2 : (⟨z'.toArray⟩ : ByteArray) = z := by rw [e']
        simp [h1, hz', e2]
      · rw [List.getElem?_eq_none (by omega), List.getElem?_eq_none (by simp; omega)]
    · cases h

theorem var_block {P : Program} {w : World} {n : String} {g : Nat} {cs : Array Value} (hg : P.globalNamed n = some g) (h : w.var? P n = some cs) : w.heap[g]? = some (.cells cs (vt w g) (vz w g)) := by
  unfold World.var? at h
  rw [hg] at h
  simp only [Option.bind_some] at h
  cases hh : w.heap[g]? with
  | none => rw [hh] at h; cases h
  | some o =>
    rw [hh] at h
    cases o with
    | cells c t z =>
      simp only [Option.some.injEq] at h
      subst h
      simp [vt, vz, hh]
    | _ => cases h

theorem strs_laid {P : Program} {w : World} {l : List (String × DataW Unit)} (h : laidMet P l w) {n : String} {g : Nat} {t e : TypeId} {m : Nat} (zs : List (List UInt8)) (hm : (n, DataW.agg (zs.map fun z => .lit (.string z))) ∈ l)
    (hg : P.globalNamed n = some g) (hty : (P.globals[g]?).map (·.type) = some t) (ht : P.underlying t = some (.array m e)) (he : P.underlying e = some .string) (hce : P.cellsOf e = 1) (hct : P.cellsOf t = m) :
    w.heap[g]? = some (.cells (strs zs) (vt w g) (vz w g)) := by
  obtain ⟨g', t', cs, fuel, p, h1, h2, h3, h4⟩ := Lib.laidMet.reads h hm
  obtain rfl := Option.some.inj (hg.symm.trans h1)
  obtain rfl := Option.some.inj (hty.symm.trans h2)
  have := strs_of_tab ht he hce hct h4
  have e1 : cs = strs zs := by
    unfold strs
    rw [← this]
  rw [← e1]
  exact var_block hg h3

/-- what is asked of the listed variables -/
theorem vars_laid {w : World} {l : List (String × DataW Unit)} (h : laidMet Tryz.prog l w)
    (h1 : ("rungwork/tree.marks", DataW.agg (marksL.map fun z => .lit (.string z))) ∈ l) (h2 : ("rungwork/tree.kept", DataW.agg (keptL.map fun z => .lit (.string z))) ∈ l)
    (h3 : ("rungwork/tree.types", DataW.agg ([[], [98, 111, 111, 108], [98, 121, 116, 101], [116, 105, 109, 101, 114], [99, 111, 117, 110, 116, 101, 114], [101, 100, 103, 101]].map fun z => .lit (.string z))) ∈ l)
    (h4 : ("rungwork/tree.ways", DataW.agg ([[], [105, 110], [111, 117, 116], [118, 97, 114]].map fun z => .lit (.string z))) ∈ l) : Vars w :=
  ⟨strs_laid h _ h1 (by kernel_rfl) (by kernel_rfl) (m := 15) (e := 9) (t := 110) (by kernel_rfl) (by kernel_rfl) (by kernel_rfl) (by kernel_rfl),
   strs_laid h _ h2 (by kernel_rfl) (by kernel_rfl) (m := 20) (e := 9) (t := 111) (by kernel_rfl) (by kernel_rfl) (by kernel_rfl) (by kernel_rfl),
   strs_laid h _ h3 (by kernel_rfl) (by kernel_rfl) (m := 6) (e := 9) (t := 118) (by kernel_rfl) (by kernel_rfl) (by kernel_rfl) (by kernel_rfl),
   strs_laid h _ h4 (by kernel_rfl) (by kernel_rfl) (m := 4) (e := 9) (t := 120) (by kernel_rfl) (by kernel_rfl) (by kernel_rfl) (by kernel_rfl)⟩
/-- a variable of two ints -/
theorem two_laid {P : Program} {w : World} {l : List (String × DataW Unit)} (h : laidMet P l w) {n : String} {g : Nat} {t : TypeId} {f0 f1 : Field} (a b : Int) (hm : (n, DataW.agg [.lit (.int .i64 a), .lit (.int .i64 b)]) ∈ l)
    (hg : P.globalNamed n = some g) (hty : (P.globals[g]?).map (·.type) = some t) (ht : P.underlying t = some (.struct #[f0, f1])) (h0 : P.underlying f0.type = some (.int .i64)) (h1 : P.underlying f1.type = some (.int .i64))
    (o0 : f0.offset = 0) (o1 : f1.offset = 1) (c0 : P.cellsOf f0.type = 1) (c1 : P.cellsOf f1.type = 1) (ct : P.cellsOf t = 2) :
    w.heap[g]? = some (.cells #[.int .i64 a, .int .i64 b] (vt w g) (vz w g)) := by
  obtain ⟨g', t', cs, fuel, p, e1, e2, e3, e4⟩ := Lib.laidMet.reads h hm
  obtain rfl := Option.some.inj (hg.symm.trans e1)
  obtain rfl := Option.some.inj (hty.symm.trans e2)
  obtain ⟨y0, y1, m, hx, hl, r0, r1⟩ := ChangeShapes.trod_struct2 ht e4
  rw [o0, c0] at r0
  rw [o1, c1] at r1
  obtain ⟨n0, k0, rfl, _⟩ := DataW.trod_int h0 r0
  obtain ⟨n1, k1, rfl, _⟩ := DataW.trod_int h1 r1
  have hx1 := congrArg Prod.fst hx
  simp only [DataW.agg.injEq, List.cons.injEq, DataW.lit.injEq, Lit.int.injEq, true_and, and_true] at hx1
  obtain ⟨rfl, rfl⟩ := hx1
  rw [ct] at hl
  have : cs = #[.int .i64 a, .int .i64 b] := by
    apply Array.toList_inj.1
    match hcs : cs.toList, hl with
    | [u, v], _ =>
      rw [hcs] at k0 k1
      simp at k0 k1
      rw [k0, k1]
  rw [this] at e3
  exact var_block hg e3
/-- a variable of an interface type -/
theorem iface_laid {P : Program} {w : World} {l : List (String × DataW Unit)} (h : laidMet P l w) {n : String} {d : DataW Unit} {g : Nat} {t : TypeId} {ms} (hm : (n, d) ∈ l)
    (hg : P.globalNamed n = some g) (hty : (P.globals[g]?).map (·.type) = some t) (ht : P.underlying t = some (.interface ms)) :
    ∃ ev, w.cell? ⟨g, 0, none⟩ = some ev ∧ (ev = .nilIface ∨ ∃ te pe, ev = .iface te pe) := by
  obtain ⟨g', t', cs, fuel, p, e1, e2, e3, e4⟩ := Lib.laidMet.reads h hm
  obtain rfl := Option.some.inj (hg.symm.trans e1)
  obtain rfl := Option.some.inj (hty.symm.trans e2)
  have hb := var_block hg e3
  cases fuel with
  | zero => simp [DataW.trod] at e4
  | succ fuel =>
    simp only [DataW.trod, ht] at e4
    have key : ∀ (L : List Value), cs.toList = L → ∃ ev, w.cell? ⟨g, 0, none⟩ = some ev ∧ (ev = .nilIface ∨ ∃ te pe, ev = .iface te pe) := by
      intro L hL
      rw [hL] at e4
      match L, hL, e4 with
      | [.nilIface], hL, _ =>
        refine ⟨.nilIface, ?_, .inl rfl⟩
        rw [blk_cell hb]
        have : cs = #[.nilIface] := Array.toList_inj.1 hL
        rw [this]; rfl
      | [.iface u v], hL, _ =>
        refine ⟨.iface u v, ?_, .inr ⟨u, v, rfl⟩⟩
        rw [blk_cell hb]
        have : cs = #[.iface u v] := Array.toList_inj.1 hL
        rw [this]; rfl
    exact key _ rfl

theorem own : ownKnob Tryz.prog.godebug = none := by kernel_rfl
theorem et : Tryz.prog.globalNamed "errors.errorType" = some 5 := by kernel_rfl
theorem rt : (Tryz.prog.cutTypes.find? (·.1 == "internal/reflectlite.rtype")).map (·.2) = some 163 := by kernel_rfl
theorem oneRow : ((List.range Tryz.prog.types.size).filter fun t => Tryz.prog.rowNamed t [101, 114, 114, 111, 114]) = [32] := by kernel_rfl
abbrev plainOf (l : List (String × DataW Unit)) : List (String × DataW Unit) := l.filter fun x => x.2.handleName?.isNone
theorem laid_two {l : List (String × DataW Unit)} {W : World} {x : String × DataW Unit} (h : laidMetH Tryz.prog l W) (hm : x ∈ l.filter fun x => x.2.handleName?.isSome) : laidMet Tryz.prog (plainOf l) W ∧ handlesMet Tryz.prog (l.filter fun x => x.2.handleName?.isSome) W := by
  unfold laidMetH at h
  split at h
  · rename_i e; rw [e] at hm; cases hm
  · rename_i e; rw [e]; exact h
theorem hdl_of {l : List (String × DataW Unit)} {W : World} (h : laidMetH Tryz.prog l W) (hm : ("errors.errorType", Rows.laid_errors_errorType) ∈ l.filter fun x => x.2.handleName?.isSome) : Hdl2 W := by
  obtain ⟨name, u, ty, e1, e2, e3, e4, e5⟩ := (laid_two h hm).2 ("errors.errorType", Rows.laid_errors_errorType) hm
  have en : name = [101, 114, 114, 111, 114] := (Option.some.inj e1).symm
  subst en
  obtain rfl := Option.some.inj (rt.symm.trans e2)
  have hm : ty ∈ (List.range Tryz.prog.types.size).filter fun t => Tryz.prog.rowNamed t [101, 114, 114, 111, 114] := List.mem_filter.2 ⟨List.mem_range.2 e3, e4⟩
  rw [oneRow] at hm
  obtain rfl := List.mem_singleton.1 hm
  have hh : typeHandle Tryz.prog 32 = .pointer (some ⟨14, 32, none⟩) := by kernel_rfl
  rw [hh] at e5
  simpa using World.var?_cell et e5 0
/-- all that is asked of the listed variables -/
theorem env_of {l : List (String × DataW Unit)} {W : World} (h : laidMetH Tryz.prog l W) (hsh : W.ShapedOpen Tryz.prog)
    (hm : ("errors.errorType", Rows.laid_errors_errorType) ∈ l.filter fun x => x.2.handleName?.isSome)
    (h1 : ("rungwork/tree.marks", Rows.laid_rungwork_tree_marks) ∈ plainOf l) (h2 : ("rungwork/tree.kept", Rows.laid_rungwork_tree_kept) ∈ plainOf l)
    (h3 : ("rungwork/tree.types", Rows.laid_rungwork_tree_types) ∈ plainOf l) (h4 : ("rungwork/tree.ways", Rows.laid_rungwork_tree_ways) ∈ plainOf l)
    (h5 : ("rungwork/rungworkref.Fine", Rows.laid_rungwork_rungworkref_Fine) ∈ plainOf l) (h6 : ("strconv.ErrRange", Rows.laid_strconv_ErrRange) ∈ plainOf l) : Env W := by
  have h' : laidMet Tryz.prog (plainOf l) W := (laid_two h hm).1
  have hv : Vars W := vars_laid h' h1 h2 h3 h4
  have hf := two_laid h' (g := 0) (t := 28) 0 (-1) h5 (by kernel_rfl) (by kernel_rfl) Tryz.underlying28 (by kernel_rfl) (by kernel_rfl) (by kernel_rfl) (by kernel_rfl) (by kernel_rfl) (by kernel_rfl) (by kernel_rfl)
  obtain ⟨ev, hev, h7⟩ := iface_laid h' (g := 11) (t := 32) h6 (by kernel_rfl) (by kernel_rfl) Tryz.underlying32
  have hmx : ∃ m : Int, W.cell? ⟨6, 0, none⟩ = some (.int .i64 m) := cell_of_shapedOpen_int hsh (t := 3) (zero := #[.int .i64 0]) (of_decide_eq_true (by kernel_rfl)) (by kernel_rfl) rfl (by kernel_rfl) (by kernel_rfl) (by kernel_rfl)
  exact ⟨hv, ⟨hf, hmx, ev, hev, h7⟩, hdl_of h hm, by have : (_ : Nat) < _ := cell_lt hev; exact this⟩

/-- the library's plain wrap with what is listed, the world's shape kept beside it -/
theorem returnsInHanded_and_shaped {H : Type} {enc : TypeId × Value → H} {a : Assume} {C : Checked} {os : Os} {f : FuncId} {fn : Func} {s : ChangeSpec} {conds : List PathCond} {apart fresh handsOn again : Bool} {X : World → Array Value → Prop}
    (hX : ∀ (w w' : World) (args : Array Value), w.heap = w'.heap → X w args → X w' args)
    (own : ownKnob C.prog.godebug = none) (started : os.Started) (noInit : C.prog.inits.idxOf? f = none) (hfn : C.prog.funcs[f]? = some fn)
    (witness : ∃ (w : World) (tape : Tape) (i : Input), w.os = os ∧ (w.forCall tape i).Shaped C.prog ∧ i.vars = [] ∧ Input.okWide C.prog (w.forCall tape i) .any w.heap.size f i ∧
      ((s.pre enc C.prog fn conds apart (w.forCall tape i).memory i.args ∧ X (w.forCall tape i).memory i.args) ∧ sizedMet enc C.prog fn (OpenSpec.ofChange s) apart (w.forCall tape i).memory i.args) ∧ a.holds C.prog (lone (Frame.enter C.prog f i.args .normal) [] (w.forCall tape i)))
    (contract : ∀ (W : World) (base : Nat) (args : Array Value) (ds gs : List (DataW H)) (before : List MemPlace),
      (∀ (j : Nat) t v, fn.params[j]? = some t → args[j]? = some v → Value.okWide C.prog W .any base t v) →
      DataW.Whole enc C.prog fn.params.toList s.vars apart W args.toList ds gs before → X W args → W.ShapedOpen C.prog →
      Calls C.prog f args W fun e W' => ∃ v, e = .returned v ∧ s.post enc C.prog fn apart fresh handsOn again W args v W') :
    ReturnsInHanded a C os f .any (fun w args => (s.pre enc C.prog fn conds apart w args ∧ X w args) ∧ sizedMet enc C.prog fn (OpenSpec.ofChange s) apart w args) (s.post enc C.prog fn apart fresh handsOn again) := by
  refine returnsInHanded_of_calls own started noInit witness ?_
  intro w tape i _ hsh _ hok hpre hholds
  obtain ⟨_, _, _, fn', hfn', _, _, _, _, hval⟩ := hok
  have e : fn' = fn := Option.some.inj (hfn'.symm.trans hfn)
  subst e
  obtain ⟨⟨⟨ds, gs, before, hw, hc⟩, hx⟩, hz⟩ := hpre
  have hw' := DataW.Whole.of_heap (w' := w.forCall tape i) (by rfl) hw
  refine (contract (w.forCall tape i) w.heap.size i.args ds gs before hval hw' (hX _ _ _ (by rfl) hx) hsh).mono fun e W' ⟨v, he, hp⟩ => ?_
  subst he
  exact ChangeSpec.post_blind hp

noncomputable def base0 (os : Os) : World :=
  let w0 := World.holding Tryz.prog os ⟨#[], #[], []⟩
  { w0 with heap := w0.heap.modify 5 fun
      | .cells _ t frozen => .cells #[.iface 163 (.agg #[.pointer (some ⟨14, 32, none⟩)])] t frozen
      | o => o }
theorem tab_laid {P : Program} {w : World} {l : List (String × DataW Unit)} (h : laidMet P l w) {n : String} {g : Nat} {t e : TypeId} {m : Nat} {k : IntKind} (zs : List Int) (hm : (n, Lib.tabData k zs) ∈ l)
    (hg : P.globalNamed n = some g) (hty : (P.globals[g]?).map (·.type) = some t) (ht : P.underlying t = some (.array m e)) (he : P.underlying e = some (.int k)) (hce : P.cellsOf e = 1) (hct : P.cellsOf t = m) :
    Lib.TabIs P w n k zs := by
  obtain ⟨g', t', cs, fuel, p, h1, h2, h3, h4⟩ := Lib.laidMet.reads h hm
  obtain rfl := Option.some.inj (hg.symm.trans h1)
  obtain rfl := Option.some.inj (hty.symm.trans h2)
  unfold Lib.TabIs
  rw [h3, ← Lib.cells_of_tab ht he hce hct h4]

theorem tab_of_laid {w : World} {l : List (String × DataW Unit)} (h : laidMet Tryz.prog l w) (h1 : ("internal/strconv.uint64pow10", Lib.tabData .u64 Lib.pow10Tab) ∈ l) : Tab w :=
  tab_laid h _ h1 (g := 7) (by kernel_rfl) (by kernel_rfl) (m := 20) (e := 178) (t := 191) (by kernel_rfl) (by kernel_rfl) (by kernel_rfl) (by kernel_rfl)
end Go.Proofs.YtlbgdoajaplabaaGreatDoor
