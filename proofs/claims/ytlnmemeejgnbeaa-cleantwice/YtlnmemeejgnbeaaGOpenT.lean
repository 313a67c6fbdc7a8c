/-
  WHAT CAME IN: a net.
-/
import Derived.Test.YtlnmemeejgnbeaaGOpenK
import Derived.WalkKit
import Derived.ProofKit
import Derived.OpenShut
import Derived.ShutString
import Derived.ChangeOld
import Derived.Below
import Derived.Deep.Grids
set_option linter.unusedSimpArgs false
set_option linter.unusedVariables false
set_option maxRecDepth 100000
namespace Go.Proofs.Ytlnmemeejgnbeaa
open Go.ChangeShapes Go.WideShapes Go.ChangeAt Go.RowKit Go.Deep

theorem open_net {H : Type} {enc : TypeId × Value → H} {w : World} {r : Reach} {b0 : Nat} {v : Value} {d : DataW H} {p : List MemPlace} (hv : Value.okWide Try.prog w r b0 28 v) (h : DataW.Trod enc Try.prog w 0 (fun _ => true) true 28 v d p) :
    ∃ (given : Int) (ns : List Nd) (os : List Int) (na oa : Option Addr) (nc oc : Nat), v = .agg #[.int .i64 given, .slice na ns.length nc, .slice oa os.length oc] ∧ Lies AnyB w na (ndsC ns) ∧ Lies AnyB w oa (intsC os) := by
  obtain ⟨cs, rfl, hcs⟩ := okWide_struct Try.underlying28 hv
  obtain ⟨fuel, h⟩ := h
  obtain ⟨xs, n, _, _, hlen, hxl, hf⟩ := DataW.trod_struct Try.underlying28 h
  have hC : Try.prog.cellsOf 28 = 3 := by kernel_rfl
  have hI : Try.prog.cellsOf 3 = 1 := by kernel_rfl
  have hN : Try.prog.cellsOf 22 = 1 := by kernel_rfl
  have hO : Try.prog.cellsOf 23 = 1 := by kernel_rfl
  have hx3 : xs.length = 3 := hxl
  rw [hC] at hlen
  have hl3 : cs.toList.length = 3 := hlen
  obtain ⟨c0, c1, c2, hc⟩ : ∃ a b c, cs.toList = [a, b, c] := by
    match cs.toList, hl3 with
    | [a, b, c], _ => exact ⟨a, b, c, rfl⟩
  have hca : cs = #[c0, c1, c2] := by rw [← Array.toArray_toList (xs := cs), hc]
  subst hca
  have g0 : DataW.trod enc Try.prog w 0 (fun _ => true) true n 3 (([c0, c1, c2].drop 0).take (Try.prog.cellsOf 3)) = xs[0]? := by have h := hf 0 _ rfl; exact h
  have g1 : DataW.trod enc Try.prog w 0 (fun _ => true) true n 22 (([c0, c1, c2].drop 1).take (Try.prog.cellsOf 22)) = xs[1]? := by have h := hf 1 _ rfl; exact h
  have g2 : DataW.trod enc Try.prog w 0 (fun _ => true) true n 23 (([c0, c1, c2].drop 2).take (Try.prog.cellsOf 23)) = xs[2]? := by have h := hf 2 _ rfl; exact h
  rw [hI] at g0
  rw [hN] at g1
  rw [hO] at g2
  rw [List.getElem?_eq_getElem (by omega)] at g0 g1 g2
  obtain ⟨gv, h0, _⟩ := DataW.trod_int (k := .i64) Try.underlying3 g0
  obtain ⟨na, len, nc, ns, h1, hns, hl1⟩ := open_nodesL g1
  obtain ⟨oa, olen, oc, os, h2, hos, hl2⟩ := open_intsL g2
  subst hns hos
  have e0 : c0 = .int .i64 gv := by simpa [Value.cells] using h0
  have e1 : c1 = .slice na ns.length nc := by simpa [Value.cells] using h1
  have e2 : c2 = .slice oa os.length oc := by simpa [Value.cells] using h2
  subst e0 e1 e2
  exact ⟨gv, ns, os, na, oa, nc, oc, rfl, hl1, hl2⟩
end Go.Proofs.Ytlnmemeejgnbeaa
