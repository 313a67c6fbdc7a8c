/-
  WHAT CAME IN: a row of nodes, a row of outs.
-/
import Derived.Test.YtlnmemeejgnbeaaClKp
import Derived.WalkKit
import Derived.ProofKit
import Derived.OpenShut
import Derived.ShutString
import Derived.ChangeOld
import Derived.Below
import Derived.Deep.Grids
set_option linter.unusedSimpArgs false
set_option linter.unusedVariables false
set_option maxRecDepth 100000
namespace Go.Proofs.Ytlnmemeejgnbeaa
open Go.ChangeShapes Go.WideShapes Go.ChangeAt Go.RowKit Go.Deep

section
variable {H : Type} {enc : TypeId × Value → H} {w : World} {fuel : Nat} {cs : List Value} {x : DataW H × List MemPlace}

theorem open_intsL (h : DataW.trod enc Try.prog w 0 (fun _ => true) true fuel 23 cs = some x) : ∃ ao len cap, ∃ l : List Int, cs = [.slice ao len cap] ∧ l.length = len ∧ Lies AnyB w ao (intsC l) := by
  rcases open_slice1 Try.underlying23 (by kernel_rfl) h with ⟨rfl, _⟩ | ⟨a, len, cap, m, n, V, D, Pl, rfl, _, hl, hm, hmm, _, hx⟩
  · exact ⟨none, 0, 0, [], rfl, rfl, .inl rfl⟩
  · simp only [if_true] at hmm
    subst hmm
    obtain ⟨B, hB⟩ := choose_lt (α := Int) (p := fun i b => V i = .int .i64 b) (fun i hi => by
      obtain ⟨b, h1, _⟩ := DataW.trod_int (k := .i64) Try.underlying3 (hx i hi).2
      exact ⟨b, by simpa using h1⟩)
    refine ⟨some a, len, m, (List.range len).map B, rfl, by simp, ?_⟩
    rcases Nat.eq_zero_or_pos len with h0 | h0
    · subst h0; exact .inl rfl
    · obtain ⟨b, off, spot⟩ := a
      have hspot : spot = none := by simpa [Addr.add] using World.cell?_spot (hx 0 (by omega)).1
      subst hspot
      refine .inr ⟨b, off, rfl, trivial, fun i u hu => ?_⟩
      have hi : i < len := by
        rcases Nat.lt_or_ge i len with h | h
        · exact h
        · rw [List.getElem?_eq_none (by simp [intsC]; omega)] at hu; cases hu
      have := (hx i (by omega)).1
      rw [Addr.add_lit] at this
      rw [this, hB i (by omega), ← hu]
      simp [intsC, hi]
theorem open_nd (h : DataW.trod enc Try.prog w 0 (fun _ => true) true fuel 26 cs = some x) : ∃ d : Nd, cs = ndCells d := by
  obtain ⟨xs, n, _, _, hlen, hxl, hf⟩ := DataW.trod_struct Try.underlying26 h
  have hC : Try.prog.cellsOf 26 = 4 := by kernel_rfl
  have hI : Try.prog.cellsOf 3 = 1 := by kernel_rfl
  rw [hC] at hlen
  have hx4 : xs.length = 4 := hxl
  obtain ⟨c0, c1, c2, c3, rfl⟩ : ∃ a b c d, cs = [a, b, c, d] := by
    match cs, hlen with
    | [a, b, c, d], _ => exact ⟨a, b, c, d, rfl⟩
  have key : ∀ (i : Nat) (c : Value), i < 4 → DataW.trod enc Try.prog w 0 (fun _ => true) true n 3 [c] = xs[i]? → ∃ v, c = .int .i64 v := by
    intro i c hi hq
    rw [List.getElem?_eq_getElem (by omega)] at hq
    obtain ⟨v, h1, _⟩ := DataW.trod_int (k := .i64) Try.underlying3 hq
    exact ⟨v, by simpa using h1⟩
  have g0 : DataW.trod enc Try.prog w 0 (fun _ => true) true n 3 (([c0, c1, c2, c3].drop 0).take (Try.prog.cellsOf 3)) = xs[0]? := by have h := hf 0 _ rfl; exact h
  have g1 : DataW.trod enc Try.prog w 0 (fun _ => true) true n 3 (([c0, c1, c2, c3].drop 1).take (Try.prog.cellsOf 3)) = xs[1]? := by have h := hf 1 _ rfl; exact h
  have g2 : DataW.trod enc Try.prog w 0 (fun _ => true) true n 3 (([c0, c1, c2, c3].drop 2).take (Try.prog.cellsOf 3)) = xs[2]? := by have h := hf 2 _ rfl; exact h
  have g3 : DataW.trod enc Try.prog w 0 (fun _ => true) true n 3 (([c0, c1, c2, c3].drop 3).take (Try.prog.cellsOf 3)) = xs[3]? := by have h := hf 3 _ rfl; exact h
  rw [hI] at g0 g1 g2 g3
  obtain ⟨v0, rfl⟩ := key 0 c0 (by decide) g0
  obtain ⟨v1, rfl⟩ := key 1 c1 (by decide) g1
  obtain ⟨v2, rfl⟩ := key 2 c2 (by decide) g2
  obtain ⟨v3, rfl⟩ := key 3 c3 (by decide) g3
  exact ⟨⟨v0, v1, v2, v3⟩, rfl⟩
instance : Inhabited Nd := ⟨nd0⟩
theorem range_ndsC (N : Nat → Nd) : ∀ (n i k : Nat), i < n → k < 4 → (ndsC ((List.range n).map N))[i * 4 + k]? = (ndCells (N i))[k]? := by
  intro n i k hi hk
  have hu : ∃ u, (ndCells (N i))[k]? = some u := ⟨(ndCells (N i))[k]'hk, List.getElem?_eq_getElem hk⟩
  obtain ⟨u, hu⟩ := hu
  rw [hu]
  refine ndsC_at _ i k u (by simpa using hi) ?_ hk
  have : ndAt ((List.range n).map N) i = N i := by unfold ndAt; simp [hi]
  rw [this]; exact hu
theorem open_nodesL (h : DataW.trod enc Try.prog w 0 (fun _ => true) true fuel 22 cs = some x) : ∃ ao len cap, ∃ l : List Nd, cs = [.slice ao len cap] ∧ l.length = len ∧ Lies AnyB w ao (ndsC l) := by
  rcases open_slice Try.underlying22 h with ⟨rfl, _⟩ | ⟨a, len, cap, m, n, D, Pl, rfl, _, hl, hm, hmm, _, hx⟩
  · exact ⟨none, 0, 0, [], rfl, rfl, .inl rfl⟩
  · simp only [if_true] at hmm
    subst hmm
    have hC : Try.prog.cellsOf 26 = 4 := by kernel_rfl
    rw [hC] at hx
    obtain ⟨N, hN⟩ := choose_lt (α := Nd) (p := fun i d => ∀ k, k < 4 → w.cell? ((a.add (i * 4)).add k) = (ndCells d)[k]?) (fun i hi => by
      obtain ⟨cs', h1, h2⟩ := hx i hi
      obtain ⟨d, rfl⟩ := open_nd h2
      exact ⟨d, (World.cells?_some h1).2.2⟩)
    refine ⟨some a, len, m, (List.range len).map N, rfl, by simp, ?_⟩
    rcases Nat.eq_zero_or_pos len with h0 | h0
    · subst h0; exact .inl rfl
    · obtain ⟨b, off, spot⟩ := a
      have hspot : spot = none := by
        have := hN 0 (by omega) 0 (by decide)
        rw [Nat.zero_mul] at this
        have h2 : (ndCells (N 0))[0]? = some (.int .i64 (N 0).op) := rfl
        rw [h2] at this
        have h1 : w.cell? ⟨b, off, spot⟩ = some (.int .i64 (N 0).op) := by simpa [Addr.add] using this
        simpa using World.cell?_spot h1
      subst hspot
      refine .inr ⟨b, off, rfl, trivial, fun j u hu => ?_⟩
      have hj : j < len * 4 := by
        rcases Nat.lt_or_ge j (len * 4) with h | h
        · exact h
        · rw [List.getElem?_eq_none (by rw [ndsC_len]; simp; omega)] at hu; cases hu
      have e : j = j / 4 * 4 + j % 4 := by omega
      have hq := range_ndsC N len (j / 4) (j % 4) (by omega) (Nat.mod_lt _ (by decide))
      rw [← e, hu] at hq
      have := hN (j / 4) (by omega) (j % 4) (Nat.mod_lt _ (by decide))
      rw [Addr.add_lit, Addr.add_lit, Nat.add_assoc, ← e] at this
      rw [this, ← hq]
end
theorem open_nodes {H : Type} {enc : TypeId × Value → H} {w : World} {r : Reach} {b0 : Nat} {v : Value} {d : DataW H} {p : List MemPlace} (hv : Value.okWide Try.prog w r b0 22 v) (h : DataW.Trod enc Try.prog w 0 (fun _ => true) true 22 v d p) :
    ∃ (la : Option Addr) (lc : Nat) (l : List Nd), v = .slice la l.length lc ∧ Lies AnyB w la (ndsC l) := by
  obtain ⟨a, len, cap, rfl⟩ := okWide_slice Try.underlying22 hv
  obtain ⟨fuel, h⟩ := h
  obtain ⟨na, n, nc, ns, h1, hns, hl⟩ := open_nodesL h
  subst hns
  have e : Value.slice a len cap = .slice na ns.length nc := by simpa [Value.cells] using h1
  exact ⟨na, nc, ns, e, hl⟩
theorem open_ints {H : Type} {enc : TypeId × Value → H} {w : World} {r : Reach} {b0 : Nat} {v : Value} {d : DataW H} {p : List MemPlace} (hv : Value.okWide Try.prog w r b0 23 v) (h : DataW.Trod enc Try.prog w 0 (fun _ => true) true 23 v d p) :
    ∃ (la : Option Addr) (lc : Nat) (l : List Int), v = .slice la l.length lc ∧ Lies AnyB w la (intsC l) := by
  obtain ⟨a, len, cap, rfl⟩ := okWide_slice Try.underlying23 hv
  obtain ⟨fuel, h⟩ := h
  obtain ⟨na, n, nc, ns, h1, hns, hl⟩ := open_intsL h
  subst hns
  have e : Value.slice a len cap = .slice na ns.length nc := by simpa [Value.cells] using h1
  exact ⟨na, nc, ns, e, hl⟩
end Go.Proofs.Ytlnmemeejgnbeaa
