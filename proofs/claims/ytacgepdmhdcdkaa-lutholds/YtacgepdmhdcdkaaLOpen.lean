/-
  WHAT CAME IN: a net of tables, rows of bits.
-/
import Derived.Test.YtacgepdmhdcdkaaLGrid
import Derived.Test.YtacgepdmhdcdkaaLMem
import Derived.WalkKit
import Derived.ProofKit
import Derived.OpenShut
import Derived.ShutString
import Derived.ChangeOld
import Derived.Below
import Derived.Deep.Grids
set_option linter.unusedSimpArgs false
set_option linter.unusedVariables false
set_option maxRecDepth 100000
namespace Go.Proofs.Ytacgepdmhdcdkaa
open Go.ChangeShapes Go.WideShapes Go.ChangeAt Go.RowKit Go.Deep

section
variable {H : Type} {enc : TypeId × Value → H} {w : World} {fuel : Nat} {cs : List Value} {x : DataW H × List MemPlace}

theorem open_bitsL (h : DataW.trod enc Try.prog w 0 (fun _ => true) true fuel 36 cs = some x) : ∃ ao len cap, ∃ l : List Bool, cs = [.slice ao len cap] ∧ l.length = len ∧ Lies AnyB w ao (bitsC l) := by
  rcases open_bools Try.underlying36 Try.underlying4 (by kernel_rfl) h with ⟨rfl, _⟩ | ⟨a, len, cap, B, rfl, _, hl, hm, _, hcell⟩
  · exact ⟨none, 0, 0, [], rfl, rfl, .inl rfl⟩
  · refine ⟨some a, len, cap, (List.range len).map B, rfl, by simp, ?_⟩
    rcases Nat.eq_zero_or_pos len with h0 | h0
    · subst h0; exact .inl rfl
    · obtain ⟨b, off, spot⟩ := a
      have hspot : spot = none := by simpa [Addr.add] using World.cell?_spot (hcell 0 (by omega))
      subst hspot
      refine .inr ⟨b, off, rfl, trivial, fun i u hu => ?_⟩
      have hi : i < len := by
        rcases Nat.lt_or_ge i len with h | h
        · exact h
        · rw [List.getElem?_eq_none (by simp [bitsC]; omega)] at hu; cases hu
      have := hcell i (by omega)
      rw [Addr.add_lit] at this
      rw [this, ← hu]
      simp [bitsC, hi]
theorem open_intsL (h : DataW.trod enc Try.prog w 0 (fun _ => true) true fuel 24 cs = some x) : ∃ ao len cap, ∃ l : List Int, cs = [.slice ao len cap] ∧ l.length = len ∧ Lies AnyB w ao (intsC l) := by
  rcases open_slice1 Try.underlying24 (by kernel_rfl) h with ⟨rfl, _⟩ | ⟨a, len, cap, m, n, V, D, Pl, rfl, _, hl, hm, hmm, _, hx⟩
  · exact ⟨none, 0, 0, [], rfl, rfl, .inl rfl⟩
  · simp only [if_true] at hmm
    subst hmm
    obtain ⟨B, hB⟩ := choose_lt (α := Int) (p := fun i b => V i = .int .i64 b) (fun i hi => by
      obtain ⟨b, h1, _⟩ := DataW.trod_int (k := .i64) Try.underlying3 (hx i hi).2
      exact ⟨b, by simpa using h1⟩)
    refine ⟨some a, len, m, (List.range len).map B, rfl, by simp, ?_⟩
    rcases Nat.eq_zero_or_pos len with h0 | h0
    · subst h0; exact .inl rfl
    · obtain ⟨b, off, spot⟩ := a
      have hspot : spot = none := by simpa [Addr.add] using World.cell?_spot (hx 0 (by omega)).1
      subst hspot
      refine .inr ⟨b, off, rfl, trivial, fun i u hu => ?_⟩
      have hi : i < len := by
        rcases Nat.lt_or_ge i len with h | h
        · exact h
        · rw [List.getElem?_eq_none (by simp [intsC]; omega)] at hu; cases hu
      have := (hx i (by omega)).1
      rw [Addr.add_lit] at this
      rw [this, hB i (by omega), ← hu]
      simp [intsC, hi]
theorem lies_pair {f g : Nat → Value} {n b off : Nat} (h : ∀ i, i < n → w.cell? ⟨b, off + i * 2, none⟩ = some (f i) ∧ w.cell? ⟨b, off + i * 2 + 1, none⟩ = some (g i)) : Lies AnyB w (some ⟨b, off, none⟩) (pairC f g n) := by
  refine .inr ⟨b, off, rfl, trivial, fun j u hu => ?_⟩
  have hj : j < n * 2 := by
    rcases Nat.lt_or_ge j (n * 2) with h | h
    · exact h
    · rw [List.getElem?_eq_none (by rw [pairC_len]; omega)] at hu; cases hu
  have hi : j / 2 < n := by omega
  obtain ⟨h0, h1⟩ := h (j / 2) hi
  rcases (by omega : j = j / 2 * 2 ∨ j = j / 2 * 2 + 1) with e | e
  · have hq := pairC_f f g n (j / 2) hi
    rw [← e, hu] at hq
    rw [← e] at h0
    rw [h0]; exact hq.symm
  · have hq := pairC_g f g n (j / 2) hi
    rw [← e, hu] at hq
    rw [Nat.add_assoc, ← e] at h1
    rw [h1]; exact hq.symm
theorem open_rg (h : DataW.trod enc Try.prog w 0 (fun _ => true) true fuel 59 cs = some x) : ∃ d : Rg, cs = [.bool d.init, .int .i64 d.next] := by
  obtain ⟨xs, n, _, _, hlen, hxl, hf⟩ := DataW.trod_struct Try.underlying59 h
  have hC : Try.prog.cellsOf 59 = 2 := by kernel_rfl
  have hI : Try.prog.cellsOf 3 = 1 := by kernel_rfl
  have hB : Try.prog.cellsOf 4 = 1 := by kernel_rfl
  rw [hC] at hlen
  have hx2 : xs.length = 2 := hxl
  obtain ⟨c0, c1, rfl⟩ : ∃ a b, cs = [a, b] := by
    match cs, hlen with
    | [a, b], _ => exact ⟨a, b, rfl⟩
  have g0 : DataW.trod enc Try.prog w 0 (fun _ => true) true n 4 (([c0, c1].drop 0).take (Try.prog.cellsOf 4)) = xs[0]? := by have h := hf 0 _ rfl; exact h
  have g1 : DataW.trod enc Try.prog w 0 (fun _ => true) true n 3 (([c0, c1].drop 1).take (Try.prog.cellsOf 3)) = xs[1]? := by have h := hf 1 _ rfl; exact h
  rw [hB] at g0
  rw [hI] at g1
  rw [List.getElem?_eq_getElem (by omega)] at g0 g1
  obtain ⟨v0, h0, _⟩ := DataW.trod_bool Try.underlying4 g0
  obtain ⟨v1, h1, _⟩ := DataW.trod_int (k := .i64) Try.underlying3 g1
  have e0 : c0 = .bool v0 := by simpa [Value.cells] using h0
  have e1 : c1 = .int .i64 v1 := by simpa [Value.cells] using h1
  subst e0 e1
  exact ⟨⟨v0, v1⟩, rfl⟩
theorem open_lt (h : DataW.trod enc Try.prog w 0 (fun _ => true) true fuel 44 cs = some x) : ∃ (ao : Option Addr) (c : Nat) (d : Lt), cs = [.slice ao d.ins.length c, .int .i64 d.table] ∧ Lies AnyB w ao (intsC d.ins) := by
  obtain ⟨xs, n, _, _, hlen, hxl, hf⟩ := DataW.trod_struct Try.underlying44 h
  have hC : Try.prog.cellsOf 44 = 2 := by kernel_rfl
  have hI : Try.prog.cellsOf 3 = 1 := by kernel_rfl
  have hB : Try.prog.cellsOf 24 = 1 := by kernel_rfl
  rw [hC] at hlen
  have hx2 : xs.length = 2 := hxl
  obtain ⟨c0, c1, rfl⟩ : ∃ a b, cs = [a, b] := by
    match cs, hlen with
    | [a, b], _ => exact ⟨a, b, rfl⟩
  have g0 : DataW.trod enc Try.prog w 0 (fun _ => true) true n 24 (([c0, c1].drop 0).take (Try.prog.cellsOf 24)) = xs[0]? := by have h := hf 0 _ rfl; exact h
  have g1 : DataW.trod enc Try.prog w 0 (fun _ => true) true n 3 (([c0, c1].drop 1).take (Try.prog.cellsOf 3)) = xs[1]? := by have h := hf 1 _ rfl; exact h
  rw [hB] at g0
  rw [hI] at g1
  rw [List.getElem?_eq_getElem (by omega)] at g0 g1
  obtain ⟨ao, len, c, l, h0, hl, hlies⟩ := open_intsL g0
  obtain ⟨v1, h1, _⟩ := DataW.trod_int (k := .i64) Try.underlying3 g1
  subst hl
  have e0 : c0 = .slice ao l.length c := by simpa [Value.cells] using h0
  have e1 : c1 = .int .i64 v1 := by simpa [Value.cells] using h1
  subst e0 e1
  exact ⟨ao, c, ⟨l, v1⟩, rfl, hlies⟩
theorem open_regsL (h : DataW.trod enc Try.prog w 0 (fun _ => true) true fuel 22 cs = some x) : ∃ ao len cap, ∃ l : List Rg, cs = [.slice ao len cap] ∧ l.length = len ∧ Lies AnyB w ao (rgsC l) := by
  rcases open_slice Try.underlying22 h with ⟨rfl, _⟩ | ⟨a, len, cap, m, n, D, Pl, rfl, _, hl, hm, hmm, _, hx⟩
  · exact ⟨none, 0, 0, [], rfl, rfl, .inl rfl⟩
  · simp only [if_true] at hmm
    subst hmm
    have hC : Try.prog.cellsOf 59 = 2 := by kernel_rfl
    rw [hC] at hx
    have hN0 := choose_lt (n := len) (α := Bool × Int) (p := fun i d => ∀ k, k < 2 → w.cell? ((a.add (i * 2)).add k) = ([Value.bool d.1, .int .i64 d.2] : List Value)[k]?) (fun i hi => by
      obtain ⟨cs', h1, h2⟩ := hx i (by omega)
      obtain ⟨d, rfl⟩ := open_rg h2
      exact ⟨(d.init, d.next), (World.cells?_some h1).2.2⟩)
    obtain ⟨N, hN⟩ := hN0
    refine ⟨some a, len, m, (List.range len).map fun i => ⟨(N i).1, (N i).2⟩, rfl, by simp, ?_⟩
    rcases Nat.eq_zero_or_pos len with h0 | h0
    · subst h0; exact .inl rfl
    · obtain ⟨b, off, spot⟩ := a
      have hspot : spot = none := by
        have := hN 0 (by omega) 0 (by decide)
        rw [Nat.zero_mul] at this
        have h1 : w.cell? ⟨b, off, spot⟩ = some (.bool (N 0).1) := by simpa [Addr.add] using this
        simpa using World.cell?_spot h1
      subst hspot
      have hlen : ((List.range len).map fun i => (⟨(N i).1, (N i).2⟩ : Rg)).length = len := by simp
      unfold rgsC
      rw [hlen]
      refine lies_pair fun i hi => ?_
      have e0 := hN i hi 0 (by decide)
      have e1 := hN i hi 1 (by decide)
      rw [Addr.add_lit, Addr.add_lit] at e0 e1
      have hat : rgAt ((List.range len).map fun i => (⟨(N i).1, (N i).2⟩ : Rg)) i = ⟨(N i).1, (N i).2⟩ := by unfold rgAt; simp [hi]
      unfold rgF rgG
      rw [hat]
      exact ⟨e0, e1⟩
theorem open_lutsL (h : DataW.trod enc Try.prog w 0 (fun _ => true) true fuel 23 cs = some x) : ∃ (ao : Option Addr) (len cap : Nat) (A : Nat → Option Addr) (C : Nat → Nat) (l : List Lt), cs = [.slice ao len cap] ∧ l.length = len ∧ LutsAt AnyB w ao A C l := by
  rcases open_slice Try.underlying23 h with ⟨rfl, _⟩ | ⟨a, len, cap, m, n, D, Pl, rfl, _, hl, hm, hmm, _, hx⟩
  · exact ⟨none, 0, 0, fun _ => none, fun _ => 0, [], rfl, rfl, ⟨.inl rfl, fun i hi => absurd hi (Nat.not_lt_zero _)⟩⟩
  · simp only [if_true] at hmm
    subst hmm
    have hC : Try.prog.cellsOf 44 = 2 := by kernel_rfl
    rw [hC] at hx
    have hN0 := choose_lt (n := len) (α := Option Addr × Nat × List Int × Int) (p := fun i d => (∀ k, k < 2 → w.cell? ((a.add (i * 2)).add k) = ([Value.slice d.1 d.2.2.1.length d.2.1, .int .i64 d.2.2.2] : List Value)[k]?) ∧ Lies AnyB w d.1 (intsC d.2.2.1)) (fun i hi => by
      obtain ⟨cs', h1, h2⟩ := hx i (by omega)
      obtain ⟨ao, c, d, rfl, hli⟩ := open_lt h2
      exact ⟨(ao, c, d.ins, d.table), (World.cells?_some h1).2.2, hli⟩)
    obtain ⟨N, hN⟩ := hN0
    have hat : ∀ i, i < len → ltAt ((List.range len).map fun i => (⟨(N i).2.2.1, (N i).2.2.2⟩ : Lt)) i = ⟨(N i).2.2.1, (N i).2.2.2⟩ := fun i hi => by unfold ltAt; simp [hi]
    have hlen : ((List.range len).map fun i => (⟨(N i).2.2.1, (N i).2.2.2⟩ : Lt)).length = len := by simp
    refine ⟨some a, len, m, fun i => (N i).1, fun i => (N i).2.1, (List.range len).map fun i => ⟨(N i).2.2.1, (N i).2.2.2⟩, rfl, hlen, ⟨?_, fun i hi => ?_⟩⟩
    · rcases Nat.eq_zero_or_pos len with h0 | h0
      · subst h0; exact .inl rfl
      · obtain ⟨b, off, spot⟩ := a
        have hspot : spot = none := by
          have := (hN 0 (by omega)).1 0 (by decide)
          rw [Nat.zero_mul] at this
          have h1 : w.cell? ⟨b, off, spot⟩ = some (.slice (N 0).1 (N 0).2.2.1.length (N 0).2.1) := by simpa [Addr.add] using this
          simpa using World.cell?_spot h1
        subst hspot
        unfold lutsC
        rw [hlen]
        refine lies_pair fun i hi => ?_
        have e0 := (hN i hi).1 0 (by decide)
        have e1 := (hN i hi).1 1 (by decide)
        rw [Addr.add_lit, Addr.add_lit] at e0 e1
        unfold lutF lutG
        rw [hat i hi]
        exact ⟨e0, e1⟩
    · rw [hlen] at hi
      rw [hat i hi]
      exact (hN i hi).2
end
theorem open_net {H : Type} {enc : TypeId × Value → H} {w : World} {r : Reach} {b0 : Nat} {v : Value} {d : DataW H} {p : List MemPlace} (hv : Value.okWide Try.prog w r b0 26 v) (h : DataW.Trod enc Try.prog w 0 (fun _ => true) true 26 v d p) :
    ∃ (given : Int) (rs : List Rg) (ls : List Lt) (os : List Int) (ra la oa : Option Addr) (rc lc oc : Nat) (A : Nat → Option Addr) (C : Nat → Nat), v = .agg #[.int .i64 given, .slice ra rs.length rc, .slice la ls.length lc, .slice oa os.length oc] ∧ Lies AnyB w ra (rgsC rs) ∧ LutsAt AnyB w la A C ls ∧ Lies AnyB w oa (intsC os) := by
  obtain ⟨cs, rfl, hcs⟩ := okWide_struct Try.underlying26 hv
  obtain ⟨fuel, h⟩ := h
  obtain ⟨xs, n, _, _, hlen, hxl, hf⟩ := DataW.trod_struct Try.underlying26 h
  have hC : Try.prog.cellsOf 26 = 4 := by kernel_rfl
  have hI : Try.prog.cellsOf 3 = 1 := by kernel_rfl
  have hR : Try.prog.cellsOf 22 = 1 := by kernel_rfl
  have hL : Try.prog.cellsOf 23 = 1 := by kernel_rfl
  have hO : Try.prog.cellsOf 24 = 1 := by kernel_rfl
  have hx4 : xs.length = 4 := hxl
  rw [hC] at hlen
  have hl4 : cs.toList.length = 4 := hlen
  obtain ⟨c0, c1, c2, c3, hc⟩ : ∃ a b c d, cs.toList = [a, b, c, d] := by
    match cs.toList, hl4 with
    | [a, b, c, d], _ => exact ⟨a, b, c, d, rfl⟩
  have hca : cs = #[c0, c1, c2, c3] := by rw [← Array.toArray_toList (xs := cs), hc]
  subst hca
  have g0 : DataW.trod enc Try.prog w 0 (fun _ => true) true n 3 (([c0, c1, c2, c3].drop 0).take (Try.prog.cellsOf 3)) = xs[0]? := by have h := hf 0 _ rfl; exact h
  have g1 : DataW.trod enc Try.prog w 0 (fun _ => true) true n 22 (([c0, c1, c2, c3].drop 1).take (Try.prog.cellsOf 22)) = xs[1]? := by have h := hf 1 _ rfl; exact h
  have g2 : DataW.trod enc Try.prog w 0 (fun _ => true) true n 23 (([c0, c1, c2, c3].drop 2).take (Try.prog.cellsOf 23)) = xs[2]? := by have h := hf 2 _ rfl; exact h
  have g3 : DataW.trod enc Try.prog w 0 (fun _ => true) true n 24 (([c0, c1, c2, c3].drop 3).take (Try.prog.cellsOf 24)) = xs[3]? := by have h := hf 3 _ rfl; exact h
  rw [hI] at g0
  rw [hR] at g1
  rw [hL] at g2
  rw [hO] at g3
  rw [List.getElem?_eq_getElem (by omega)] at g0 g1 g2 g3
  obtain ⟨gv, h0, _⟩ := DataW.trod_int (k := .i64) Try.underlying3 g0
  obtain ⟨ra, rlen, rc, rs, h1, hrs, hl1⟩ := open_regsL g1
  obtain ⟨la, llen, lc, A, C, ls, h2, hls, hl2⟩ := open_lutsL g2
  obtain ⟨oa, olen, oc, os, h3, hos, hl3⟩ := open_intsL g3
  subst hrs hls hos
  have e0 : c0 = .int .i64 gv := by simpa [Value.cells] using h0
  have e1 : c1 = .slice ra rs.length rc := by simpa [Value.cells] using h1
  have e2 : c2 = .slice la ls.length lc := by simpa [Value.cells] using h2
  have e3 : c3 = .slice oa os.length oc := by simpa [Value.cells] using h3
  subst e0 e1 e2 e3
  exact ⟨gv, rs, ls, os, ra, la, oa, rc, lc, oc, A, C, rfl, hl1, hl2, hl3⟩
theorem open_bits {H : Type} {enc : TypeId × Value → H} {w : World} {r : Reach} {b0 : Nat} {v : Value} {d : DataW H} {p : List MemPlace} (hv : Value.okWide Try.prog w r b0 36 v) (h : DataW.Trod enc Try.prog w 0 (fun _ => true) true 36 v d p) :
    ∃ (pa : Option Addr) (pc : Nat) (ps : List Bool), v = .slice pa ps.length pc ∧ Lies AnyB w pa (bitsC ps) := by
  obtain ⟨ga, len, gc, rfl⟩ := okWide_slice Try.underlying36 hv
  obtain ⟨fuel, h⟩ := h
  obtain ⟨ao, l, c, bs, h1, h2, h3⟩ := open_bitsL h
  simp [Value.cells] at h1
  obtain ⟨rfl, rfl, rfl⟩ := h1
  exact ⟨_, _, bs, by rw [h2], h3⟩
theorem open_grid {H : Type} {enc : TypeId × Value → H} {w : World} {r : Reach} {b0 : Nat} {v : Value} {d : DataW H} {p : List MemPlace} (hv : Value.okWide Try.prog w r b0 27 v) (h : DataW.Trod enc Try.prog w 0 (fun _ => true) true 27 v d p) :
    ∃ (ga : Option Addr) (gc : Nat) (A : Nat → Option Addr) (C : Nat → Nat) (gs : List (List Bool)), v = .slice ga gs.length gc ∧ Grid w ga A C gs := by
  obtain ⟨ga, len, gc, rfl⟩ := okWide_slice Try.underlying27 hv
  obtain ⟨fuel, h⟩ := h
  rcases open_slice1 Try.underlying27 (by kernel_rfl) h with ⟨hcs, _⟩ | ⟨a, len', cap, m, n, V, D, Pl, hcs, _, hl, hm, hmm, _, hx⟩
  · simp [Value.cells] at hcs
    obtain ⟨rfl, rfl, rfl⟩ := hcs
    exact ⟨none, 0, fun _ => none, fun _ => 0, [], rfl, fun r hr => absurd hr (Nat.not_lt_zero _)⟩
  · simp [Value.cells] at hcs
    obtain ⟨rfl, rfl, rfl⟩ := hcs
    simp only [if_true] at hmm
    subst hmm
    obtain ⟨Y, hY⟩ := choose_lt (α := Option Addr × Nat × List Bool) (p := fun i y => V i = .slice y.1 y.2.2.length y.2.1 ∧ Lies AnyB w y.1 (bitsC y.2.2)) (fun i hi => by
      obtain ⟨ao, l, c, bs, h1, h2, h3⟩ := open_bitsL (hx i hi).2
      refine ⟨(ao, c, bs), ?_, h3⟩
      show V i = .slice ao bs.length c
      rw [h2]; simpa using h1)
    refine ⟨some a, m, fun r => (Y r).1, fun r => (Y r).2.1, (List.range len).map fun r => (Y r).2.2, by simp, fun r hr => ?_⟩
    simp at hr
    have hrow : rowAt ((List.range len).map fun r => (Y r).2.2) r = (Y r).2.2 := by unfold rowAt; simp [hr]
    rw [hrow]
    obtain ⟨h1, h2⟩ := hY r (by omega)
    refine ⟨?_, h2⟩
    obtain ⟨b, off, spot⟩ := a
    have hspot : spot = none := by simpa [Addr.add] using World.cell?_spot (hx 0 (by omega)).1
    subst hspot
    have := (hx r (by omega)).1
    rw [Addr.add_lit, h1] at this
    exact ⟨b, off, rfl, this⟩
end Go.Proofs.Ytacgepdmhdcdkaa
