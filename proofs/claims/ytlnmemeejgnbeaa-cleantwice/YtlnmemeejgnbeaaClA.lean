/-
  CONTRACT of anew.
-/
import Derived.Test.YtlnmemeejgnbeaaClX
set_option linter.unusedSimpArgs false
set_option linter.unusedVariables false
namespace Go.Proofs.Ytlnmemeejgnbeaa
open Go.RowKit

/-- a block that was laid behind the maker's is none of its -/
theorem MStep.late {B P M nc : Nat} {na na' : Option Addr} {w w1 w' : World} {ms : List Nd} (hm : MkAt B P M na nc w ms) (h : MStep P M na w1 na' w') {k : Nat} (hk : w.heap.size ≤ k) (h1 : k < w1.heap.size) : w'.heap[k]? = w1.heap[k]? :=
  h.keep.block k h1 (by have := hm.lt; omega) (by have := hm.ltM; omega) (fun e => by have := hm.grid e; omega)
theorem ints_cell {w : World} {b : Nat} {l : List Int} {t : TypeId} {z : Nat × Nat} (h : w.heap[b]? = some (.cells (intsC l).toArray t z)) {i : Nat} (hi : i < l.length) : w.cell? ⟨b, i, none⟩ = some (.int .i64 (outAt l i)) := by
  rw [blk_cell h]; simp [intsC, outAt, hi]

set_option maxRecDepth 100000 in
set_option maxHeartbeats 1600000 in
theorem anew_3 {B P M nc : Nat} {na : Option Addr} {ms : List Nd} (a b nx : Int) (SB : Nat) (sl : List Int) (w : World) (h : MkOK B P M na nc w ms) :
    Gives B P M na ms 28 #[.pointer (some ⟨P, 0, none⟩), .agg #[.int .i64 3, .int .i64 a, .int .i64 b, .int .i64 nx], .slice (some ⟨SB, 0, none⟩) sl.length sl.length] w (.req ⟨3, a, 0, 0⟩) := by
  have HB := hide (below_alloc w (.cells #[.int .i64 3, .int .i64 a, .int .i64 b, .int .i64 nx] 26))
  have H1 := hide (h.more HB.out)
  have HC := hide (node_at (P := P) ⟨3, a, 0, 0⟩ h.few _ H1.out.base H1.out.at_)
  clear h
  unfold Gives doneR
  go_enter Try.func28, Try.ntmps28
  go_wp2_with fail
  refine HC.out.mono ?_
  rintro e w' ⟨rfl, hb⟩
  have HB2 := hide (Now.pre HB.out hb)
  clear hb
  go_wp2_with fail
  go_ret
  exact ⟨rfl, HB2.out⟩

set_option maxRecDepth 100000 in
set_option maxHeartbeats 1600000 in
theorem anew_4 {B P M nc : Nat} {na : Option Addr} {ms : List Nd} (a b nx : Int) (SB : Nat) (sl : List Int) (w : World) (h : MkOK B P M na nc w ms) :
    Gives B P M na ms 28 #[.pointer (some ⟨P, 0, none⟩), .agg #[.int .i64 4, .int .i64 a, .int .i64 b, .int .i64 nx], .slice (some ⟨SB, 0, none⟩) sl.length sl.length] w (.req ⟨4, a, 0, nx⟩) := by
  have HB := hide (below_alloc w (.cells #[.int .i64 4, .int .i64 a, .int .i64 b, .int .i64 nx] 26))
  have H1 := hide (h.more HB.out)
  have HC := hide (node_at (P := P) ⟨4, a, 0, nx⟩ h.few _ H1.out.base H1.out.at_)
  clear h
  unfold Gives doneR
  go_enter Try.func28, Try.ntmps28
  go_wp2_with fail
  refine HC.out.mono ?_
  rintro e w' ⟨rfl, hb⟩
  have HB2 := hide (Now.pre HB.out hb)
  clear hb
  go_wp2_with fail
  go_ret
  exact ⟨rfl, HB2.out⟩

set_option maxRecDepth 100000 in
set_option maxHeartbeats 1600000 in
theorem anew_5 {B P M nc : Nat} {na : Option Addr} {ms : List Nd} (i : Nat) (j : Nat) (nx : Int) (SB : Nat) (sl : List Int) (w : World) (h : MkOK B P M na nc w ms) (hS : w.heap[SB]? = some (.cells (intsC sl).toArray 3 (0, 0))) (hi : i < sl.length) (hvi : In ms (outAt sl i)) (hj : j < sl.length) (hvj : In ms (outAt sl j)) :
    Gives B P M na ms 28 #[.pointer (some ⟨P, 0, none⟩), .agg #[.int .i64 5, .int .i64 i, .int .i64 j, .int .i64 nx], .slice (some ⟨SB, 0, none⟩) sl.length sl.length] w (joinR ms (joinFuel (outAt sl i) (outAt sl j)) 5 (outAt sl i) (outAt sl j)) := by
  have HB := hide (below_alloc w (.cells #[.int .i64 5, .int .i64 i, .int .i64 j, .int .i64 nx] 26))
  have HX := hide (blk_new w (.cells #[.int .i64 5, .int .i64 i, .int .i64 j, .int .i64 nx] 26))
  have H := hide h
  have H1 := hide (h.more HB.out)
  have HSB := hide (Below.blk HB.out hS)
  have HC : Hid (∀ W, MkOK B P M na nc W ms → Gives B P M na ms 35 _ W (joinR ms (joinFuel (outAt sl i) (outAt sl j)) 5 (outAt sl i) (outAt sl j))) := hide fun W hm => join_all (B := B) (P := P) (M := M) (nc := nc) (na := na) (ms := ms) 5 (by decide) _ _ _ W hvi hvj hm (by unfold joinFuel; omega)
  have hii : (i : Int) < (sl.length : Int) := by omega
  have hji : (j : Int) < (sl.length : Int) := by omega
  have ci := ints_cell HSB.out hi
  have cj := ints_cell HSB.out hj
  clear h hS hi hvi hj hvj
  unfold Gives at *
  generalize doneR ms (joinR ms (joinFuel (outAt sl i) (outAt sl j)) 5 (outAt sl i) (outAt sl j)) = R at *
  obtain ⟨Rk, Rm⟩ := R
  generalize outAt sl i = vi at *
  generalize outAt sl j = vj at *
  go_enter Try.func28, Try.ntmps28
  go_wp2_with fail
  have HS : Hid (∀ W : World, W.heap[w.heap.size]? = some (.cells #[.int .i64 5, .int .i64 i, .int .i64 j, .int .i64 nx] 26 (0, 0)) → W.heap[SB]? = some (.cells (intsC sl).toArray 3 (0, 0)) → (fun W : World => W.cell? ⟨w.heap.size, 0, none⟩ = some (.int .i64 5) ∧ W.cell? ⟨w.heap.size, 1, none⟩ = some (.int .i64 i) ∧ W.cell? ⟨w.heap.size, 2, none⟩ = some (.int .i64 j) ∧ W.cell? ⟨SB, i, none⟩ = some (.int .i64 vi) ∧ W.cell? ⟨SB, j, none⟩ = some (.int .i64 vj)) W) := hide fun W h0 h1 => by
    refine ⟨?_, ?_, ?_, ?_, ?_⟩
    · rw [blk_cell h0]; rfl
    · rw [blk_cell h0]; rfl
    · rw [blk_cell h0]; rfl
    · rw [blk_cell h1, ← blk_cell HSB.out]; exact ci
    · rw [blk_cell h1, ← blk_cell HSB.out]; exact cj
  have HX1 : Hid ((w.alloc (.cells #[.int .i64 5, .int .i64 i, .int .i64 j, .int .i64 nx] 26)).drew.heap[w.heap.size]? = some (.cells #[.int .i64 5, .int .i64 i, .int .i64 j, .int .i64 nx] 26 (0, 0))) := hide HX.out
  have HSB1 : Hid ((w.alloc (.cells #[.int .i64 5, .int .i64 i, .int .i64 j, .int .i64 nx] 26)).drew.heap[SB]? = some (.cells (intsC sl).toArray 3 (0, 0))) := hide HSB.out
  have HBd := hide HB.out.drew
  have H1d := hide (H1.out.more (Below.refl _ _).drew)
  have HS1 := hide (HS.out _ HX1.out HSB1.out)
  clear ci cj HX HSB HB H1
  refine wp_region_held_drew (S := (fun W : World => W.cell? ⟨w.heap.size, 0, none⟩ = some (.int .i64 5) ∧ W.cell? ⟨w.heap.size, 1, none⟩ = some (.int .i64 i) ∧ W.cell? ⟨w.heap.size, 2, none⟩ = some (.int .i64 j) ∧ W.cell? ⟨SB, i, none⟩ = some (.int .i64 vi) ∧ W.cell? ⟨SB, j, none⟩ = some (.int .i64 vj))) (by kernel_rfl) HS1.out (fun _ => ?_)
  generalize (w.alloc (.cells #[.int .i64 5, .int .i64 i, .int .i64 j, .int .i64 nx] 26)).drew = w1 at *
  refine wpAnyH_take (i := 0) (oi := ⟨some 28, _, _, _, _, _⟩) (v := .pointer (some ⟨P, 0, none⟩)) rfl (by kernel_rfl) (by kernel_rfl) (by kernel_rfl) (fun _ _ _ h => h) (Or.inl ⟨by rfl, fun W hS => by (obtain ⟨s0, s1, s2, s3, s4⟩ := hS; go_simp)⟩) HS1.out ?_
  simp only [Act.put, List.setIfInBounds_toArray, List.set_cons_zero, List.set_cons_succ]
  refine wpAnyH_take (i := 1) (oi := ⟨some 29, _, _, _, _, _⟩) (v := .pointer (some ⟨w.heap.size, 0, none⟩)) rfl (by kernel_rfl) (by kernel_rfl) (by kernel_rfl) (fun _ _ _ h => h) (Or.inl ⟨by rfl, fun W hS => by (obtain ⟨s0, s1, s2, s3, s4⟩ := hS; go_simp)⟩) HS1.out ?_
  simp only [Act.put, List.setIfInBounds_toArray, List.set_cons_zero, List.set_cons_succ]
  refine wpAnyH_take (i := 2) (oi := ⟨some 30, _, _, _, _, _⟩) (v := .int .i64 5) rfl (by kernel_rfl) (by kernel_rfl) (by kernel_rfl) (fun _ _ _ h => h) (Or.inl ⟨by rfl, fun W hS => by (obtain ⟨s0, s1, s2, s3, s4⟩ := hS; go_simp)⟩) HS1.out ?_
  simp only [Act.put, List.setIfInBounds_toArray, List.set_cons_zero, List.set_cons_succ]
  refine wpAnyH_take (i := 3) (oi := ⟨some 31, _, _, _, _, _⟩) (v := .slice (some ⟨SB, 0, none⟩) sl.length sl.length) rfl (by kernel_rfl) (by kernel_rfl) (by kernel_rfl) (fun _ _ _ h => h) (Or.inl ⟨by rfl, fun W hS => by (obtain ⟨s0, s1, s2, s3, s4⟩ := hS; go_simp)⟩) HS1.out ?_
  simp only [Act.put, List.setIfInBounds_toArray, List.set_cons_zero, List.set_cons_succ]
  refine wpAnyH_take (i := 4) (oi := ⟨some 32, _, _, _, _, _⟩) (v := .pointer (some ⟨w.heap.size, 1, none⟩)) rfl (by kernel_rfl) (by kernel_rfl) (by kernel_rfl) (fun _ _ _ h => h) (Or.inl ⟨by rfl, fun W hS => by (obtain ⟨s0, s1, s2, s3, s4⟩ := hS; go_simp)⟩) HS1.out ?_
  simp only [Act.put, List.setIfInBounds_toArray, List.set_cons_zero, List.set_cons_succ]
  refine wpAnyH_take (i := 5) (oi := ⟨some 33, _, _, _, _, _⟩) (v := .int .i64 i) rfl (by kernel_rfl) (by kernel_rfl) (by kernel_rfl) (fun _ _ _ h => h) (Or.inl ⟨by rfl, fun W hS => by (obtain ⟨s0, s1, s2, s3, s4⟩ := hS; go_simp)⟩) HS1.out ?_
  simp only [Act.put, List.setIfInBounds_toArray, List.set_cons_zero, List.set_cons_succ]
  refine wpAnyH_take (i := 6) (oi := ⟨some 34, _, _, _, _, _⟩) (v := .pointer (some ⟨SB, i, none⟩)) rfl (by kernel_rfl) (by kernel_rfl) (by kernel_rfl) (fun _ _ _ h => h) (Or.inl ⟨by rfl, fun W hS => by (obtain ⟨s0, s1, s2, s3, s4⟩ := hS; go_simp)⟩) HS1.out ?_
  simp only [Act.put, List.setIfInBounds_toArray, List.set_cons_zero, List.set_cons_succ]
  refine wpAnyH_take (i := 7) (oi := ⟨some 35, _, _, _, _, _⟩) (v := .int .i64 vi) rfl (by kernel_rfl) (by kernel_rfl) (by kernel_rfl) (fun _ _ _ h => h) (Or.inl ⟨by rfl, fun W hS => by (obtain ⟨s0, s1, s2, s3, s4⟩ := hS; go_simp)⟩) HS1.out ?_
  simp only [Act.put, List.setIfInBounds_toArray, List.set_cons_zero, List.set_cons_succ]
  refine wpAnyH_take (i := 8) (oi := ⟨some 36, _, _, _, _, _⟩) (v := .slice (some ⟨SB, 0, none⟩) sl.length sl.length) rfl (by kernel_rfl) (by kernel_rfl) (by kernel_rfl) (fun _ _ _ h => h) (Or.inl ⟨by rfl, fun W hS => by (obtain ⟨s0, s1, s2, s3, s4⟩ := hS; go_simp)⟩) HS1.out ?_
  simp only [Act.put, List.setIfInBounds_toArray, List.set_cons_zero, List.set_cons_succ]
  refine wpAnyH_take (i := 9) (oi := ⟨some 37, _, _, _, _, _⟩) (v := .pointer (some ⟨w.heap.size, 2, none⟩)) rfl (by kernel_rfl) (by kernel_rfl) (by kernel_rfl) (fun _ _ _ h => h) (Or.inl ⟨by rfl, fun W hS => by (obtain ⟨s0, s1, s2, s3, s4⟩ := hS; go_simp)⟩) HS1.out ?_
  simp only [Act.put, List.setIfInBounds_toArray, List.set_cons_zero, List.set_cons_succ]
  refine wpAnyH_take (i := 10) (oi := ⟨some 38, _, _, _, _, _⟩) (v := .int .i64 j) rfl (by kernel_rfl) (by kernel_rfl) (by kernel_rfl) (fun _ _ _ h => h) (Or.inl ⟨by rfl, fun W hS => by (obtain ⟨s0, s1, s2, s3, s4⟩ := hS; go_simp)⟩) HS1.out ?_
  simp only [Act.put, List.setIfInBounds_toArray, List.set_cons_zero, List.set_cons_succ]
  refine wpAnyH_take (i := 11) (oi := ⟨some 39, _, _, _, _, _⟩) (v := .pointer (some ⟨SB, j, none⟩)) rfl (by kernel_rfl) (by kernel_rfl) (by kernel_rfl) (fun _ _ _ h => h) (Or.inl ⟨by rfl, fun W hS => by (obtain ⟨s0, s1, s2, s3, s4⟩ := hS; go_simp)⟩) HS1.out ?_
  simp only [Act.put, List.setIfInBounds_toArray, List.set_cons_zero, List.set_cons_succ]
  refine wpAnyH_take (i := 12) (oi := ⟨some 40, _, _, _, _, _⟩) (v := .int .i64 vj) rfl (by kernel_rfl) (by kernel_rfl) (by kernel_rfl) (fun _ _ _ h => h) (Or.inl ⟨by rfl, fun W hS => by (obtain ⟨s0, s1, s2, s3, s4⟩ := hS; go_simp)⟩) HS1.out ?_
  simp only [Act.put, List.setIfInBounds_toArray, List.set_cons_zero, List.set_cons_succ]
  refine wpAnyH_ready (rs := [13]) (by kernel_rfl) (by simp) ?_
  refine AllReadyH.cons rfl (fun K hK => ?_) AllReadyH.nil
  go_simp
  refine (HC.out _ H1d.out).mono ?_
  rintro e w2 ⟨rfl, hn⟩
  have HS2 : Hid ((fun W : World => W.cell? ⟨w.heap.size, 0, none⟩ = some (.int .i64 5) ∧ W.cell? ⟨w.heap.size, 1, none⟩ = some (.int .i64 i) ∧ W.cell? ⟨w.heap.size, 2, none⟩ = some (.int .i64 j) ∧ W.cell? ⟨SB, i, none⟩ = some (.int .i64 vi) ∧ W.cell? ⟨SB, j, none⟩ = some (.int .i64 vj)) w2) := hide (by
    obtain ⟨na', nc', _, hst⟩ := hn
    exact HS.out w2 ((hst.late H.out.at_ (Nat.le_refl _) (blk_lt HX1.out)).trans HX1.out) (hst.blk H1d.out.at_ HSB1.out (by decide) (by decide)))
  have HN := hide (Now.pre HBd.out hn)
  clear hn HC
  refine hK.out _ _ HS2.out (fun _ => ?_)
  clear hK K
  refine wpAnyH_take (i := 14) (oi := ⟨some 6, _, _, _, _, _⟩) (v := .int .i64 Rk) rfl (by kernel_rfl) (by kernel_rfl) (by kernel_rfl) (fun _ _ _ h => h) (Or.inl ⟨by rfl, fun W hS => by go_simp⟩) HS2.out ?_
  simp only [Act.put, List.setIfInBounds_toArray, List.set_cons_zero, List.set_cons_succ]
  refine wpAnyH_done (by kernel_rfl) ?_ _
  go_wp2_with fail
  go_ret
  exact ⟨rfl, HN.out⟩

set_option maxRecDepth 100000 in
set_option maxHeartbeats 1600000 in
theorem anew_6 {B P M nc : Nat} {na : Option Addr} {ms : List Nd} (i : Nat) (j : Nat) (nx : Int) (SB : Nat) (sl : List Int) (w : World) (h : MkOK B P M na nc w ms) (hS : w.heap[SB]? = some (.cells (intsC sl).toArray 3 (0, 0))) (hi : i < sl.length) (hvi : In ms (outAt sl i)) (hj : j < sl.length) (hvj : In ms (outAt sl j)) :
    Gives B P M na ms 28 #[.pointer (some ⟨P, 0, none⟩), .agg #[.int .i64 6, .int .i64 i, .int .i64 j, .int .i64 nx], .slice (some ⟨SB, 0, none⟩) sl.length sl.length] w (joinR ms (joinFuel (outAt sl i) (outAt sl j)) 6 (outAt sl i) (outAt sl j)) := by
  have HB := hide (below_alloc w (.cells #[.int .i64 6, .int .i64 i, .int .i64 j, .int .i64 nx] 26))
  have HX := hide (blk_new w (.cells #[.int .i64 6, .int .i64 i, .int .i64 j, .int .i64 nx] 26))
  have H := hide h
  have H1 := hide (h.more HB.out)
  have HSB := hide (Below.blk HB.out hS)
  have HC : Hid (∀ W, MkOK B P M na nc W ms → Gives B P M na ms 35 _ W (joinR ms (joinFuel (outAt sl i) (outAt sl j)) 6 (outAt sl i) (outAt sl j))) := hide fun W hm => join_all (B := B) (P := P) (M := M) (nc := nc) (na := na) (ms := ms) 6 (by decide) _ _ _ W hvi hvj hm (by unfold joinFuel; omega)
  have hii : (i : Int) < (sl.length : Int) := by omega
  have hji : (j : Int) < (sl.length : Int) := by omega
  have ci := ints_cell HSB.out hi
  have cj := ints_cell HSB.out hj
  clear h hS hi hvi hj hvj
  unfold Gives at *
  generalize doneR ms (joinR ms (joinFuel (outAt sl i) (outAt sl j)) 6 (outAt sl i) (outAt sl j)) = R at *
  obtain ⟨Rk, Rm⟩ := R
  generalize outAt sl i = vi at *
  generalize outAt sl j = vj at *
  go_enter Try.func28, Try.ntmps28
  go_wp2_with fail
  have HS : Hid (∀ W : World, W.heap[w.heap.size]? = some (.cells #[.int .i64 6, .int .i64 i, .int .i64 j, .int .i64 nx] 26 (0, 0)) → W.heap[SB]? = some (.cells (intsC sl).toArray 3 (0, 0)) → (fun W : World => W.cell? ⟨w.heap.size, 0, none⟩ = some (.int .i64 6) ∧ W.cell? ⟨w.heap.size, 1, none⟩ = some (.int .i64 i) ∧ W.cell? ⟨w.heap.size, 2, none⟩ = some (.int .i64 j) ∧ W.cell? ⟨SB, i, none⟩ = some (.int .i64 vi) ∧ W.cell? ⟨SB, j, none⟩ = some (.int .i64 vj)) W) := hide fun W h0 h1 => by
    refine ⟨?_, ?_, ?_, ?_, ?_⟩
    · rw [blk_cell h0]; rfl
    · rw [blk_cell h0]; rfl
    · rw [blk_cell h0]; rfl
    · rw [blk_cell h1, ← blk_cell HSB.out]; exact ci
    · rw [blk_cell h1, ← blk_cell HSB.out]; exact cj
  have HX1 : Hid ((w.alloc (.cells #[.int .i64 6, .int .i64 i, .int .i64 j, .int .i64 nx] 26)).drew.heap[w.heap.size]? = some (.cells #[.int .i64 6, .int .i64 i, .int .i64 j, .int .i64 nx] 26 (0, 0))) := hide HX.out
  have HSB1 : Hid ((w.alloc (.cells #[.int .i64 6, .int .i64 i, .int .i64 j, .int .i64 nx] 26)).drew.heap[SB]? = some (.cells (intsC sl).toArray 3 (0, 0))) := hide HSB.out
  have HBd := hide HB.out.drew
  have H1d := hide (H1.out.more (Below.refl _ _).drew)
  have HS1 := hide (HS.out _ HX1.out HSB1.out)
  clear ci cj HX HSB HB H1
  refine wp_region_held_drew (S := (fun W : World => W.cell? ⟨w.heap.size, 0, none⟩ = some (.int .i64 6) ∧ W.cell? ⟨w.heap.size, 1, none⟩ = some (.int .i64 i) ∧ W.cell? ⟨w.heap.size, 2, none⟩ = some (.int .i64 j) ∧ W.cell? ⟨SB, i, none⟩ = some (.int .i64 vi) ∧ W.cell? ⟨SB, j, none⟩ = some (.int .i64 vj))) (by kernel_rfl) HS1.out (fun _ => ?_)
  generalize (w.alloc (.cells #[.int .i64 6, .int .i64 i, .int .i64 j, .int .i64 nx] 26)).drew = w1 at *
  refine wpAnyH_take (i := 0) (oi := ⟨some 28, _, _, _, _, _⟩) (v := .pointer (some ⟨P, 0, none⟩)) rfl (by kernel_rfl) (by kernel_rfl) (by kernel_rfl) (fun _ _ _ h => h) (Or.inl ⟨by rfl, fun W hS => by (obtain ⟨s0, s1, s2, s3, s4⟩ := hS; go_simp)⟩) HS1.out ?_
  simp only [Act.put, List.setIfInBounds_toArray, List.set_cons_zero, List.set_cons_succ]
  refine wpAnyH_take (i := 1) (oi := ⟨some 29, _, _, _, _, _⟩) (v := .pointer (some ⟨w.heap.size, 0, none⟩)) rfl (by kernel_rfl) (by kernel_rfl) (by kernel_rfl) (fun _ _ _ h => h) (Or.inl ⟨by rfl, fun W hS => by (obtain ⟨s0, s1, s2, s3, s4⟩ := hS; go_simp)⟩) HS1.out ?_
  simp only [Act.put, List.setIfInBounds_toArray, List.set_cons_zero, List.set_cons_succ]
  refine wpAnyH_take (i := 2) (oi := ⟨some 30, _, _, _, _, _⟩) (v := .int .i64 6) rfl (by kernel_rfl) (by kernel_rfl) (by kernel_rfl) (fun _ _ _ h => h) (Or.inl ⟨by rfl, fun W hS => by (obtain ⟨s0, s1, s2, s3, s4⟩ := hS; go_simp)⟩) HS1.out ?_
  simp only [Act.put, List.setIfInBounds_toArray, List.set_cons_zero, List.set_cons_succ]
  refine wpAnyH_take (i := 3) (oi := ⟨some 31, _, _, _, _, _⟩) (v := .slice (some ⟨SB, 0, none⟩) sl.length sl.length) rfl (by kernel_rfl) (by kernel_rfl) (by kernel_rfl) (fun _ _ _ h => h) (Or.inl ⟨by rfl, fun W hS => by (obtain ⟨s0, s1, s2, s3, s4⟩ := hS; go_simp)⟩) HS1.out ?_
  simp only [Act.put, List.setIfInBounds_toArray, List.set_cons_zero, List.set_cons_succ]
  refine wpAnyH_take (i := 4) (oi := ⟨some 32, _, _, _, _, _⟩) (v := .pointer (some ⟨w.heap.size, 1, none⟩)) rfl (by kernel_rfl) (by kernel_rfl) (by kernel_rfl) (fun _ _ _ h => h) (Or.inl ⟨by rfl, fun W hS => by (obtain ⟨s0, s1, s2, s3, s4⟩ := hS; go_simp)⟩) HS1.out ?_
  simp only [Act.put, List.setIfInBounds_toArray, List.set_cons_zero, List.set_cons_succ]
  refine wpAnyH_take (i := 5) (oi := ⟨some 33, _, _, _, _, _⟩) (v := .int .i64 i) rfl (by kernel_rfl) (by kernel_rfl) (by kernel_rfl) (fun _ _ _ h => h) (Or.inl ⟨by rfl, fun W hS => by (obtain ⟨s0, s1, s2, s3, s4⟩ := hS; go_simp)⟩) HS1.out ?_
  simp only [Act.put, List.setIfInBounds_toArray, List.set_cons_zero, List.set_cons_succ]
  refine wpAnyH_take (i := 6) (oi := ⟨some 34, _, _, _, _, _⟩) (v := .pointer (some ⟨SB, i, none⟩)) rfl (by kernel_rfl) (by kernel_rfl) (by kernel_rfl) (fun _ _ _ h => h) (Or.inl ⟨by rfl, fun W hS => by (obtain ⟨s0, s1, s2, s3, s4⟩ := hS; go_simp)⟩) HS1.out ?_
  simp only [Act.put, List.setIfInBounds_toArray, List.set_cons_zero, List.set_cons_succ]
  refine wpAnyH_take (i := 7) (oi := ⟨some 35, _, _, _, _, _⟩) (v := .int .i64 vi) rfl (by kernel_rfl) (by kernel_rfl) (by kernel_rfl) (fun _ _ _ h => h) (Or.inl ⟨by rfl, fun W hS => by (obtain ⟨s0, s1, s2, s3, s4⟩ := hS; go_simp)⟩) HS1.out ?_
  simp only [Act.put, List.setIfInBounds_toArray, List.set_cons_zero, List.set_cons_succ]
  refine wpAnyH_take (i := 8) (oi := ⟨some 36, _, _, _, _, _⟩) (v := .slice (some ⟨SB, 0, none⟩) sl.length sl.length) rfl (by kernel_rfl) (by kernel_rfl) (by kernel_rfl) (fun _ _ _ h => h) (Or.inl ⟨by rfl, fun W hS => by (obtain ⟨s0, s1, s2, s3, s4⟩ := hS; go_simp)⟩) HS1.out ?_
  simp only [Act.put, List.setIfInBounds_toArray, List.set_cons_zero, List.set_cons_succ]
  refine wpAnyH_take (i := 9) (oi := ⟨some 37, _, _, _, _, _⟩) (v := .pointer (some ⟨w.heap.size, 2, none⟩)) rfl (by kernel_rfl) (by kernel_rfl) (by kernel_rfl) (fun _ _ _ h => h) (Or.inl ⟨by rfl, fun W hS => by (obtain ⟨s0, s1, s2, s3, s4⟩ := hS; go_simp)⟩) HS1.out ?_
  simp only [Act.put, List.setIfInBounds_toArray, List.set_cons_zero, List.set_cons_succ]
  refine wpAnyH_take (i := 10) (oi := ⟨some 38, _, _, _, _, _⟩) (v := .int .i64 j) rfl (by kernel_rfl) (by kernel_rfl) (by kernel_rfl) (fun _ _ _ h => h) (Or.inl ⟨by rfl, fun W hS => by (obtain ⟨s0, s1, s2, s3, s4⟩ := hS; go_simp)⟩) HS1.out ?_
  simp only [Act.put, List.setIfInBounds_toArray, List.set_cons_zero, List.set_cons_succ]
  refine wpAnyH_take (i := 11) (oi := ⟨some 39, _, _, _, _, _⟩) (v := .pointer (some ⟨SB, j, none⟩)) rfl (by kernel_rfl) (by kernel_rfl) (by kernel_rfl) (fun _ _ _ h => h) (Or.inl ⟨by rfl, fun W hS => by (obtain ⟨s0, s1, s2, s3, s4⟩ := hS; go_simp)⟩) HS1.out ?_
  simp only [Act.put, List.setIfInBounds_toArray, List.set_cons_zero, List.set_cons_succ]
  refine wpAnyH_take (i := 12) (oi := ⟨some 40, _, _, _, _, _⟩) (v := .int .i64 vj) rfl (by kernel_rfl) (by kernel_rfl) (by kernel_rfl) (fun _ _ _ h => h) (Or.inl ⟨by rfl, fun W hS => by (obtain ⟨s0, s1, s2, s3, s4⟩ := hS; go_simp)⟩) HS1.out ?_
  simp only [Act.put, List.setIfInBounds_toArray, List.set_cons_zero, List.set_cons_succ]
  refine wpAnyH_ready (rs := [13]) (by kernel_rfl) (by simp) ?_
  refine AllReadyH.cons rfl (fun K hK => ?_) AllReadyH.nil
  go_simp
  refine (HC.out _ H1d.out).mono ?_
  rintro e w2 ⟨rfl, hn⟩
  have HS2 : Hid ((fun W : World => W.cell? ⟨w.heap.size, 0, none⟩ = some (.int .i64 6) ∧ W.cell? ⟨w.heap.size, 1, none⟩ = some (.int .i64 i) ∧ W.cell? ⟨w.heap.size, 2, none⟩ = some (.int .i64 j) ∧ W.cell? ⟨SB, i, none⟩ = some (.int .i64 vi) ∧ W.cell? ⟨SB, j, none⟩ = some (.int .i64 vj)) w2) := hide (by
    obtain ⟨na', nc', _, hst⟩ := hn
    exact HS.out w2 ((hst.late H.out.at_ (Nat.le_refl _) (blk_lt HX1.out)).trans HX1.out) (hst.blk H1d.out.at_ HSB1.out (by decide) (by decide)))
  have HN := hide (Now.pre HBd.out hn)
  clear hn HC
  refine hK.out _ _ HS2.out (fun _ => ?_)
  clear hK K
  refine wpAnyH_take (i := 14) (oi := ⟨some 6, _, _, _, _, _⟩) (v := .int .i64 Rk) rfl (by kernel_rfl) (by kernel_rfl) (by kernel_rfl) (fun _ _ _ h => h) (Or.inl ⟨by rfl, fun W hS => by go_simp⟩) HS2.out ?_
  simp only [Act.put, List.setIfInBounds_toArray, List.set_cons_zero, List.set_cons_succ]
  refine wpAnyH_done (by kernel_rfl) ?_ _
  go_wp2_with fail
  go_ret
  exact ⟨rfl, HN.out⟩

set_option maxRecDepth 100000 in
set_option maxHeartbeats 1600000 in
theorem anew_7 {B P M nc : Nat} {na : Option Addr} {ms : List Nd} (i : Nat) (j : Nat) (nx : Int) (SB : Nat) (sl : List Int) (w : World) (h : MkOK B P M na nc w ms) (hS : w.heap[SB]? = some (.cells (intsC sl).toArray 3 (0, 0))) (hi : i < sl.length) (hvi : In ms (outAt sl i)) (hj : j < sl.length) (hvj : In ms (outAt sl j)) :
    Gives B P M na ms 28 #[.pointer (some ⟨P, 0, none⟩), .agg #[.int .i64 7, .int .i64 i, .int .i64 j, .int .i64 nx], .slice (some ⟨SB, 0, none⟩) sl.length sl.length] w (xorR ms (joinFuel (outAt sl i) (outAt sl j)) (outAt sl i) (outAt sl j)) := by
  have HB := hide (below_alloc w (.cells #[.int .i64 7, .int .i64 i, .int .i64 j, .int .i64 nx] 26))
  have HX := hide (blk_new w (.cells #[.int .i64 7, .int .i64 i, .int .i64 j, .int .i64 nx] 26))
  have H := hide h
  have H1 := hide (h.more HB.out)
  have HSB := hide (Below.blk HB.out hS)
  have HC : Hid (∀ W, MkOK B P M na nc W ms → Gives B P M na ms 36 _ W (xorR ms (joinFuel (outAt sl i) (outAt sl j)) (outAt sl i) (outAt sl j))) := hide fun W hm => xor_all (B := B) (P := P) (M := M) (nc := nc) (na := na) (ms := ms) _ _ _ W hvi hvj hm (by unfold joinFuel; omega)
  have hii : (i : Int) < (sl.length : Int) := by omega
  have hji : (j : Int) < (sl.length : Int) := by omega
  have ci := ints_cell HSB.out hi
  have cj := ints_cell HSB.out hj
  clear h hS hi hvi hj hvj
  unfold Gives at *
  generalize doneR ms (xorR ms (joinFuel (outAt sl i) (outAt sl j)) (outAt sl i) (outAt sl j)) = R at *
  obtain ⟨Rk, Rm⟩ := R
  generalize outAt sl i = vi at *
  generalize outAt sl j = vj at *
  go_enter Try.func28, Try.ntmps28
  go_wp2_with fail
  have HS : Hid (∀ W : World, W.heap[w.heap.size]? = some (.cells #[.int .i64 7, .int .i64 i, .int .i64 j, .int .i64 nx] 26 (0, 0)) → W.heap[SB]? = some (.cells (intsC sl).toArray 3 (0, 0)) → (fun W : World => W.cell? ⟨w.heap.size, 0, none⟩ = some (.int .i64 7) ∧ W.cell? ⟨w.heap.size, 1, none⟩ = some (.int .i64 i) ∧ W.cell? ⟨w.heap.size, 2, none⟩ = some (.int .i64 j) ∧ W.cell? ⟨SB, i, none⟩ = some (.int .i64 vi) ∧ W.cell? ⟨SB, j, none⟩ = some (.int .i64 vj)) W) := hide fun W h0 h1 => by
    refine ⟨?_, ?_, ?_, ?_, ?_⟩
    · rw [blk_cell h0]; rfl
    · rw [blk_cell h0]; rfl
    · rw [blk_cell h0]; rfl
    · rw [blk_cell h1, ← blk_cell HSB.out]; exact ci
    · rw [blk_cell h1, ← blk_cell HSB.out]; exact cj
  have HX1 : Hid ((w.alloc (.cells #[.int .i64 7, .int .i64 i, .int .i64 j, .int .i64 nx] 26)).drew.heap[w.heap.size]? = some (.cells #[.int .i64 7, .int .i64 i, .int .i64 j, .int .i64 nx] 26 (0, 0))) := hide HX.out
  have HSB1 : Hid ((w.alloc (.cells #[.int .i64 7, .int .i64 i, .int .i64 j, .int .i64 nx] 26)).drew.heap[SB]? = some (.cells (intsC sl).toArray 3 (0, 0))) := hide HSB.out
  have HBd := hide HB.out.drew
  have H1d := hide (H1.out.more (Below.refl _ _).drew)
  have HS1 := hide (HS.out _ HX1.out HSB1.out)
  clear ci cj HX HSB HB H1
  refine wp_region_held_drew (S := (fun W : World => W.cell? ⟨w.heap.size, 0, none⟩ = some (.int .i64 7) ∧ W.cell? ⟨w.heap.size, 1, none⟩ = some (.int .i64 i) ∧ W.cell? ⟨w.heap.size, 2, none⟩ = some (.int .i64 j) ∧ W.cell? ⟨SB, i, none⟩ = some (.int .i64 vi) ∧ W.cell? ⟨SB, j, none⟩ = some (.int .i64 vj))) (by kernel_rfl) HS1.out (fun _ => ?_)
  generalize (w.alloc (.cells #[.int .i64 7, .int .i64 i, .int .i64 j, .int .i64 nx] 26)).drew = w1 at *
  refine wpAnyH_take (i := 0) (oi := ⟨some 44, _, _, _, _, _⟩) (v := .pointer (some ⟨P, 0, none⟩)) rfl (by kernel_rfl) (by kernel_rfl) (by kernel_rfl) (fun _ _ _ h => h) (Or.inl ⟨by rfl, fun W hS => by (obtain ⟨s0, s1, s2, s3, s4⟩ := hS; go_simp)⟩) HS1.out ?_
  simp only [Act.put, List.setIfInBounds_toArray, List.set_cons_zero, List.set_cons_succ]
  refine wpAnyH_take (i := 1) (oi := ⟨some 45, _, _, _, _, _⟩) (v := .slice (some ⟨SB, 0, none⟩) sl.length sl.length) rfl (by kernel_rfl) (by kernel_rfl) (by kernel_rfl) (fun _ _ _ h => h) (Or.inl ⟨by rfl, fun W hS => by (obtain ⟨s0, s1, s2, s3, s4⟩ := hS; go_simp)⟩) HS1.out ?_
  simp only [Act.put, List.setIfInBounds_toArray, List.set_cons_zero, List.set_cons_succ]
  refine wpAnyH_take (i := 2) (oi := ⟨some 46, _, _, _, _, _⟩) (v := .pointer (some ⟨w.heap.size, 1, none⟩)) rfl (by kernel_rfl) (by kernel_rfl) (by kernel_rfl) (fun _ _ _ h => h) (Or.inl ⟨by rfl, fun W hS => by (obtain ⟨s0, s1, s2, s3, s4⟩ := hS; go_simp)⟩) HS1.out ?_
  simp only [Act.put, List.setIfInBounds_toArray, List.set_cons_zero, List.set_cons_succ]
  refine wpAnyH_take (i := 3) (oi := ⟨some 47, _, _, _, _, _⟩) (v := .int .i64 i) rfl (by kernel_rfl) (by kernel_rfl) (by kernel_rfl) (fun _ _ _ h => h) (Or.inl ⟨by rfl, fun W hS => by (obtain ⟨s0, s1, s2, s3, s4⟩ := hS; go_simp)⟩) HS1.out ?_
  simp only [Act.put, List.setIfInBounds_toArray, List.set_cons_zero, List.set_cons_succ]
  refine wpAnyH_take (i := 4) (oi := ⟨some 48, _, _, _, _, _⟩) (v := .pointer (some ⟨SB, i, none⟩)) rfl (by kernel_rfl) (by kernel_rfl) (by kernel_rfl) (fun _ _ _ h => h) (Or.inl ⟨by rfl, fun W hS => by (obtain ⟨s0, s1, s2, s3, s4⟩ := hS; go_simp)⟩) HS1.out ?_
  simp only [Act.put, List.setIfInBounds_toArray, List.set_cons_zero, List.set_cons_succ]
  refine wpAnyH_take (i := 5) (oi := ⟨some 49, _, _, _, _, _⟩) (v := .int .i64 vi) rfl (by kernel_rfl) (by kernel_rfl) (by kernel_rfl) (fun _ _ _ h => h) (Or.inl ⟨by rfl, fun W hS => by (obtain ⟨s0, s1, s2, s3, s4⟩ := hS; go_simp)⟩) HS1.out ?_
  simp only [Act.put, List.setIfInBounds_toArray, List.set_cons_zero, List.set_cons_succ]
  refine wpAnyH_take (i := 6) (oi := ⟨some 50, _, _, _, _, _⟩) (v := .slice (some ⟨SB, 0, none⟩) sl.length sl.length) rfl (by kernel_rfl) (by kernel_rfl) (by kernel_rfl) (fun _ _ _ h => h) (Or.inl ⟨by rfl, fun W hS => by (obtain ⟨s0, s1, s2, s3, s4⟩ := hS; go_simp)⟩) HS1.out ?_
  simp only [Act.put, List.setIfInBounds_toArray, List.set_cons_zero, List.set_cons_succ]
  refine wpAnyH_take (i := 7) (oi := ⟨some 51, _, _, _, _, _⟩) (v := .pointer (some ⟨w.heap.size, 2, none⟩)) rfl (by kernel_rfl) (by kernel_rfl) (by kernel_rfl) (fun _ _ _ h => h) (Or.inl ⟨by rfl, fun W hS => by (obtain ⟨s0, s1, s2, s3, s4⟩ := hS; go_simp)⟩) HS1.out ?_
  simp only [Act.put, List.setIfInBounds_toArray, List.set_cons_zero, List.set_cons_succ]
  refine wpAnyH_take (i := 8) (oi := ⟨some 52, _, _, _, _, _⟩) (v := .int .i64 j) rfl (by kernel_rfl) (by kernel_rfl) (by kernel_rfl) (fun _ _ _ h => h) (Or.inl ⟨by rfl, fun W hS => by (obtain ⟨s0, s1, s2, s3, s4⟩ := hS; go_simp)⟩) HS1.out ?_
  simp only [Act.put, List.setIfInBounds_toArray, List.set_cons_zero, List.set_cons_succ]
  refine wpAnyH_take (i := 9) (oi := ⟨some 53, _, _, _, _, _⟩) (v := .pointer (some ⟨SB, j, none⟩)) rfl (by kernel_rfl) (by kernel_rfl) (by kernel_rfl) (fun _ _ _ h => h) (Or.inl ⟨by rfl, fun W hS => by (obtain ⟨s0, s1, s2, s3, s4⟩ := hS; go_simp)⟩) HS1.out ?_
  simp only [Act.put, List.setIfInBounds_toArray, List.set_cons_zero, List.set_cons_succ]
  refine wpAnyH_take (i := 10) (oi := ⟨some 54, _, _, _, _, _⟩) (v := .int .i64 vj) rfl (by kernel_rfl) (by kernel_rfl) (by kernel_rfl) (fun _ _ _ h => h) (Or.inl ⟨by rfl, fun W hS => by (obtain ⟨s0, s1, s2, s3, s4⟩ := hS; go_simp)⟩) HS1.out ?_
  simp only [Act.put, List.setIfInBounds_toArray, List.set_cons_zero, List.set_cons_succ]
  refine wpAnyH_ready (rs := [11]) (by kernel_rfl) (by simp) ?_
  refine AllReadyH.cons rfl (fun K hK => ?_) AllReadyH.nil
  go_simp
  refine (HC.out _ H1d.out).mono ?_
  rintro e w2 ⟨rfl, hn⟩
  have HS2 : Hid ((fun W : World => W.cell? ⟨w.heap.size, 0, none⟩ = some (.int .i64 7) ∧ W.cell? ⟨w.heap.size, 1, none⟩ = some (.int .i64 i) ∧ W.cell? ⟨w.heap.size, 2, none⟩ = some (.int .i64 j) ∧ W.cell? ⟨SB, i, none⟩ = some (.int .i64 vi) ∧ W.cell? ⟨SB, j, none⟩ = some (.int .i64 vj)) w2) := hide (by
    obtain ⟨na', nc', _, hst⟩ := hn
    exact HS.out w2 ((hst.late H.out.at_ (Nat.le_refl _) (blk_lt HX1.out)).trans HX1.out) (hst.blk H1d.out.at_ HSB1.out (by decide) (by decide)))
  have HN := hide (Now.pre HBd.out hn)
  clear hn HC
  refine hK.out _ _ HS2.out (fun _ => ?_)
  clear hK K
  refine wpAnyH_take (i := 12) (oi := ⟨some 6, _, _, _, _, _⟩) (v := .int .i64 Rk) rfl (by kernel_rfl) (by kernel_rfl) (by kernel_rfl) (fun _ _ _ h => h) (Or.inl ⟨by rfl, fun W hS => by go_simp⟩) HS2.out ?_
  simp only [Act.put, List.setIfInBounds_toArray, List.set_cons_zero, List.set_cons_succ]
  refine wpAnyH_done (by kernel_rfl) ?_ _
  go_wp2_with fail
  go_ret
  exact ⟨rfl, HN.out⟩

set_option maxRecDepth 100000 in
set_option maxHeartbeats 1600000 in
theorem anew_8 {B P M nc : Nat} {na : Option Addr} {ms : List Nd} (i : Nat) (j : Int) (nx : Int) (SB : Nat) (sl : List Int) (w : World) (h : MkOK B P M na nc w ms) (hS : w.heap[SB]? = some (.cells (intsC sl).toArray 3 (0, 0))) (hi : i < sl.length) (hvi : In ms (outAt sl i)) :
    Gives B P M na ms 28 #[.pointer (some ⟨P, 0, none⟩), .agg #[.int .i64 8, .int .i64 i, .int .i64 j, .int .i64 nx], .slice (some ⟨SB, 0, none⟩) sl.length sl.length] w (notR ms (outAt sl i)) := by
  have HB := hide (below_alloc w (.cells #[.int .i64 8, .int .i64 i, .int .i64 j, .int .i64 nx] 26))
  have HX := hide (blk_new w (.cells #[.int .i64 8, .int .i64 i, .int .i64 j, .int .i64 nx] 26))
  have H := hide h
  have H1 := hide (h.more HB.out)
  have HSB := hide (Below.blk HB.out hS)
  have HC : Hid (∀ W, MkOK B P M na nc W ms → Gives B P M na ms 37 _ W (notR ms (outAt sl i))) := hide fun W hm => not_at (B := B) (P := P) (M := M) (nc := nc) (na := na) (ms := ms) _ W hm hvi
  have hii : (i : Int) < (sl.length : Int) := by omega
  have ci := ints_cell HSB.out hi
  clear h hS hi hvi 
  unfold Gives at *
  generalize doneR ms (notR ms (outAt sl i)) = R at *
  obtain ⟨Rk, Rm⟩ := R
  generalize outAt sl i = vi at *
  go_enter Try.func28, Try.ntmps28
  go_wp2_with fail
  refine (HC.out _ H1.out).mono ?_
  rintro e w2 ⟨rfl, hn⟩
  have HN := hide (Now.pre HB.out hn)
  clear hn HC
  go_wp2_with fail
  go_ret
  exact ⟨rfl, HN.out⟩

theorem kAt_nat (l : List Int) (i : Nat) : kAt l (i : Int) = outAt l i := by simp [kAt]
theorem anew_at {B P M nc : Nat} {na : Option Addr} {ms : List Nd} (x : Nd) (n k : Nat) (given : Int) (SB : Nat) (sl : List Int) (w : World) (h : MkOK B P M na nc w ms) (hS : w.heap[SB]? = some (.cells (intsC sl).toArray 3 (0, 0))) (hx : rightN given n k x = true) (h1 : x.op ≠ 1) (h2 : x.op ≠ 2) (hk : k ≤ sl.length) (hv : ∀ i, i < k → In ms (outAt sl i)) :
    Gives B P M na ms 28 #[.pointer (some ⟨P, 0, none⟩), ndV x, .slice (some ⟨SB, 0, none⟩) sl.length sl.length] w (anewR ms sl x) := by
  obtain ⟨op, a, b, nx⟩ := x
  simp only at h1 h2
  unfold ndV anewR
  simp only
  unfold rightN at hx
  simp only at hx
  rw [if_neg h1, if_neg h2] at hx
  have two : ∀ {a b : Int}, (inR a k && inR b k) = true → ∃ i j : Nat, a = i ∧ b = j ∧ i < k ∧ j < k := by
    intro a b h
    simp only [Bool.and_eq_true, inR_iff] at h
    obtain ⟨i, rfl⟩ := Int.eq_ofNat_of_zero_le h.1.1
    obtain ⟨j, rfl⟩ := Int.eq_ofNat_of_zero_le h.2.1
    exact ⟨i, j, rfl, rfl, by omega, by omega⟩
  by_cases c3 : op = 3
  · subst c3; rw [if_pos rfl]; exact anew_3 a b nx SB sl w h
  rw [if_neg c3] at hx ⊢
  by_cases c4 : op = 4
  · subst c4; rw [if_pos rfl]; exact anew_4 a b nx SB sl w h
  rw [if_neg c4] at hx ⊢
  by_cases c5 : op = 5
  · subst c5
    rw [if_pos rfl] at hx ⊢
    obtain ⟨i, j, rfl, rfl, hi, hj⟩ := two hx
    simp only [kAt_nat]
    exact anew_5 i j nx SB sl w h hS (by omega) (hv i hi) (by omega) (hv j hj)
  rw [if_neg c5] at hx ⊢
  by_cases c6 : op = 6
  · subst c6
    rw [if_pos rfl] at hx ⊢
    obtain ⟨i, j, rfl, rfl, hi, hj⟩ := two hx
    simp only [kAt_nat]
    exact anew_6 i j nx SB sl w h hS (by omega) (hv i hi) (by omega) (hv j hj)
  rw [if_neg c6] at hx ⊢
  by_cases c7 : op = 7
  · subst c7
    rw [if_pos rfl] at hx ⊢
    obtain ⟨i, j, rfl, rfl, hi, hj⟩ := two hx
    simp only [kAt_nat]
    exact anew_7 i j nx SB sl w h hS (by omega) (hv i hi) (by omega) (hv j hj)
  rw [if_neg c7] at hx ⊢
  by_cases c8 : op = 8
  · subst c8
    rw [if_pos rfl] at hx
    have hq := inR_iff.1 hx
    obtain ⟨i, rfl⟩ := Int.eq_ofNat_of_zero_le hq.1
    simp only [kAt_nat]
    exact anew_8 i b nx SB sl w h hS (by omega) (hv i (by omega))
  · rw [if_neg c8] at hx; cases hx
end Go.Proofs.Ytlnmemeejgnbeaa
