/-
  CONTRACT of right.
-/
import Derived.Deep.RegionHeld3
import Derived.Test.YtiimnnancblbkaaDoorCheck
import Derived.Test.YtiimnnancblbkaaDoorWhole
import Derived.Test.YtiimnnancblbkaaDoorJRound
set_option linter.unusedSimpArgs false
set_option linter.unusedVariables false
namespace Go.Proofs.YtiimnnancblbkaaDoor
open Go.RowKit

theorem prRep_two {N : Nat} {w : World} {v : Value} {p : List De × List St} (h : PrRep N w v p) : ∃ (aa : Option Addr) (ac : Nat) (ba : Option Addr) (bc : Nat), v = .agg #[.slice aa p.1.length ac, .slice ba p.2.length bc] ∧ IsDes (From N) w p.1 (.slice aa p.1.length ac) ∧ IsSts (From N) w p.2 (.slice ba p.2.length bc) := by
  obtain ⟨a, b, rfl, h1, h2⟩ := h
  obtain ⟨aa, ac, rfl⟩ := h1.val
  obtain ⟨ba, bc, rfl⟩ := (show ∃ (x : Option Addr) (k : Nat), b = .slice x p.2.length k from by obtain ⟨cs, hr, _⟩ := h2; exact hr.val)
  exact ⟨aa, ac, ba, bc, rfl, h1, h2⟩
/-- what right comes to -/
def Rightd (w : World) (s : ByteArray) (e : Ending) (w' : World) : Prop := Below w.heap.size w w' ∧ ((s.size ≤ 1200 ∧ ∃ p k v, parse2 s = .ok p k ∧ checkC p = .ok () ∧ e = .returned (.tuple #[v, .bool true]) ∧ PrRep w.heap.size w' v p) ∨ ∃ (a b : Option Addr) (m n i j : Nat), e = .returned (.tuple #[.agg #[.slice a m i, .slice b n j], .bool false]))
theorem smL_of {s : ByteArray} (hs : s.size ≤ 1000000) {p : List De × List St} {k : Nat} (hw : ∀ ts k0, tokens s = .ok ts k0 → Wds ts ∧ ∀ j, ws ts j ≤ s.size) (h : parse2 s = .ok p k) : GoodPr p ∧ 5 * (printK p).length ≤ 7 * s.size := by
  unfold parse2 at h
  obtain ⟨ts, k0, e1, e2⟩ := bind_ok h
  unfold wholeP at e2
  obtain ⟨q, k1, e3, e4⟩ := bind_ok e2
  split at e4
  · cases e4
    obtain ⟨hw1, hsz⟩ := hw ts k0 e1
    obtain ⟨g1, g2⟩ := prog_inv hw1 e3
    exact ⟨g1, by have := hsz k; omega⟩
  · cases e4

set_option maxRecDepth 100000 in
set_option maxHeartbeats 6400000 in
theorem right_big (s : ByteArray) (w : World) (hb : 1200 < s.size) : Calls Tryd.prog 5 #[.string s] w (Rightd w s) := by
  have hbi : (1200 : Int) < (s.size : Int) := by omega
  go_enter Tryd.func5, Tryd.ntmps5
  go_wp2_with fail
  refine bodyPost_ret (v := .tuple #[.agg #[.slice none 0 0, .slice none 0 0], .bool false]) (by simp [results, Tryd.results5, go_sem]) rfl ⟨below_alloc w _, .inr ⟨none, none, 0, 0, 0, 0, rfl⟩⟩

set_option maxRecDepth 100000 in
set_option maxHeartbeats 6400000 in
theorem right_at (s : ByteArray) (w : World) (hs : s.size ≤ 1200) (hv : Vars w) (h14 : 5 ≤ w.heap.size) (hgood : ∀ p k, parse2 s = .ok p k → p.1.length ≤ 20 ∧ depL p.2 ≤ 8 ∧ p.2.length ≤ 1000000 ∧ SmL p.2) : Calls Tryd.prog 5 #[.string s] w (Rightd w s) := by
  have hbi : (s.size : Int) ≤ 1200 := by omega
  have HB0 := hide (below_alloc w (.cells #[.slice none 0 0, .slice none 0 0] 27))
  have HN0 := hide (blk_new w (.cells #[.slice none 0 0, .slice none 0 0] 27))
  have HPA := hide (parse_at s (w.alloc (.cells #[.slice none 0 0, .slice none 0 0] 27)) (by omega) (hv.below HB0.out) (Nat.le_trans h14 HB0.out.size))
  have HG := hide hgood
  clear hv hgood
  go_enter Tryd.func5, Tryd.ntmps5
  go_wp2_with fail
  generalize (w.alloc (.cells #[.slice none 0 0, .slice none 0 0] 27)) = w0 at *
  refine HPA.out.mono ?_
  rintro e w1 ⟨hb1, h1⟩
  have HB1 := hide (Below.step HB0.out hb1)
  have HN1 := hide (Below.blk hb1 HN0.out)
  have HLT := hide (blk_lt HN0.out)
  clear hb1
  cases hp : parse2 s with
  | out => rw [hp] at h1; exact h1.elim
  | bad er q =>
    rw [hp] at h1
    obtain ⟨A, rfl, hA⟩ := h1
    clear hA hp
    have HB2 := hide (below_alloc w1 (.cells #[.slice none 0 0, .slice none 0 0] 27))
    have HN2 := hide (blk_new w1 (.cells #[.slice none 0 0, .slice none 0 0] 27))
    have HM2 := hide (Below.blk HB2.out HN1.out)
    have HNE := hide (show w.heap.size ≠ w1.heap.size by have := blk_lt HN1.out; omega)
    have hqe : ∀ (v : Value) (w : World), (binOp .eql 35 (.iface 78 v) .nilIface).run Tryd.prog w = .ok (.bool false) w := fun _ _ => rfl
    go_wp2_with fail
    generalize (w1.alloc (.cells #[.slice none 0 0, .slice none 0 0] 27)) = w2 at *
    have HS : Hid (w2.drew.cell? ⟨w1.heap.size, 0, none⟩ = some (.slice none 0 0) ∧ w2.drew.cell? ⟨w1.heap.size, 1, none⟩ = some (.slice none 0 0)) := hide ⟨by show w2.cell? _ = _; rw [blk_cell HN2.out]; rfl, by show w2.cell? _ = _; rw [blk_cell HN2.out]; rfl⟩
    refine wp_region_held_drew (S := fun W => W.cell? ⟨w1.heap.size, 0, none⟩ = some (.slice none 0 0) ∧ W.cell? ⟨w1.heap.size, 1, none⟩ = some (.slice none 0 0)) (by kernel_rfl) HS.out (fun _ => ?_)
    refine wpAnyH_take (i := 0) (oi := ⟨some 15, _, _, _, _, _⟩) (v := .agg #[.slice none 0 0, .slice none 0 0]) rfl (by kernel_rfl) (by kernel_rfl) (by kernel_rfl) (fun _ _ _ h => h) (Or.inl ⟨by rfl, fun W hS => by obtain ⟨s0, s1⟩ := hS; go_simp⟩) HS.out ?_
    simp only [Act.put, List.setIfInBounds_toArray, List.set_cons_zero, List.set_cons_succ]
    refine wpAnyH_take (i := 1) (oi := ⟨some 16, _, _, _, _, _⟩) (v := .iface 78 (.pointer (some ⟨A, 0, none⟩))) rfl (by kernel_rfl) (by kernel_rfl) (by kernel_rfl) (fun _ _ _ h => h) (Or.inl ⟨by rfl, fun W hS => by obtain ⟨s0, s1⟩ := hS; go_simp⟩) HS.out ?_
    simp only [Act.put, List.setIfInBounds_toArray, List.set_cons_zero, List.set_cons_succ]
    refine wpAnyH_take (i := 2) (oi := ⟨some 17, _, _, _, _, _⟩) (v := .bool false) rfl (by kernel_rfl) (by kernel_rfl) (by kernel_rfl) (fun _ _ _ h => h) (Or.inl ⟨by rfl, fun W hS => by obtain ⟨s0, s1⟩ := hS; go_simp⟩) HS.out ?_
    simp only [Act.put, List.setIfInBounds_toArray, List.set_cons_zero, List.set_cons_succ]
    refine wpAnyH_take (i := 3) (oi := ⟨some 18, _, _, _, _, _⟩) (v := .bool false) rfl (by kernel_rfl) (by kernel_rfl) (by kernel_rfl) (fun _ _ _ h => h) (Or.inl ⟨by rfl, fun W hS => by obtain ⟨s0, s1⟩ := hS; go_simp⟩) HS.out ?_
    simp only [Act.put, List.setIfInBounds_toArray, List.set_cons_zero, List.set_cons_succ]
    refine wpAnyH_take (i := 4) (oi := ⟨some 19, _, _, _, _, _⟩) (v := undef) rfl (by kernel_rfl) (by kernel_rfl) (by kernel_rfl) (fun _ _ _ h => h) (Or.inr ⟨by rfl, rfl⟩) HS.out ?_
    simp only [Act.put, List.setIfInBounds_toArray, List.set_cons_zero, List.set_cons_succ]
    refine wpAnyH_take (i := 5) (oi := ⟨some 20, _, _, _, _, _⟩) (v := undef) rfl (by kernel_rfl) (by kernel_rfl) (by kernel_rfl) (fun _ _ _ h => h) (Or.inr ⟨by rfl, rfl⟩) HS.out ?_
    simp only [Act.put, List.setIfInBounds_toArray, List.set_cons_zero, List.set_cons_succ]
    refine wpAnyH_take (i := 6) (oi := ⟨some 21, _, _, _, _, _⟩) (v := undef) rfl (by kernel_rfl) (by kernel_rfl) (by kernel_rfl) (fun _ _ _ h => h) (Or.inr ⟨by rfl, rfl⟩) HS.out ?_
    simp only [Act.put, List.setIfInBounds_toArray, List.set_cons_zero, List.set_cons_succ]
    refine wpAnyH_take (i := 7) (oi := ⟨some 22, _, _, _, _, _⟩) (v := .bool false) rfl (by kernel_rfl) (by kernel_rfl) (by kernel_rfl) (fun _ _ _ h => h) (Or.inl ⟨by rfl, fun W hS => by obtain ⟨s0, s1⟩ := hS; go_simp⟩) HS.out ?_
    simp only [Act.put, List.setIfInBounds_toArray, List.set_cons_zero, List.set_cons_succ]
    have m0 : w2.cell? ⟨w.heap.size, 0, none⟩ = some (.slice none 0 0) := by rw [blk_cell HM2.out]; rfl
    have m1 : w2.cell? ⟨w.heap.size, 1, none⟩ = some (.slice none 0 0) := by rw [blk_cell HM2.out]; rfl
    have mf : ∀ i, w2.frozen? ⟨w.heap.size, i, none⟩ = false := blk_frozen HM2.out
    refine wpAnyH_ready (rs := [8]) (by kernel_rfl) (by simp) ?_
    refine AllReadyH.cons rfl (fun K hK => ?_) AllReadyH.nil
    go_simp
    have HS5 : Hid (((w2.setCell ⟨w.heap.size, 0, none⟩ (.slice none 0 0)).setCell ⟨w.heap.size, 1, none⟩ (.slice none 0 0)).drew.cell? ⟨w1.heap.size, 0, none⟩ = some (.slice none 0 0) ∧ ((w2.setCell ⟨w.heap.size, 0, none⟩ (.slice none 0 0)).setCell ⟨w.heap.size, 1, none⟩ (.slice none 0 0)).drew.cell? ⟨w1.heap.size, 1, none⟩ = some (.slice none 0 0)) := hide (by
      have hk : ((w2.setCell ⟨w.heap.size, 0, none⟩ (.slice none 0 0)).setCell ⟨w.heap.size, 1, none⟩ (.slice none 0 0)).drew.heap[w1.heap.size]? = w2.heap[w1.heap.size]? := by
        show ((w2.setCell ⟨w.heap.size, 0, none⟩ (.slice none 0 0)).setCell ⟨w.heap.size, 1, none⟩ (.slice none 0 0)).heap[w1.heap.size]? = _
        rw [set_other _ 1 _ (Ne.symm HNE.out), set_other _ 0 _ (Ne.symm HNE.out)]
      exact ⟨(World.cell?_of_block (w := w2) hk).trans HS.out.1, (World.cell?_of_block (w := w2) hk).trans HS.out.2⟩)
    refine hK.out _ _ HS5.out (fun _ => ?_)
    clear hK K
    refine wpAnyH_take (i := 9) (oi := ⟨some 3, _, _, _, _, _⟩) (v := .bool false) rfl (by kernel_rfl) (by kernel_rfl) (by kernel_rfl) (fun _ _ _ h => h) (Or.inl ⟨by rfl, fun W hS => by obtain ⟨s0, s1⟩ := hS; go_simp⟩) HS5.out ?_
    simp only [Act.put, List.setIfInBounds_toArray, List.set_cons_zero, List.set_cons_succ]
    refine wpAnyH_done (by kernel_rfl) ?_ _
    have HN5 : Hid (((w2.setCell ⟨w.heap.size, 0, none⟩ (.slice none 0 0)).setCell ⟨w.heap.size, 1, none⟩ (.slice none 0 0)).drew.heap[w.heap.size]? = some (.cells #[.slice none 0 0, .slice none 0 0] 27 (0, 0))) := hide (by
      show ((w2.setCell ⟨w.heap.size, 0, none⟩ (.slice none 0 0)).setCell ⟨w.heap.size, 1, none⟩ (.slice none 0 0)).heap[w.heap.size]? = _
      rw [blk_set (blk_set HM2.out 0 (.slice none 0 0)) 1 (.slice none 0 0)]
      rfl)
    have HB5 : Hid (Below w.heap.size w ((w2.setCell ⟨w.heap.size, 0, none⟩ (.slice none 0 0)).setCell ⟨w.heap.size, 1, none⟩ (.slice none 0 0)).drew) := hide ((((Below.step HB1.out HB2.out).setCell (Nat.le_refl _) _).setCell (Nat.le_refl _) _).drew)
    have HK5 : Hid (∀ b, w.heap.size < b → ((w2.setCell ⟨w.heap.size, 0, none⟩ (.slice none 0 0)).setCell ⟨w.heap.size, 1, none⟩ (.slice none 0 0)).drew.heap[b]? = w2.heap[b]?) := hide (fun b hb => by
      show ((w2.setCell ⟨w.heap.size, 0, none⟩ (.slice none 0 0)).setCell ⟨w.heap.size, 1, none⟩ (.slice none 0 0)).heap[b]? = _
      rw [set_other _ 1 _ (by omega), set_other _ 0 _ (by omega)])
    generalize ((w2.setCell ⟨w.heap.size, 0, none⟩ (.slice none 0 0)).setCell ⟨w.heap.size, 1, none⟩ (.slice none 0 0)).drew = w5 at *
    have y0 : w5.cell? ⟨w.heap.size, 0, none⟩ = some (.slice none 0 0) := by rw [blk_cell HN5.out]; rfl
    have y1 : w5.cell? ⟨w.heap.size, 1, none⟩ = some (.slice none 0 0) := by rw [blk_cell HN5.out]; rfl
    clear m0 m1 mf
    go_wp2_with fail
    refine bodyPost_ret (v := .tuple #[.agg #[.slice none 0 0, .slice none 0 0], .bool false]) (by simp [results, Tryd.results5, go_sem, y0, y1]) rfl ⟨HB5.out, ?_⟩
    exact .inr ⟨none, none, 0, 0, 0, 0, rfl⟩
  | ok p k =>
    rw [hp] at h1
    obtain ⟨v, rfl, h1⟩ := h1
    obtain ⟨aa, ac, ba, bc, rfl, hd, hs1⟩ := prRep_two h1
    obtain ⟨g1, g2, g3, g4⟩ := HG.out p k hp
    have HP := hide hp
    have HB2 := hide (below_alloc w1 (.cells #[.slice aa p.1.length ac, .slice ba p.2.length bc] 27))
    have HN2 := hide (blk_new w1 (.cells #[.slice aa p.1.length ac, .slice ba p.2.length bc] 27))
    have HM2a := hide (Below.blk HB2.out HN1.out)
    have HNE := hide (show w.heap.size ≠ w1.heap.size by have := blk_lt HN1.out; omega)
    have HD := hide hd
    have HSS := hide hs1
    have HLT2 := hide HLT.out
    have HCH := hide (fun (W : World) (hb : Below w1.heap.size w1 W) => check_at p (by omega) g2 g3 g4 (From w0.heap.size) W (.slice aa p.1.length ac) (.slice ba p.2.length bc) (IsRow.same HD.out fun c _ h => hb.block c h) (HSS.out.same fun c _ h => hb.block c h))
    clear hp h1 hd hs1 g1 g2 g3 g4
    go_wp2_with fail
    generalize (w1.alloc (.cells #[.slice aa p.1.length ac, .slice ba p.2.length bc] 27)) = w2 at *
    have HBD := hide (show Below w2.heap.size w2 w2.drew from (Below.refl _ _).drew)
    have HS : Hid (w2.cell? ⟨w1.heap.size, 0, none⟩ = some (.slice aa p.1.length ac) ∧ w2.cell? ⟨w1.heap.size, 1, none⟩ = some (.slice ba p.2.length bc)) := hide ⟨by rw [blk_cell HN2.out]; rfl, by rw [blk_cell HN2.out]; rfl⟩
    refine wp_region_held_drew (S := fun W => W.cell? ⟨w1.heap.size, 0, none⟩ = some (.slice aa p.1.length ac) ∧ W.cell? ⟨w1.heap.size, 1, none⟩ = some (.slice ba p.2.length bc)) (by kernel_rfl) HS.out (fun _ => ?_)
    refine wpAnyH_take (i := 0) (oi := ⟨some 15, _, _, _, _, _⟩) (v := .agg #[.slice aa p.1.length ac, .slice ba p.2.length bc]) rfl (by kernel_rfl) (by kernel_rfl) (by kernel_rfl) (fun _ _ _ h => h) (Or.inl ⟨by rfl, fun W hS => by obtain ⟨s0, s1⟩ := hS; go_simp⟩) HS.out ?_
    simp only [Act.put, List.setIfInBounds_toArray, List.set_cons_zero, List.set_cons_succ]
    refine wpAnyH_take (i := 1) (oi := ⟨some 16, _, _, _, _, _⟩) (v := .nilIface) rfl (by kernel_rfl) (by kernel_rfl) (by kernel_rfl) (fun _ _ _ h => h) (Or.inl ⟨by rfl, fun W hS => by obtain ⟨s0, s1⟩ := hS; go_simp⟩) HS.out ?_
    simp only [Act.put, List.setIfInBounds_toArray, List.set_cons_zero, List.set_cons_succ]
    refine wpAnyH_take (i := 2) (oi := ⟨some 17, _, _, _, _, _⟩) (v := .bool true) rfl (by kernel_rfl) (by kernel_rfl) (by kernel_rfl) (fun _ _ _ h => h) (Or.inl ⟨by rfl, fun W hS => by obtain ⟨s0, s1⟩ := hS; go_simp⟩) HS.out ?_
    simp only [Act.put, List.setIfInBounds_toArray, List.set_cons_zero, List.set_cons_succ]
    refine wpAnyH_take (i := 3) (oi := ⟨some 18, _, _, _, _, _⟩) (v := .bool true) rfl (by kernel_rfl) (by kernel_rfl) (by kernel_rfl) (fun _ _ _ h => h) (Or.inl ⟨by rfl, fun W hS => by obtain ⟨s0, s1⟩ := hS; go_simp⟩) HS.out ?_
    simp only [Act.put, List.setIfInBounds_toArray, List.set_cons_zero, List.set_cons_succ]
    refine wpAnyH_take (i := 4) (oi := ⟨some 19, _, _, _, _, _⟩) (v := .agg #[.slice aa p.1.length ac, .slice ba p.2.length bc]) rfl (by kernel_rfl) (by kernel_rfl) (by kernel_rfl) (fun _ _ _ h => h) (Or.inl ⟨by rfl, fun W hS => by obtain ⟨s0, s1⟩ := hS; go_simp⟩) HS.out ?_
    simp only [Act.put, List.setIfInBounds_toArray, List.set_cons_zero, List.set_cons_succ]
    refine wpAnyH_ready (rs := [5]) (by kernel_rfl) (by simp) ?_
    refine AllReadyH.cons rfl (fun K hK => ?_) AllReadyH.nil
    go_simp
    refine (HCH.out _ (Below.step HB2.out HBD.out)).mono ?_
    rintro e w3 ⟨hb3, h3⟩
    have HB3 := hide (Below.step HB2.out (Below.step HBD.out hb3))
    have HS3 : Hid (w3.cell? ⟨w1.heap.size, 0, none⟩ = some (.slice aa p.1.length ac) ∧ w3.cell? ⟨w1.heap.size, 1, none⟩ = some (.slice ba p.2.length bc)) := hide ⟨((Below.step HBD.out hb3).cell (cell_lt HS.out.1)).trans HS.out.1, ((Below.step HBD.out hb3).cell (cell_lt HS.out.2)).trans HS.out.2⟩
    have HM2 := hide (Below.blk hb3 (Below.blk HBD.out HM2a.out))
    have m0 : w3.cell? ⟨w.heap.size, 0, none⟩ = some (.slice none 0 0) := by rw [blk_cell HM2.out]; rfl
    have m1 : w3.cell? ⟨w.heap.size, 1, none⟩ = some (.slice none 0 0) := by rw [blk_cell HM2.out]; rfl
    have mf : ∀ i, w3.frozen? ⟨w.heap.size, i, none⟩ = false := blk_frozen HM2.out
    clear hb3
    have hqe : ∀ (v : Value) (w : World), (binOp .eql 35 (.iface 78 v) .nilIface).run Tryd.prog w = .ok (.bool false) w := fun _ _ => rfl
    cases hck : checkC p with
    | bad er q =>
      rw [hck] at h3
      obtain ⟨A, rfl, hA⟩ := h3
      clear hA hck
      refine hK.out _ _ HS3.out (fun _ => ?_)
      clear hK K
      refine wpAnyH_take (i := 6) (oi := ⟨some 21, _, _, _, _, _⟩) (v := .bool false) rfl (by kernel_rfl) (by kernel_rfl) (by kernel_rfl) (fun _ _ _ h => h) (Or.inl ⟨by rfl, fun W hS => by obtain ⟨s0, s1⟩ := hS; go_simp⟩) HS3.out ?_
      simp only [Act.put, List.setIfInBounds_toArray, List.set_cons_zero, List.set_cons_succ]
      refine wpAnyH_take (i := 7) (oi := ⟨some 22, _, _, _, _, _⟩) (v := .bool false) rfl (by kernel_rfl) (by kernel_rfl) (by kernel_rfl) (fun _ _ _ h => h) (Or.inl ⟨by rfl, fun W hS => by obtain ⟨s0, s1⟩ := hS; go_simp⟩) HS3.out ?_
      simp only [Act.put, List.setIfInBounds_toArray, List.set_cons_zero, List.set_cons_succ]
      refine wpAnyH_ready (rs := [8]) (by kernel_rfl) (by simp) ?_
      refine AllReadyH.cons rfl (fun K hK => ?_) AllReadyH.nil
      go_simp
      have HS5 : Hid (((w3.setCell ⟨w.heap.size, 0, none⟩ (.slice aa p.1.length ac)).setCell ⟨w.heap.size, 1, none⟩ (.slice ba p.2.length bc)).cell? ⟨w1.heap.size, 0, none⟩ = some (.slice aa p.1.length ac) ∧ ((w3.setCell ⟨w.heap.size, 0, none⟩ (.slice aa p.1.length ac)).setCell ⟨w.heap.size, 1, none⟩ (.slice ba p.2.length bc)).cell? ⟨w1.heap.size, 1, none⟩ = some (.slice ba p.2.length bc)) := hide (by
        have hk : ((w3.setCell ⟨w.heap.size, 0, none⟩ (.slice aa p.1.length ac)).setCell ⟨w.heap.size, 1, none⟩ (.slice ba p.2.length bc)).heap[w1.heap.size]? = w3.heap[w1.heap.size]? := by
          show ((w3.setCell ⟨w.heap.size, 0, none⟩ (.slice aa p.1.length ac)).setCell ⟨w.heap.size, 1, none⟩ (.slice ba p.2.length bc)).heap[w1.heap.size]? = _
          rw [set_other _ 1 _ (Ne.symm HNE.out), set_other _ 0 _ (Ne.symm HNE.out)]
        exact ⟨(World.cell?_of_block (w := w3) hk).trans HS3.out.1, (World.cell?_of_block (w := w3) hk).trans HS3.out.2⟩)
      refine hK.out _ _ HS5.out (fun _ => ?_)
      clear hK K
      refine wpAnyH_take (i := 9) (oi := ⟨some 3, _, _, _, _, _⟩) (v := .bool false) rfl (by kernel_rfl) (by kernel_rfl) (by kernel_rfl) (fun _ _ _ h => h) (Or.inl ⟨by rfl, fun W hS => by obtain ⟨s0, s1⟩ := hS; go_simp⟩) HS5.out ?_
      simp only [Act.put, List.setIfInBounds_toArray, List.set_cons_zero, List.set_cons_succ]
      refine wpAnyH_done (by kernel_rfl) ?_ _
      have HN5 : Hid (((w3.setCell ⟨w.heap.size, 0, none⟩ (.slice aa p.1.length ac)).setCell ⟨w.heap.size, 1, none⟩ (.slice ba p.2.length bc)).heap[w.heap.size]? = some (.cells #[.slice aa p.1.length ac, .slice ba p.2.length bc] 27 (0, 0))) := hide (by
        show ((w3.setCell ⟨w.heap.size, 0, none⟩ (.slice aa p.1.length ac)).setCell ⟨w.heap.size, 1, none⟩ (.slice ba p.2.length bc)).heap[w.heap.size]? = _
        rw [blk_set (blk_set HM2.out 0 (.slice aa p.1.length ac)) 1 (.slice ba p.2.length bc)]
        rfl)
      have HB5 : Hid (Below w.heap.size w ((w3.setCell ⟨w.heap.size, 0, none⟩ (.slice aa p.1.length ac)).setCell ⟨w.heap.size, 1, none⟩ (.slice ba p.2.length bc))) := hide ((((Below.step HB1.out HB3.out).setCell (Nat.le_refl _) _).setCell (Nat.le_refl _) _))
      have HK5 : Hid (∀ b, w.heap.size < b → ((w3.setCell ⟨w.heap.size, 0, none⟩ (.slice aa p.1.length ac)).setCell ⟨w.heap.size, 1, none⟩ (.slice ba p.2.length bc)).heap[b]? = w3.heap[b]?) := hide (fun b hb => by
        show ((w3.setCell ⟨w.heap.size, 0, none⟩ (.slice aa p.1.length ac)).setCell ⟨w.heap.size, 1, none⟩ (.slice ba p.2.length bc)).heap[b]? = _
        rw [set_other _ 1 _ (by omega), set_other _ 0 _ (by omega)])
      generalize ((w3.setCell ⟨w.heap.size, 0, none⟩ (.slice aa p.1.length ac)).setCell ⟨w.heap.size, 1, none⟩ (.slice ba p.2.length bc)) = w5 at *
      have y0 : w5.cell? ⟨w.heap.size, 0, none⟩ = some (.slice aa p.1.length ac) := by rw [blk_cell HN5.out]; rfl
      have y1 : w5.cell? ⟨w.heap.size, 1, none⟩ = some (.slice ba p.2.length bc) := by rw [blk_cell HN5.out]; rfl
      clear m0 m1 mf
      go_wp2_with fail
      refine bodyPost_ret (v := .tuple #[.agg #[.slice aa p.1.length ac, .slice ba p.2.length bc], .bool false]) (by simp [results, Tryd.results5, go_sem, y0, y1]) rfl ⟨HB5.out, ?_⟩
      exact .inr ⟨aa, ba, _, _, _, _, rfl⟩
    | ok u =>
      rw [hck] at h3
      have h3 : e = .returned .nilIface := h3
      subst h3
      have HCK := hide hck
      clear hck
      refine hK.out _ _ HS3.out (fun _ => ?_)
      clear hK K
      refine wpAnyH_take (i := 6) (oi := ⟨some 21, _, _, _, _, _⟩) (v := .bool true) rfl (by kernel_rfl) (by kernel_rfl) (by kernel_rfl) (fun _ _ _ h => h) (Or.inl ⟨by rfl, fun W hS => by obtain ⟨s0, s1⟩ := hS; go_simp⟩) HS3.out ?_
      simp only [Act.put, List.setIfInBounds_toArray, List.set_cons_zero, List.set_cons_succ]
      refine wpAnyH_take (i := 7) (oi := ⟨some 22, _, _, _, _, _⟩) (v := .bool true) rfl (by kernel_rfl) (by kernel_rfl) (by kernel_rfl) (fun _ _ _ h => h) (Or.inl ⟨by rfl, fun W hS => by obtain ⟨s0, s1⟩ := hS; go_simp⟩) HS3.out ?_
      simp only [Act.put, List.setIfInBounds_toArray, List.set_cons_zero, List.set_cons_succ]
      refine wpAnyH_ready (rs := [8]) (by kernel_rfl) (by simp) ?_
      refine AllReadyH.cons rfl (fun K hK => ?_) AllReadyH.nil
      go_simp
      have HS5 : Hid (((w3.setCell ⟨w.heap.size, 0, none⟩ (.slice aa p.1.length ac)).setCell ⟨w.heap.size, 1, none⟩ (.slice ba p.2.length bc)).cell? ⟨w1.heap.size, 0, none⟩ = some (.slice aa p.1.length ac) ∧ ((w3.setCell ⟨w.heap.size, 0, none⟩ (.slice aa p.1.length ac)).setCell ⟨w.heap.size, 1, none⟩ (.slice ba p.2.length bc)).cell? ⟨w1.heap.size, 1, none⟩ = some (.slice ba p.2.length bc)) := hide (by
        have hk : ((w3.setCell ⟨w.heap.size, 0, none⟩ (.slice aa p.1.length ac)).setCell ⟨w.heap.size, 1, none⟩ (.slice ba p.2.length bc)).heap[w1.heap.size]? = w3.heap[w1.heap.size]? := by
          show ((w3.setCell ⟨w.heap.size, 0, none⟩ (.slice aa p.1.length ac)).setCell ⟨w.heap.size, 1, none⟩ (.slice ba p.2.length bc)).heap[w1.heap.size]? = _
          rw [set_other _ 1 _ (Ne.symm HNE.out), set_other _ 0 _ (Ne.symm HNE.out)]
        exact ⟨(World.cell?_of_block (w := w3) hk).trans HS3.out.1, (World.cell?_of_block (w := w3) hk).trans HS3.out.2⟩)
      refine hK.out _ _ HS5.out (fun _ => ?_)
      clear hK K
      refine wpAnyH_take (i := 9) (oi := ⟨some 3, _, _, _, _, _⟩) (v := .bool true) rfl (by kernel_rfl) (by kernel_rfl) (by kernel_rfl) (fun _ _ _ h => h) (Or.inl ⟨by rfl, fun W hS => by obtain ⟨s0, s1⟩ := hS; go_simp⟩) HS5.out ?_
      simp only [Act.put, List.setIfInBounds_toArray, List.set_cons_zero, List.set_cons_succ]
      refine wpAnyH_done (by kernel_rfl) ?_ _
      have HN5 : Hid (((w3.setCell ⟨w.heap.size, 0, none⟩ (.slice aa p.1.length ac)).setCell ⟨w.heap.size, 1, none⟩ (.slice ba p.2.length bc)).heap[w.heap.size]? = some (.cells #[.slice aa p.1.length ac, .slice ba p.2.length bc] 27 (0, 0))) := hide (by
        show ((w3.setCell ⟨w.heap.size, 0, none⟩ (.slice aa p.1.length ac)).setCell ⟨w.heap.size, 1, none⟩ (.slice ba p.2.length bc)).heap[w.heap.size]? = _
        rw [blk_set (blk_set HM2.out 0 (.slice aa p.1.length ac)) 1 (.slice ba p.2.length bc)]
        rfl)
      have HB5 : Hid (Below w.heap.size w ((w3.setCell ⟨w.heap.size, 0, none⟩ (.slice aa p.1.length ac)).setCell ⟨w.heap.size, 1, none⟩ (.slice ba p.2.length bc))) := hide ((((Below.step HB1.out HB3.out).setCell (Nat.le_refl _) _).setCell (Nat.le_refl _) _))
      have HK5 : Hid (∀ b, w.heap.size < b → ((w3.setCell ⟨w.heap.size, 0, none⟩ (.slice aa p.1.length ac)).setCell ⟨w.heap.size, 1, none⟩ (.slice ba p.2.length bc)).heap[b]? = w3.heap[b]?) := hide (fun b hb => by
        show ((w3.setCell ⟨w.heap.size, 0, none⟩ (.slice aa p.1.length ac)).setCell ⟨w.heap.size, 1, none⟩ (.slice ba p.2.length bc)).heap[b]? = _
        rw [set_other _ 1 _ (by omega), set_other _ 0 _ (by omega)])
      generalize ((w3.setCell ⟨w.heap.size, 0, none⟩ (.slice aa p.1.length ac)).setCell ⟨w.heap.size, 1, none⟩ (.slice ba p.2.length bc)) = w5 at *
      have y0 : w5.cell? ⟨w.heap.size, 0, none⟩ = some (.slice aa p.1.length ac) := by rw [blk_cell HN5.out]; rfl
      have y1 : w5.cell? ⟨w.heap.size, 1, none⟩ = some (.slice ba p.2.length bc) := by rw [blk_cell HN5.out]; rfl
      clear m0 m1 mf
      go_wp2_with fail
      refine bodyPost_ret (v := .tuple #[.agg #[.slice aa p.1.length ac, .slice ba p.2.length bc], .bool true]) (by simp [results, Tryd.results5, go_sem, y0, y1]) rfl ⟨HB5.out, ?_⟩
      refine .inl ⟨hs, p, k, _, HP.out, HCK.out, rfl, _, _, rfl, ?_, ?_⟩
      · exact IsRow.imp (IsRow.same HD.out fun c h1 h2 => (HK5.out c (by have : w0.heap.size ≤ c := h1; have := HLT2.out; omega)).trans (HB3.out.block c h2)) fun b _ h => Nat.le_trans HB0.out.size h
      · exact (HSS.out.same fun c h1 h2 => (HK5.out c (by have : w0.heap.size ≤ c := h1; have := HLT2.out; omega)).trans (HB3.out.block c h2)).imp fun b _ h => Nat.le_trans HB0.out.size h
end Go.Proofs.YtiimnnancblbkaaDoor
