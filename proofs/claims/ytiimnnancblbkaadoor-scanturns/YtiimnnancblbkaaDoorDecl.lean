/-
  CONTRACT of decl: a declaration.
-/
import Derived.Deep.RegionHeld3
import Derived.Test.YtiimnnancblbkaaDoorJStm
import Derived.Test.YtiimnnancblbkaaDoorJByte
namespace Go.Proofs.YtiimnnancblbkaaDoor
open Go.RowKit

theorem set4_cell {w : World} {S U : Nat} {x a b c d : Value} (h : w.cell? ⟨U, 1, none⟩ = some x) (hU : ¬ U = S) : ((((w.setCell ⟨S, 0, none⟩ a).setCell ⟨S, 1, none⟩ b).setCell ⟨S, 2, none⟩ c).setCell ⟨S, 3, none⟩ d).cell? ⟨U, 1, none⟩ = some x := by
  refine (World.cell?_of_block (w := w) ?_).trans h
  simp only [set_other _ _ _ hU]
def put4 (w : World) (S : Nat) (c0 c1 c2 c3 : Value) : World := (((w.setCell ⟨S, 0, none⟩ c0).setCell ⟨S, 1, none⟩ c1).setCell ⟨S, 2, none⟩ c2).setCell ⟨S, 3, none⟩ c3
theorem Rd.put4 {w : World} {R T cap k : Nat} {ts : List Tok} (h : Rd w R T cap ts k) {S : Nat} (c0 c1 c2 c3 : Value) (hR : S ≠ R) (hT : S ≠ T) (hg : 5 ≤ S) : Rd (put4 w S c0 c1 c2 c3) R T cap ts k :=
  (((h.other 0 _ hR hT hg).other 1 _ hR hT hg).other 2 _ hR hT hg).other 3 _ hR hT hg
theorem Kept.put4 {R : Nat} {w w1 : World} (h : Kept R w w1) {S : Nat} (c0 c1 c2 c3 : Value) (hS : w.heap.size ≤ S) : Kept R w (put4 w1 S c0 c1 c2 c3) :=
  (((h.new 0 _ hS).new 1 _ hS).new 2 _ hS).new 3 _ hS

/-- the four cells of a declaration -/
abbrev deCells (d : De) : List Value := [.string d.name, .int .i64 d.way, .int .i64 d.ty, .int .i64 d.init]
abbrev DeRep : World → Value → De → Prop := fun _ v d => v = .agg (deCells d).toArray

set_option maxRecDepth 100000 in
set_option maxHeartbeats 6400000 in
theorem decl_at {w : World} {R T cap : Nat} {ts : List Tok} {k : Nat} (h : Rd w R T cap ts k) (hmore : k + 1 < ts.length) :
    Calls Tryd.prog 53 #[.pointer (some ⟨R, 0, none⟩)] w (Rds w R T cap ts DeRep (declP ts k)) := by
  have HR := hide h
  have HSR := hide (show w.heap.size ≠ R by have := h.Rlt; omega)
  have HST := hide (show w.heap.size ≠ T by have := h.Tlt; omega)
  have HSB := hide (show 5 ≤ w.heap.size by have := h.Rlt; have := h.big; omega)
  have HWS := hide (Nat.le_refl w.heap.size)
  have HMO := hide hmore
  clear h hmore
  go_enter Tryd.func53, Tryd.ntmps53
  go_wp2_with fail
  have HN0 := hide (blk_new w (.cells #[.string ⟨#[]⟩, .int .i64 0, .int .i64 0, .int .i64 0] 32))
  have HB0 := hide (below_alloc w (.cells #[.string ⟨#[]⟩, .int .i64 0, .int .i64 0, .int .i64 0] 32))
  have HD0 := hide (HR.out.below HB0.out)
  generalize (w.alloc (.cells #[.string ⟨#[]⟩, .int .i64 0, .int .i64 0, .int .i64 0] 32)) = w0 at *
  refine (take_at HD0.out HMO.out).mono ?_
  rintro e w1 ⟨rfl, hd1, hk1⟩
  have HD1 := hide hd1
  have HK1 := hide ((Kept.of HB0.out).trans hk1)
  have HS1 := hide (hk1.blk HN0.out HSR.out)
  clear hd1 hk1
  go_wp2_with fail
  have HB2 := hide (below_alloc w1 (.cells #[.int .i64 (tk ts k).kind, .string (tk ts k).text, .int .i64 (tk ts k).pos] 85))
  have HD2 := hide (HD1.out.below HB2.out)
  have HK2 := hide (HK1.out.below HB2.out)
  have HS2 := hide (Below.blk HB2.out HS1.out)
  have HVV := hide HD2.out.vars
  have htx : (w1.alloc (.cells #[.int .i64 (tk ts k).kind, .string (tk ts k).text, .int .i64 (tk ts k).pos] 85)).cell? ⟨w1.heap.size, 1, none⟩ = some (.string (tk ts k).text) := by rw [blk_cell (blk_new w1 _)]; rfl
  generalize (w1.alloc (.cells #[.int .i64 (tk ts k).kind, .string (tk ts k).text, .int .i64 (tk ts k).pos] 85)) = w2 at *
  generalize w1.heap.size = U at *
  refine Code.wp_mono (Q := fun e a w' => e = .normal ∧ ∃ V M : Nat, a = { tmps := #[.pointer (some ⟨R, 0, none⟩), undef, .pointer (some ⟨w.heap.size, 0, none⟩), .pointer (some ⟨U, 0, none⟩), .pointer (some ⟨V, 0, none⟩), .pointer (some ⟨R, 0, none⟩), .agg #[.int .i64 (tk ts k).kind, .string (tk ts k).text, .int .i64 (tk ts k).pos], .pointer (some ⟨U, 1, none⟩), .string (tk ts k).text, .int .i64 (wayN (tk ts k).text.toList), .map (some M), .pointer (some ⟨U, 1, none⟩), .string (tk ts k).text, .int .i64 (blkN (tk ts k).text.toList), .agg #[.string ⟨#[]⟩, .int .i64 (wayN (tk ts k).text.toList), .int .i64 (blkN (tk ts k).text.toList), .int .i64 0], undef, undef, undef, undef, undef, undef, undef, undef, undef, undef, undef, undef, undef, undef, undef, undef, undef, undef, undef, undef, undef, undef, undef], defers := [] } ∧ w2.heap.size ≤ V ∧ w'.heap[V]? = some (.cells #[.string ⟨#[]⟩, .int .i64 (wayN (tk ts k).text.toList), .int .i64 (blkN (tk ts k).text.toList), .int .i64 0] 32 (0, 0)) ∧ Below w2.heap.size w2 w') ?_ ?_
  rotate_left
  · refine wp_region_held_drew (S := fun w' => w'.cell? ⟨U, 1, none⟩ = some (.string (tk ts k).text)) (by kernel_rfl) htx (fun hS => ?_)
    have hS0 : w2.drew.cell? ⟨U, 1, none⟩ = some (.string (tk ts k).text) := htx
    refine wpAnyH_take (i := 0) (oi := ⟨some 7, _, _, _, _, _⟩) (v := .pointer (some ⟨U, 1, none⟩)) rfl (by kernel_rfl) (by kernel_rfl) (by kernel_rfl) (fun _ _ _ h => nomatch h.1) (Or.inl ⟨by rfl, fun w hS => by go_simp⟩) (by assumption) ?_
    simp only [Act.put, List.setIfInBounds_toArray, List.set_cons_zero, List.set_cons_succ]
    refine wpAnyH_take (i := 1) (oi := ⟨some 8, _, _, _, _, _⟩) (v := .string (tk ts k).text) rfl (by kernel_rfl) (by kernel_rfl) (by kernel_rfl) (fun _ _ _ h => nomatch h.1) (Or.inl ⟨by rfl, fun w hS => by go_simp⟩) (by assumption) ?_
    simp only [Act.put, List.setIfInBounds_toArray, List.set_cons_zero, List.set_cons_succ]
    refine wpAnyH_take (i := 4) (oi := ⟨some 11, _, _, _, _, _⟩) (v := .pointer (some ⟨U, 1, none⟩)) rfl (by kernel_rfl) (by kernel_rfl) (by kernel_rfl) (fun _ _ _ h => nomatch h.1) (Or.inl ⟨by rfl, fun w hS => by go_simp⟩) (by assumption) ?_
    simp only [Act.put, List.setIfInBounds_toArray, List.set_cons_zero, List.set_cons_succ]
    refine wpAnyH_take (i := 5) (oi := ⟨some 12, _, _, _, _, _⟩) (v := .string (tk ts k).text) rfl (by kernel_rfl) (by kernel_rfl) (by kernel_rfl) (fun _ _ _ h => nomatch h.1) (Or.inl ⟨by rfl, fun w hS => by go_simp⟩) (by assumption) ?_
    simp only [Act.put, List.setIfInBounds_toArray, List.set_cons_zero, List.set_cons_succ]
    refine wpAnyH_ready (rs := [2, 8]) (by kernel_rfl) (by simp) ?_
    refine AllReadyH.cons rfl (fun K hK => ?_) (AllReadyH.cons rfl (fun K hK => ?_) AllReadyH.nil)
    · go_simp
      refine (wayOf_at (tk ts k).text _ (HVV.out.below (below_drew w2))).mono ?_
      rintro e w4 ⟨rfl, rfl⟩
      refine hK.out _ _ hS (fun hS => ?_)
      clear hK K
      refine wpAnyH_ready (rs := [3, 8]) (by kernel_rfl) (by simp) ?_
      refine AllReadyH.cons rfl (fun K hK => ?_) (AllReadyH.cons rfl (fun K hK => ?_) AllReadyH.nil)
      · go_simp
        refine (blocks_at _ (HVV.out.below (below_drew w2))).mono ?_
        rintro e w5 ⟨M, es, c, rfl, hM, hIB, hb5⟩
        have hS5 : w5.cell? ⟨U, 1, none⟩ = some (.string (tk ts k).text) := (hb5.cell (cell_lt hS)).trans hS
        have HM := hide hM
        have HIB := hide hIB
        have HB5 := hide hb5
        have hf1 := found M w5 (tk ts k).text es c hM hIB
        have hf2 := fun o => found M (w5.alloc o) (tk ts k).text es c (Below.blk (below_alloc w5 o) hM) hIB
        clear hM hIB hb5
        refine hK.out _ _ hS5 (fun hS => ?_)
        clear hK K
        refine wpAnyH_ready (rs := [6, 8]) (by kernel_rfl) (by simp) ?_
        refine AllReadyH.cons rfl (fun K hK => ?_) (AllReadyH.cons rfl (fun K hK => ?_) AllReadyH.nil)
        · go_simp
          refine hK.out _ _ hS5 (fun hS => ?_)
          clear hK K
          refine wpAnyH_take (i := 7) (oi := ⟨some 14, _, _, _, _, _⟩) (v := .agg #[.string ⟨#[]⟩, .int .i64 (wayN (tk ts k).text.toList), .int .i64 (blkN (tk ts k).text.toList), .int .i64 0]) rfl (by kernel_rfl) (by kernel_rfl) (by kernel_rfl) (fun _ _ _ h => nomatch h.1) (Or.inl ⟨by rfl, fun w hS => by go_simp⟩) (by assumption) ?_
          simp only [Act.put, List.setIfInBounds_toArray, List.set_cons_zero, List.set_cons_succ]
          refine wpAnyH_ready (rs := [8]) (by kernel_rfl) (by simp) ?_
          refine AllReadyH.cons rfl (fun K hK => ?_) AllReadyH.nil
          go_simp
          refine hK.out _ _ (cell_alloc hS5 _) (fun hS => ?_)
          clear hK K
          refine wpAnyH_ready (rs := [9]) (by kernel_rfl) (by simp) ?_
          refine AllReadyH.cons rfl (fun K hK => ?_) AllReadyH.nil
          go_simp
          refine hK.out _ _ (cell_alloc hS5 _) (fun hS => ?_)
          clear hK K
          refine wpAnyH_done (by kernel_rfl) ?_ _
          exact ⟨rfl, w5.heap.size, M, rfl, (Below.step (below_drew w2) HB5.out).size, blk_new w5 _, Below.step (Below.step (below_drew w2) HB5.out) (below_alloc w5 _)⟩
        · go_simp
          refine hK.out _ _ (cell_alloc hS5 _) (fun hS => ?_)
          clear hK K
          refine wpAnyH_ready (rs := [6]) (by kernel_rfl) (by simp) ?_
          refine AllReadyH.cons rfl (fun K hK => ?_) AllReadyH.nil
          go_simp
          refine hK.out _ _ (cell_alloc hS5 _) (fun hS => ?_)
          clear hK K
          refine wpAnyH_take (i := 7) (oi := ⟨some 14, _, _, _, _, _⟩) (v := .agg #[.string ⟨#[]⟩, .int .i64 (wayN (tk ts k).text.toList), .int .i64 (blkN (tk ts k).text.toList), .int .i64 0]) rfl (by kernel_rfl) (by kernel_rfl) (by kernel_rfl) (fun _ _ _ h => nomatch h.1) (Or.inl ⟨by rfl, fun w hS => by go_simp⟩) (by assumption) ?_
          simp only [Act.put, List.setIfInBounds_toArray, List.set_cons_zero, List.set_cons_succ]
          refine wpAnyH_ready (rs := [9]) (by kernel_rfl) (by simp) ?_
          refine AllReadyH.cons rfl (fun K hK => ?_) AllReadyH.nil
          go_simp
          refine hK.out _ _ (cell_alloc hS5 _) (fun hS => ?_)
          clear hK K
          refine wpAnyH_done (by kernel_rfl) ?_ _
          exact ⟨rfl, w5.heap.size, M, rfl, (Below.step (below_drew w2) HB5.out).size, blk_new w5 _, Below.step (Below.step (below_drew w2) HB5.out) (below_alloc w5 _)⟩
      · go_simp
        refine hK.out _ _ (cell_alloc hS _) (fun hS => ?_)
        clear hK K
        refine wpAnyH_ready (rs := [3]) (by kernel_rfl) (by simp) ?_
        refine AllReadyH.cons rfl (fun K hK => ?_) AllReadyH.nil
        go_simp
        refine (blocks_at _ ((HVV.out.below (below_drew w2)).below (below_alloc w2.drew _))).mono ?_
        rintro e w5 ⟨M, es, c, rfl, hM, hIB, hb5⟩
        have hS5 : w5.cell? ⟨U, 1, none⟩ = some (.string (tk ts k).text) := (hb5.cell (cell_lt hS)).trans hS
        have HM := hide hM
        have HIB := hide hIB
        have HB5 := hide hb5
        have hf1 := found M w5 (tk ts k).text es c hM hIB
        have hf2 := fun o => found M (w5.alloc o) (tk ts k).text es c (Below.blk (below_alloc w5 o) hM) hIB
        clear hM hIB hb5
        refine hK.out _ _ hS5 (fun hS => ?_)
        clear hK K
        have HV5 : Hid (w5.heap[w2.heap.size]? = some (.cells #[.string ⟨#[]⟩, .int .i64 0, .int .i64 0, .int .i64 0] 32 (0, 0))) := Below.blk HB5.out (blk_new w2.drew (.cells #[.string ⟨#[]⟩, .int .i64 0, .int .i64 0, .int .i64 0] 32))
        have hU : ¬ U = w2.heap.size := fun e => by have := cell_lt htx; simp [e] at this
        have hU2 : ¬ w2.heap.size = U := fun e => hU e.symm
        have x0 : w5.cell? ⟨w2.heap.size, 0, none⟩ = some (.string ⟨#[]⟩) := (blk_cell HV5.out 0).trans rfl
        have x1 : w5.cell? ⟨w2.heap.size, 1, none⟩ = some (.int .i64 0) := (blk_cell HV5.out 1).trans rfl
        have x2 : w5.cell? ⟨w2.heap.size, 2, none⟩ = some (.int .i64 0) := (blk_cell HV5.out 2).trans rfl
        have x3 : w5.cell? ⟨w2.heap.size, 3, none⟩ = some (.int .i64 0) := (blk_cell HV5.out 3).trans rfl
        have xf : ∀ i, w5.frozen? ⟨w2.heap.size, i, none⟩ = false := blk_frozen HV5.out
        refine wpAnyH_ready (rs := [6]) (by kernel_rfl) (by simp) ?_
        refine AllReadyH.cons rfl (fun K hK => ?_) AllReadyH.nil
        go_simp
        refine hK.out _ _ hS5 (fun hS => ?_)
        clear hK K
        refine wpAnyH_take (i := 7) (oi := ⟨some 14, _, _, _, _, _⟩) (v := .agg #[.string ⟨#[]⟩, .int .i64 (wayN (tk ts k).text.toList), .int .i64 (blkN (tk ts k).text.toList), .int .i64 0]) rfl (by kernel_rfl) (by kernel_rfl) (by kernel_rfl) (fun _ _ _ h => nomatch h.1) (Or.inl ⟨by rfl, fun w hS => by go_simp⟩) (by assumption) ?_
        simp only [Act.put, List.setIfInBounds_toArray, List.set_cons_zero, List.set_cons_succ]
        refine wpAnyH_ready (rs := [9]) (by kernel_rfl) (by simp) ?_
        refine AllReadyH.cons rfl (fun K hK => ?_) AllReadyH.nil
        go_simp
        refine hK.out _ _ (set4_cell hS5 hU) (fun hS => ?_)
        clear hK K
        have HB6 := hide (Below.step (Below.step (below_drew w2) (below_alloc w2.drew _)) HB5.out)
        refine wpAnyH_done (by kernel_rfl) ?_ _
        refine ⟨rfl, w2.heap.size, M, rfl, Nat.le_refl _, ?_, ?_⟩
        · rw [blk_set (blk_set (blk_set (blk_set HV5.out 0 _) 1 _) 2 _) 3 _]; rfl
        · exact (((HB6.out.setCell (Nat.le_refl _) _).setCell (Nat.le_refl _) _).setCell (Nat.le_refl _) _).setCell (Nat.le_refl _) _
    · go_simp
      refine hK.out _ _ (cell_alloc hS _) (fun hS => ?_)
      clear hK K
      refine wpAnyH_ready (rs := [2]) (by kernel_rfl) (by simp) ?_
      refine AllReadyH.cons rfl (fun K hK => ?_) AllReadyH.nil
      go_simp
      refine (wayOf_at (tk ts k).text _ ((HVV.out.below (below_drew w2)).below (below_alloc w2.drew _))).mono ?_
      rintro e w4 ⟨rfl, rfl⟩
      refine hK.out _ _ (cell_alloc hS0 _) (fun hS => ?_)
      clear hK K
      refine wpAnyH_ready (rs := [3]) (by kernel_rfl) (by simp) ?_
      refine AllReadyH.cons rfl (fun K hK => ?_) AllReadyH.nil
      go_simp
      refine (blocks_at _ ((HVV.out.below (below_drew w2)).below (below_alloc w2.drew _))).mono ?_
      rintro e w5 ⟨M, es, c, rfl, hM, hIB, hb5⟩
      have hS5 : w5.cell? ⟨U, 1, none⟩ = some (.string (tk ts k).text) := (hb5.cell (cell_lt hS)).trans hS
      have HM := hide hM
      have HIB := hide hIB
      have HB5 := hide hb5
      have hf1 := found M w5 (tk ts k).text es c hM hIB
      have hf2 := fun o => found M (w5.alloc o) (tk ts k).text es c (Below.blk (below_alloc w5 o) hM) hIB
      clear hM hIB hb5
      refine hK.out _ _ hS5 (fun hS => ?_)
      clear hK K
      have HV5 : Hid (w5.heap[w2.heap.size]? = some (.cells #[.string ⟨#[]⟩, .int .i64 0, .int .i64 0, .int .i64 0] 32 (0, 0))) := Below.blk HB5.out (blk_new w2.drew (.cells #[.string ⟨#[]⟩, .int .i64 0, .int .i64 0, .int .i64 0] 32))
      have hU : ¬ U = w2.heap.size := fun e => by have := cell_lt htx; simp [e] at this
      have hU2 : ¬ w2.heap.size = U := fun e => hU e.symm
      have x0 : w5.cell? ⟨w2.heap.size, 0, none⟩ = some (.string ⟨#[]⟩) := (blk_cell HV5.out 0).trans rfl
      have x1 : w5.cell? ⟨w2.heap.size, 1, none⟩ = some (.int .i64 0) := (blk_cell HV5.out 1).trans rfl
      have x2 : w5.cell? ⟨w2.heap.size, 2, none⟩ = some (.int .i64 0) := (blk_cell HV5.out 2).trans rfl
      have x3 : w5.cell? ⟨w2.heap.size, 3, none⟩ = some (.int .i64 0) := (blk_cell HV5.out 3).trans rfl
      have xf : ∀ i, w5.frozen? ⟨w2.heap.size, i, none⟩ = false := blk_frozen HV5.out
      refine wpAnyH_ready (rs := [6]) (by kernel_rfl) (by simp) ?_
      refine AllReadyH.cons rfl (fun K hK => ?_) AllReadyH.nil
      go_simp
      refine hK.out _ _ hS5 (fun hS => ?_)
      clear hK K
      refine wpAnyH_take (i := 7) (oi := ⟨some 14, _, _, _, _, _⟩) (v := .agg #[.string ⟨#[]⟩, .int .i64 (wayN (tk ts k).text.toList), .int .i64 (blkN (tk ts k).text.toList), .int .i64 0]) rfl (by kernel_rfl) (by kernel_rfl) (by kernel_rfl) (fun _ _ _ h => nomatch h.1) (Or.inl ⟨by rfl, fun w hS => by go_simp⟩) (by assumption) ?_
      simp only [Act.put, List.setIfInBounds_toArray, List.set_cons_zero, List.set_cons_succ]
      refine wpAnyH_ready (rs := [9]) (by kernel_rfl) (by simp) ?_
      refine AllReadyH.cons rfl (fun K hK => ?_) AllReadyH.nil
      go_simp
      refine hK.out _ _ (set4_cell hS5 hU) (fun hS => ?_)
      clear hK K
      have HB6 := hide (Below.step (Below.step (below_drew w2) (below_alloc w2.drew _)) HB5.out)
      refine wpAnyH_done (by kernel_rfl) ?_ _
      refine ⟨rfl, w2.heap.size, M, rfl, Nat.le_refl _, ?_, ?_⟩
      · rw [blk_set (blk_set (blk_set (blk_set HV5.out 0 _) 1 _) 2 _) 3 _]; rfl
      · exact (((HB6.out.setCell (Nat.le_refl _) _).setCell (Nat.le_refl _) _).setCell (Nat.le_refl _) _).setCell (Nat.le_refl _) _
  · rintro e a w3 ⟨rfl, V, M, rfl, hV, hVb, hb3⟩
    have HD3 := hide (HD2.out.below hb3)
    have HK3 := hide (HK2.out.below hb3)
    have HS3 := hide (Below.blk hb3 HS2.out)
    have HV3 := hide hVb
    have HVR := hide (show V ≠ R by have := HD2.out.Rlt; omega)
    have HVT := hide (show V ≠ T by have := HD2.out.Tlt; omega)
    have HVB := hide (show 5 ≤ V by have := HD2.out.Rlt; have := HD2.out.big; omega)
    have HSV := hide (show w.heap.size ≠ V by have := blk_lt HS2.out; omega)
    have HWV := hide (show w.heap.size ≤ V from Nat.le_trans HK2.out.size hV)
    clear hb3 hVb hV htx
    generalize hway : wayN (tk ts k).text.toList = way at *
    generalize hblk : blkN (tk ts k).text.toList = blk at *
    have HWAY : Hid (wayN (tx ts k) = way) := hway
    have HBLK : Hid (blkN (tx ts k) = blk) := hblk
    clear hway hblk
    go_wp2_with fail
    refine (name_at HD3.out).mono ?_
    rintro e w4 h4
    rcases h4.cases with ⟨er4, p4, A4, hr4, rfl, hA4, hk4⟩ | ⟨a4, k4, v4, hr4, rfl, hv4, hd4, hk4⟩
    · have Hr4 := hide hr4
      have HA4 := hide hA4
      have HK4 := hide (HK3.out.trans hk4)
      clear h4 hr4 hA4 hk4
      go_wp2_with fail
      exact ⟨rfl, Rds.bad (by simp only [declP, Hr4.out, Res.bind]) HK4.out HA4.out⟩
    · have Hr4 := hide hr4
      have HD4 := hide hd4
      have HK4 := hide (HK3.out.trans hk4)
      subst hv4
      have HV4 := hide (hk4.blk HV3.out HVR.out)
      have HS4 := hide (hk4.blk HS3.out HSR.out)
      clear h4 hr4 hd4 hk4
      have HV5 := hide (blk_set HV4.out 0 (.string a4))
      have HS5 : Hid ((w4.setCell ⟨V, 0, none⟩ (.string a4)).heap[w.heap.size]? = _) := (set_other _ 0 _ HSV.out).trans HS4.out
      have HD5 := hide (HD4.out.other 0 (.string a4) HVR.out HVT.out HVB.out)
      have HK5 := hide (HK4.out.new 0 (.string a4) HWV.out)
      have vv0 : w4.cell? ⟨V, 0, none⟩ = some (.string ⟨#[]⟩) := by rw [blk_cell HV4.out]; rfl
      have vvf : ∀ i, w4.frozen? ⟨V, i, none⟩ = false := blk_frozen HV4.out
      by_cases hb : blk = 0
      · have HB0 : Hid (¬ blkN (tx ts k) ≠ 0) := by show ¬ _ ≠ _; rw [HBLK.out]; simpa using hb
        subst hb
        have vvt : w4.cell? ⟨V, 2, none⟩ = some (.int .i64 0) := by rw [blk_cell HV4.out]; rfl
        go_wp2_with fail
        clear vvt vv0 vvf
        generalize (w4.setCell ⟨V, 0, none⟩ (.string a4)) = w5 at *
        refine (need_at [58] (by decide) HD5.out).mono ?_
        rintro e w6 h6
        rcases h6.cases with ⟨er6, p6, A6, hr6, rfl, hA6, hk6⟩ | ⟨a6, k6, v6, hr6, rfl, hv6, hd6, hk6⟩
        · have Hr6 := hide hr6
          have HA6 := hide hA6
          have HK6 := hide (HK5.out.trans hk6)
          clear h6 hr6 hA6 hk6
          go_wp2_with fail
          exact ⟨rfl, Rds.bad (by simp only [declP, Hr4.out, if_neg HB0.out, Hr6.out, Res.bind]) HK6.out HA6.out⟩
        · have Hr6 := hide hr6
          have HD6 := hide hd6
          have HK6 := hide (HK5.out.trans hk6)
          subst hv6
          have HV6 := hide (hk6.blk HV5.out HVR.out)
          have HS6 := hide (hk6.blk HS5.out HSR.out)
          clear h6 hr6 hd6 hk6
          go_wp2_with fail
          refine (kind_at HD6.out).mono ?_
          rintro e w7 h7
          rcases h7.cases with ⟨er7, p7, A7, hr7, rfl, hA7, hk7⟩ | ⟨a7, k7, v7, hr7, rfl, hv7, hd7, hk7⟩
          · have Hr7 := hide hr7
            have HA7 := hide hA7
            have HK7 := hide (HK6.out.trans hk7)
            clear h7 hr7 hA7 hk7
            go_wp2_with fail
            exact ⟨rfl, Rds.bad (by simp only [declP, Hr4.out, if_neg HB0.out, Hr6.out, Hr7.out, Res.bind]) HK7.out HA7.out⟩
          · have Hr7 := hide hr7
            have HD7 := hide hd7
            have HK7 := hide (HK6.out.trans hk7)
            subst hv7
            have HV7 := hide (hk7.blk HV6.out HVR.out)
            have HS7 := hide (hk7.blk HS6.out HSR.out)
            clear h7 hr7 hd7 hk7
            have HV8 := hide (blk_set HV7.out 2 (.int .i64 a7))
            have HS8 : Hid ((w7.setCell ⟨V, 2, none⟩ (.int .i64 a7)).heap[w.heap.size]? = _) := (set_other _ 2 _ HSV.out).trans HS7.out
            have HD8 := hide (HD7.out.other 2 (.int .i64 a7) HVR.out HVT.out HVB.out)
            have HK8 := hide (HK7.out.new 2 (.int .i64 a7) HWV.out)
            have vv2 : w7.cell? ⟨V, 2, none⟩ = some (.int .i64 0) := by rw [blk_cell HV7.out]; rfl
            have vvf : ∀ i, w7.frozen? ⟨V, i, none⟩ = false := blk_frozen HV7.out
            by_cases hw : way = 1
            · have HW1 : Hid (¬ wayN (tx ts k) ≠ 1) := by show ¬ _ ≠ _; rw [HWAY.out]; simpa using hw
              subst hw
              have vw : w7.cell? ⟨V, 1, none⟩ = some (.int .i64 1) := by rw [blk_cell HV7.out]; rfl
              go_wp2_with fail
              clear vv2 vvf vw
              generalize (w7.setCell ⟨V, 2, none⟩ (.int .i64 a7)) = w8 at *
              refine (need_at [59] (by decide) HD8.out).mono ?_
              rintro e w9 h9
              rcases h9.cases with ⟨er9, p9, A9, hr9, rfl, hA9, hk9⟩ | ⟨a9, k9, v9, hr9, rfl, hv9, hd9, hk9⟩
              · have Hr9 := hide hr9
                have HA9 := hide hA9
                have HK9 := hide (HK8.out.trans hk9)
                clear h9 hr9 hA9 hk9
                go_wp2_with fail
                exact ⟨rfl, Rds.bad (by simp only [declP, Hr4.out, if_neg HB0.out, Hr6.out, Hr7.out, if_neg HW1.out, Hr9.out, Res.bind]) HK9.out HA9.out⟩
              · have Hr9 := hide hr9
                have HD9 := hide hd9
                have HK9 := hide (HK8.out.trans hk9)
                subst hv9
                have HV9 := hide (hk9.blk HV8.out HVR.out)
                have HS9 := hide (hk9.blk HS8.out HSR.out)
                clear h9 hr9 hd9 hk9
                have v0 : w9.cell? ⟨V, 0, none⟩ = some (.string a4) := by rw [blk_cell HV9.out]; rfl
                have v1 : w9.cell? ⟨V, 1, none⟩ = some (.int .i64 1) := by rw [blk_cell HV9.out]; rfl
                have v2 : w9.cell? ⟨V, 2, none⟩ = some (.int .i64 a7) := by rw [blk_cell HV9.out]; rfl
                have v3 : w9.cell? ⟨V, 3, none⟩ = some (.int .i64 0) := by rw [blk_cell HV9.out]; rfl
                have s0 : w9.cell? ⟨w.heap.size, 0, none⟩ = some (.string ⟨#[]⟩) := by rw [blk_cell HS9.out]; rfl
                have s1 : w9.cell? ⟨w.heap.size, 1, none⟩ = some (.int .i64 0) := by rw [blk_cell HS9.out]; rfl
                have s2 : w9.cell? ⟨w.heap.size, 2, none⟩ = some (.int .i64 0) := by rw [blk_cell HS9.out]; rfl
                have s3 : w9.cell? ⟨w.heap.size, 3, none⟩ = some (.int .i64 0) := by rw [blk_cell HS9.out]; rfl
                have sf : ∀ i, w9.frozen? ⟨w.heap.size, i, none⟩ = false := blk_frozen HS9.out
                go_wp2_with fail
                refine bodyPost_ret (v := .agg #[.string a4, .int .i64 1, .int .i64 a7, .int .i64 0]) (by simp [results, Tryd.results53, go_sem, s0, s1, s2, s3]) rfl ?_
                exact Rds.ok (a := De.mk a4 1 a7 0) (k' := k9) (by simp only [declP, Hr4.out, if_neg HB0.out, Hr6.out, Hr7.out, if_neg HW1.out, Hr9.out, Res.bind]; rw [HWAY.out]) (Kept.put4 HK9.out _ _ _ _ HWS.out) (Rd.put4 HD9.out _ _ _ _ HSR.out HST.out HSB.out) rfl
            · have HW1 : Hid (wayN (tx ts k) ≠ 1) := by show _ ≠ _; rw [HWAY.out]; exact hw
              have hwi : ((way : Int) != 1) = true := by simp; omega
              have vw : w7.cell? ⟨V, 1, none⟩ = some (.int .i64 way) := by rw [blk_cell HV7.out]; rfl
              go_wp2_with fail
              clear vv2 vvf vw
              generalize (w7.setCell ⟨V, 2, none⟩ (.int .i64 a7)) = w8 at *
              refine (first_at a7 HD8.out).mono ?_
              rintro e w9 h9
              rcases h9.cases with ⟨er9, p9, A9, hr9, rfl, hA9, hk9⟩ | ⟨a9, k9, v9, hr9, rfl, hv9, hd9, hk9⟩
              · have Hr9 := hide hr9
                have HA9 := hide hA9
                have HK9 := hide (HK8.out.trans hk9)
                clear h9 hr9 hA9 hk9
                go_wp2_with fail
                exact ⟨rfl, Rds.bad (by simp only [declP, Hr4.out, if_neg HB0.out, Hr6.out, Hr7.out, if_pos HW1.out, Hr9.out, Res.bind]) HK9.out HA9.out⟩
              · have Hr9 := hide hr9
                have HD9 := hide hd9
                have HK9 := hide (HK8.out.trans hk9)
                subst hv9
                have HV9 := hide (hk9.blk HV8.out HVR.out)
                have HS9 := hide (hk9.blk HS8.out HSR.out)
                clear h9 hr9 hd9 hk9
                have HV10 := hide (blk_set HV9.out 3 (.int .i64 a9))
                have HS10 : Hid ((w9.setCell ⟨V, 3, none⟩ (.int .i64 a9)).heap[w.heap.size]? = _) := (set_other _ 3 _ HSV.out).trans HS9.out
                have HD10 := hide (HD9.out.other 3 (.int .i64 a9) HVR.out HVT.out HVB.out)
                have HK10 := hide (HK9.out.new 3 (.int .i64 a9) HWV.out)
                have vv3 : w9.cell? ⟨V, 3, none⟩ = some (.int .i64 0) := by rw [blk_cell HV9.out]; rfl
                have vvf : ∀ i, w9.frozen? ⟨V, i, none⟩ = false := blk_frozen HV9.out
                go_wp2_with fail
                clear vv3 vvf
                generalize (w9.setCell ⟨V, 3, none⟩ (.int .i64 a9)) = w10 at *
                refine (need_at [59] (by decide) HD10.out).mono ?_
                rintro e w11 h11
                rcases h11.cases with ⟨er11, p11, A11, hr11, rfl, hA11, hk11⟩ | ⟨a11, k11, v11, hr11, rfl, hv11, hd11, hk11⟩
                · have Hr11 := hide hr11
                  have HA11 := hide hA11
                  have HK11 := hide (HK10.out.trans hk11)
                  clear h11 hr11 hA11 hk11
                  go_wp2_with fail
                  exact ⟨rfl, Rds.bad (by simp only [declP, Hr4.out, if_neg HB0.out, Hr6.out, Hr7.out, if_pos HW1.out, Hr9.out, Hr11.out, Res.bind]) HK11.out HA11.out⟩
                · have Hr11 := hide hr11
                  have HD11 := hide hd11
                  have HK11 := hide (HK10.out.trans hk11)
                  subst hv11
                  have HV11 := hide (hk11.blk HV10.out HVR.out)
                  have HS11 := hide (hk11.blk HS10.out HSR.out)
                  clear h11 hr11 hd11 hk11
                  have v0 : w11.cell? ⟨V, 0, none⟩ = some (.string a4) := by rw [blk_cell HV11.out]; rfl
                  have v1 : w11.cell? ⟨V, 1, none⟩ = some (.int .i64 way) := by rw [blk_cell HV11.out]; rfl
                  have v2 : w11.cell? ⟨V, 2, none⟩ = some (.int .i64 a7) := by rw [blk_cell HV11.out]; rfl
                  have v3 : w11.cell? ⟨V, 3, none⟩ = some (.int .i64 a9) := by rw [blk_cell HV11.out]; rfl
                  have s0 : w11.cell? ⟨w.heap.size, 0, none⟩ = some (.string ⟨#[]⟩) := by rw [blk_cell HS11.out]; rfl
                  have s1 : w11.cell? ⟨w.heap.size, 1, none⟩ = some (.int .i64 0) := by rw [blk_cell HS11.out]; rfl
                  have s2 : w11.cell? ⟨w.heap.size, 2, none⟩ = some (.int .i64 0) := by rw [blk_cell HS11.out]; rfl
                  have s3 : w11.cell? ⟨w.heap.size, 3, none⟩ = some (.int .i64 0) := by rw [blk_cell HS11.out]; rfl
                  have sf : ∀ i, w11.frozen? ⟨w.heap.size, i, none⟩ = false := blk_frozen HS11.out
                  go_wp2_with fail
                  refine bodyPost_ret (v := .agg #[.string a4, .int .i64 way, .int .i64 a7, .int .i64 a9]) (by simp [results, Tryd.results53, go_sem, s0, s1, s2, s3]) rfl ?_
                  exact Rds.ok (a := De.mk a4 way a7 a9) (k' := k11) (by simp only [declP, Hr4.out, if_neg HB0.out, Hr6.out, Hr7.out, if_pos HW1.out, Hr9.out, Hr11.out, Res.bind]; rw [HWAY.out]) (Kept.put4 HK11.out _ _ _ _ HWS.out) (Rd.put4 HD11.out _ _ _ _ HSR.out HST.out HSB.out) rfl
      · have HB0 : Hid (blkN (tx ts k) ≠ 0) := by show _ ≠ _; rw [HBLK.out]; exact hb
        have hbi : ((blk : Int) != 0) = true := by simp; omega
        have vvt : w4.cell? ⟨V, 2, none⟩ = some (.int .i64 blk) := by rw [blk_cell HV4.out]; rfl
        have vvw : w4.cell? ⟨V, 1, none⟩ = some (.int .i64 way) := by rw [blk_cell HV4.out]; rfl
        have HV6 := hide (blk_set HV5.out 1 (.int .i64 3))
        have HS6 : Hid (((w4.setCell ⟨V, 0, none⟩ (.string a4)).setCell ⟨V, 1, none⟩ (.int .i64 3)).heap[w.heap.size]? = _) := (set_other _ 1 _ HSV.out).trans HS5.out
        have HD6 := hide (HD5.out.other 1 (.int .i64 3) HVR.out HVT.out HVB.out)
        have HK6 := hide (HK5.out.new 1 (.int .i64 3) HWV.out)
        go_wp2_with fail
        clear vvt vvw vv0 vvf
        generalize ((w4.setCell ⟨V, 0, none⟩ (.string a4)).setCell ⟨V, 1, none⟩ (.int .i64 3)) = w6 at *
        refine (need_at [59] (by decide) HD6.out).mono ?_
        rintro e w7 h7
        rcases h7.cases with ⟨er7, p7, A7, hr7, rfl, hA7, hk7⟩ | ⟨a7, k7, v7, hr7, rfl, hv7, hd7, hk7⟩
        · have Hr7 := hide hr7
          have HA7 := hide hA7
          have HK7 := hide (HK6.out.trans hk7)
          clear h7 hr7 hA7 hk7
          go_wp2_with fail
          exact ⟨rfl, Rds.bad (by simp only [declP, Hr4.out, if_pos HB0.out, Hr7.out, Res.bind]) HK7.out HA7.out⟩
        · have Hr7 := hide hr7
          have HD7 := hide hd7
          have HK7 := hide (HK6.out.trans hk7)
          subst hv7
          have HV7 := hide (hk7.blk HV6.out HVR.out)
          have HS7 := hide (hk7.blk HS6.out HSR.out)
          clear h7 hr7 hd7 hk7
          have v0 : w7.cell? ⟨V, 0, none⟩ = some (.string a4) := by rw [blk_cell HV7.out]; rfl
          have v1 : w7.cell? ⟨V, 1, none⟩ = some (.int .i64 3) := by rw [blk_cell HV7.out]; rfl
          have v2 : w7.cell? ⟨V, 2, none⟩ = some (.int .i64 blk) := by rw [blk_cell HV7.out]; rfl
          have v3 : w7.cell? ⟨V, 3, none⟩ = some (.int .i64 0) := by rw [blk_cell HV7.out]; rfl
          have s0 : w7.cell? ⟨w.heap.size, 0, none⟩ = some (.string ⟨#[]⟩) := by rw [blk_cell HS7.out]; rfl
          have s1 : w7.cell? ⟨w.heap.size, 1, none⟩ = some (.int .i64 0) := by rw [blk_cell HS7.out]; rfl
          have s2 : w7.cell? ⟨w.heap.size, 2, none⟩ = some (.int .i64 0) := by rw [blk_cell HS7.out]; rfl
          have s3 : w7.cell? ⟨w.heap.size, 3, none⟩ = some (.int .i64 0) := by rw [blk_cell HS7.out]; rfl
          have sf : ∀ i, w7.frozen? ⟨w.heap.size, i, none⟩ = false := blk_frozen HS7.out
          go_wp2_with fail
          refine bodyPost_ret (v := .agg #[.string a4, .int .i64 3, .int .i64 blk, .int .i64 0]) (by simp [results, Tryd.results53, go_sem, s0, s1, s2, s3]) rfl ?_
          exact Rds.ok (a := De.mk a4 3 blk 0) (k' := k7) (by simp only [declP, Hr4.out, if_pos HB0.out, Hr7.out, Res.bind]; rw [HBLK.out]) (Kept.put4 HK7.out _ _ _ _ HWS.out) (Rd.put4 HD7.out _ _ _ _ HSR.out HST.out HSB.out) rfl
end Go.Proofs.YtiimnnancblbkaaDoor
