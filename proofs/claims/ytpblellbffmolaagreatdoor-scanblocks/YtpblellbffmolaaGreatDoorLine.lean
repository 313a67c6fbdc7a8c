/-
  CONTRACTS of declHead and Line.
-/
import Derived.Test.YtpblellbffmolaaGreatDoorCall
import Derived.Test.YtpblellbffmolaaGreatDoorJWords
set_option linter.unusedSimpArgs false
set_option linter.unusedVariables false
namespace Go.Proofs.YtpblellbffmolaaGreatDoor
open Go.RowKit

theorem below_drewL (w : World) (n : Nat) : Below w.heap.size w (w.drewN n) := ⟨rfl, rfl, rfl, Nat.le_refl _, fun _ _ => rfl⟩
theorem types_cell {w : World} (hv : Vars w) (ty : Nat) (h1 : 1 ≤ ty) (h5 : ty ≤ 5) : w.cell? ⟨0, ty, none⟩ = some (.string ⟨(tyT ty).toArray⟩) := by
  rw [blk_cell hv.types]
  rcases (show ty = 1 ∨ ty = 2 ∨ ty = 3 ∨ ty = 4 ∨ ty = 5 by omega) with rfl | rfl | rfl | rfl | rfl <;> rfl
theorem ways_cell {w : World} (hv : Vars w) (n : Nat) (h1 : 1 ≤ n) (h3 : n ≤ 3) : w.cell? ⟨1, n, none⟩ = some (.string ⟨(wayT n).toArray⟩) := by
  rw [blk_cell hv.ways]
  rcases (show n = 1 ∨ n = 2 ∨ n = 3 by omega) with rfl | rfl | rfl <;> rfl
theorem tyT_len (n : Nat) : (tyT n).length ≤ 7 := by
  unfold tyT
  repeat' split
  all_goals simp
theorem wayT_len (n : Nat) : (wayT n).length ≤ 3 := by
  unfold wayT
  repeat' split
  all_goals simp
theorem cat_run (a b : List UInt8) (h : a.length + b.length ≤ 1000000) (w : World) : (Op.stringOp .add ⟨a.toArray⟩ ⟨b.toArray⟩).run Tryz.prog w = .ok (.string ⟨(a ++ b).toArray⟩) w := by
  rw [run_string_add_sum w _ _ (by rw [str_sz, str_sz]; omega), cat_eq]
theorem blk_ty (ty : Nat) (h3 : 3 ≤ ty) (h5 : ty ≤ 5) : blkN (tyT ty) = ty := by
  rcases (show ty = 3 ∨ ty = 4 ∨ ty = 5 by omega) with rfl | rfl | rfl <;> rfl
theorem blk_no (ty : Nat) (h1 : 1 ≤ ty) (h2 : ty ≤ 2) : blkN (tyT ty) = 0 := by
  rcases (show ty = 1 ∨ ty = 2 by omega) with rfl | rfl <;> rfl

set_option maxRecDepth 100000 in
set_option maxHeartbeats 3200000 in
theorem head_blk (nm : List UInt8) (ty init : Nat) (h3 : 3 ≤ ty) (h5 : ty ≤ 5) (hn : nm.length ≤ 12) (w : World) (hv : Vars w) :
    Calls Tryz.prog 45 #[.agg #[.string ⟨nm.toArray⟩, .int .i64 3, .int .i64 ty, .int .i64 init]] w fun e w' => e = .returned (.string ⟨(tyT ty ++ [32] ++ nm).toArray⟩) ∧ Below w.heap.size w w' := by
  have HB := hide (below_alloc w (.cells #[.string ⟨nm.toArray⟩, .int .i64 3, .int .i64 ty, .int .i64 init] 56))
  have HN := hide (blk_new w (.cells #[.string ⟨nm.toArray⟩, .int .i64 3, .int .i64 ty, .int .i64 init] 56))
  have HV := hide (hv.below HB.out)
  have g1 := types_cell HV.out ty (by omega) h5
  have h3i : (3 : Int) ≤ (ty : Int) := by omega
  have h5i : (ty : Int) ≤ 5 := by omega
  have h6i : (ty : Int) < 6 := by omega
  have h0i : (0 : Int) ≤ (ty : Int) := by omega
  have HBT := hide (blk_ty ty h3 h5)
  have HTL := hide (tyT_len ty)
  clear hv
  generalize hT : tyT ty = T at *
  have HT : Hid (tyT ty = T) := hT
  clear hT
  have k1 := cat_run T [32] (by have := HTL.out; simp; omega)
  have k2 := cat_run (T ++ [32]) nm (by have := HTL.out; simp; omega)
  go_enter Tryz.func45, Tryz.ntmps45
  go_wp2_with fail
  have c0 : (w.alloc (.cells #[.string ⟨nm.toArray⟩, .int .i64 3, .int .i64 ty, .int .i64 init] 56)).cell? ⟨w.heap.size, 0, none⟩ = some (.string ⟨nm.toArray⟩) := by rw [blk_cell HN.out]; rfl
  have c1 : (w.alloc (.cells #[.string ⟨nm.toArray⟩, .int .i64 3, .int .i64 ty, .int .i64 init] 56)).cell? ⟨w.heap.size, 1, none⟩ = some (.int .i64 3) := by rw [blk_cell HN.out]; rfl
  have c2 : (w.alloc (.cells #[.string ⟨nm.toArray⟩, .int .i64 3, .int .i64 ty, .int .i64 init] 56)).cell? ⟨w.heap.size, 2, none⟩ = some (.int .i64 ty) := by rw [blk_cell HN.out]; rfl
  generalize (w.alloc (.cells #[.string ⟨nm.toArray⟩, .int .i64 3, .int .i64 ty, .int .i64 init] 56)) = w0 at *
  go_region_held3 (fun w' => w'.cell? ⟨w.heap.size, 2, none⟩ = some (.int .i64 ty) ∧ w'.cell? ⟨0, ty, none⟩ = some (.string ⟨T.toArray⟩)) (first | exact ⟨d2, d3⟩ | go_keep) ((go_at_call 54; refine (blocks_at w0.drew (HV.out.below ((Below.refl w0.heap.size w0).drew))).mono ?_; rintro e w1 ⟨M, es, c, rfl, hM, hI, hb1⟩; have HB1 := hide (Below.step ((Below.refl w0.heap.size w0).drew) hb1); have d2 : w1.cell? ⟨w.heap.size, 2, none⟩ = some (.int .i64 ty) := (HB1.out.cell (cell_lt c2)).trans c2; have d3 : w1.cell? ⟨0, ty, none⟩ = some (.string ⟨T.toArray⟩) := (HB1.out.cell (cell_lt g1)).trans g1; have HM := hide hM; have HI := hide hI; have hf : (Instr.lookup 115 (.map (some M)) (.string ⟨T.toArray⟩) false).run Tryz.prog w1 = .ok (.int .i64 ty) w1 := (by have h9 := found M w1 ⟨T.toArray⟩ es c HM.out HI.out; rw [lit_toList, HBT.out] at h9; exact h9); clear hM hI hb1))
  have d0 : w1.cell? ⟨w.heap.size, 0, none⟩ = some (.string ⟨nm.toArray⟩) := (HB1.out.cell (cell_lt c0)).trans c0
  have d1 : w1.cell? ⟨w.heap.size, 1, none⟩ = some (.int .i64 3) := (HB1.out.cell (cell_lt c1)).trans c1
  have hne : ((ty : Int) != 0) = true := by simp; omega
  go_wp2_with fail
  go_quiet (fail)
  go_wp2_with fail
  go_ret
  refine ⟨?_, Below.step HB.out (Below.step HB1.out (below_drewL _ _))⟩
  show Ending.returned (.string ⟨(T ++ 32 :: nm).toArray⟩) = _
  simp

set_option maxRecDepth 100000 in
set_option maxHeartbeats 3200000 in
theorem head_way (nm : List UInt8) (way ty init : Nat) (hw1 : 1 ≤ way) (hw3 : way ≤ 3) (h1 : 1 ≤ ty) (h2 : ty ≤ 2) (hn : nm.length ≤ 12) (w : World) (hv : Vars w) :
    Calls Tryz.prog 45 #[.agg #[.string ⟨nm.toArray⟩, .int .i64 way, .int .i64 ty, .int .i64 init]] w fun e w' => e = .returned (.string ⟨(wayT way ++ [32] ++ nm ++ [58, 32] ++ tyT ty).toArray⟩) ∧ Below w.heap.size w w' := by
  have HB := hide (below_alloc w (.cells #[.string ⟨nm.toArray⟩, .int .i64 way, .int .i64 ty, .int .i64 init] 56))
  have HN := hide (blk_new w (.cells #[.string ⟨nm.toArray⟩, .int .i64 way, .int .i64 ty, .int .i64 init] 56))
  have HV := hide (hv.below HB.out)
  have g1 := types_cell HV.out ty (by omega) (by omega)
  have G2 := hide (ways_cell HV.out way hw1 hw3)
  have h1i : (1 : Int) ≤ (ty : Int) := by omega
  have h2i : (ty : Int) ≤ 2 := by omega
  have h5i : (ty : Int) ≤ 5 := by omega
  have h6i : (ty : Int) < 6 := by omega
  have h0i : (0 : Int) ≤ (ty : Int) := by omega
  have w1i : (1 : Int) ≤ (way : Int) := by omega
  have w3i : (way : Int) ≤ 3 := by omega
  have w4i : (way : Int) < 4 := by omega
  have w0i : (0 : Int) ≤ (way : Int) := by omega
  have HBT := hide (blk_no ty h1 h2)
  have HTL := hide (tyT_len ty)
  have HWL := hide (wayT_len way)
  clear hv
  generalize hT : tyT ty = T at *
  generalize hU : wayT way = U at *
  clear hT hU
  have k1 := cat_run U [32] (by have := HWL.out; simp; omega)
  have k2 := cat_run (U ++ [32]) nm (by have := HWL.out; simp; omega)
  have k3 := cat_run (U ++ [32] ++ nm) [58, 32] (by have := HWL.out; simp; omega)
  have k4 := cat_run (U ++ [32] ++ nm ++ [58, 32]) T (by have := HWL.out; have := HTL.out; simp; omega)
  simp only [List.append_assoc, List.cons_append, List.nil_append] at k2 k3 k4
  go_enter Tryz.func45, Tryz.ntmps45
  go_wp2_with fail
  have c0 : (w.alloc (.cells #[.string ⟨nm.toArray⟩, .int .i64 way, .int .i64 ty, .int .i64 init] 56)).cell? ⟨w.heap.size, 0, none⟩ = some (.string ⟨nm.toArray⟩) := by rw [blk_cell HN.out]; rfl
  have c1 : (w.alloc (.cells #[.string ⟨nm.toArray⟩, .int .i64 way, .int .i64 ty, .int .i64 init] 56)).cell? ⟨w.heap.size, 1, none⟩ = some (.int .i64 way) := by rw [blk_cell HN.out]; rfl
  have c2 : (w.alloc (.cells #[.string ⟨nm.toArray⟩, .int .i64 way, .int .i64 ty, .int .i64 init] 56)).cell? ⟨w.heap.size, 2, none⟩ = some (.int .i64 ty) := by rw [blk_cell HN.out]; rfl
  generalize (w.alloc (.cells #[.string ⟨nm.toArray⟩, .int .i64 way, .int .i64 ty, .int .i64 init] 56)) = w0 at *
  go_region_held3 (fun w' => w'.cell? ⟨w.heap.size, 2, none⟩ = some (.int .i64 ty) ∧ w'.cell? ⟨0, ty, none⟩ = some (.string ⟨T.toArray⟩)) (first | exact ⟨d2, d3⟩ | go_keep) ((go_at_call 54; refine (blocks_at w0.drew (HV.out.below ((Below.refl w0.heap.size w0).drew))).mono ?_; rintro e w1 ⟨M, es, c, rfl, hM, hI, hb1⟩; have HB1 := hide (Below.step ((Below.refl w0.heap.size w0).drew) hb1); have d2 : w1.cell? ⟨w.heap.size, 2, none⟩ = some (.int .i64 ty) := (HB1.out.cell (cell_lt c2)).trans c2; have d3 : w1.cell? ⟨0, ty, none⟩ = some (.string ⟨T.toArray⟩) := (HB1.out.cell (cell_lt g1)).trans g1; have HM := hide hM; have HI := hide hI; have hf : (Instr.lookup 115 (.map (some M)) (.string ⟨T.toArray⟩) false).run Tryz.prog w1 = .ok (.int .i64 0) w1 := (by have h9 := found M w1 ⟨T.toArray⟩ es c HM.out HI.out; rw [lit_toList, HBT.out] at h9; exact h9); clear hM hI hb1))
  have d0 : w1.cell? ⟨w.heap.size, 0, none⟩ = some (.string ⟨nm.toArray⟩) := (HB1.out.cell (cell_lt c0)).trans c0
  have d1 : w1.cell? ⟨w.heap.size, 1, none⟩ = some (.int .i64 way) := (HB1.out.cell (cell_lt c1)).trans c1
  have d4 : w1.cell? ⟨1, way, none⟩ = some (.string ⟨U.toArray⟩) := (HB1.out.cell (cell_lt G2.out)).trans G2.out
  go_wp2_with fail
  go_quiet (fail)
  go_wp2_with fail
  go_ret
  refine ⟨?_, Below.step HB.out (Below.step HB1.out (below_drewL _ _))⟩
  show Ending.returned (.string ⟨(U ++ 32 :: (nm ++ 58 :: 32 :: T)).toArray⟩) = _
  simp

theorem head_at (d : De) (hg : GoodD d) (w : World) (hv : Vars w) : Calls Tryz.prog 45 #[.agg #[.string d.name, .int .i64 d.way, .int .i64 d.ty, .int .i64 d.init]] w fun e w' => e = .returned (.string ⟨(headT d).toArray⟩) ∧ Below w.heap.size w w' := by
  have hn : d.name.data.toList.length ≤ 12 := by rw [sz_list]; exact hg.name.2.1
  have e : d.name = ⟨d.name.data.toList.toArray⟩ := rfl
  rcases hg.form with ⟨h1, h2, h3, h4⟩ | ⟨h1, h2, h3, h4, _⟩
  · have := head_blk d.name.data.toList d.ty d.init h1 h2 hn w hv
    have e3 : ((3 : Nat) : Int) = 3 := rfl
    rw [h3, e3]
    simp only [headT, if_pos h1]
    exact this
  · have := head_way d.name.data.toList d.way d.ty d.init h1 h2 h3 h4 hn w hv
    have h5 : ¬ 3 ≤ d.ty := by omega
    simp only [headT, if_neg h5]
    exact this

theorem head_len {d : De} (hg : GoodD d) : (headT d).length ≤ 30 ∧ headT d ≠ [] := by
  have h1 := tyT_len d.ty
  have h2 := wayT_len d.way
  have h3 := hg.name.2.1
  have h4 : tyT d.ty ≠ [] := by
    unfold tyT
    repeat' split
    all_goals simp
  unfold headT
  split
  · refine ⟨by simp only [List.length_append, List.length_cons, List.length_nil, sz_list]; omega, by simp⟩
  · refine ⟨by simp only [List.length_append, List.length_cons, List.length_nil, sz_list]; omega, by simp⟩

set_option maxRecDepth 100000 in
set_option maxHeartbeats 3200000 in
theorem line_at (d : De) (hg : GoodD d) (w : World) (hv : Vars w) (ht : Tab w) (h14 : 8 ≤ w.heap.size) :
    Calls Tryz.prog 23 #[.agg #[.string d.name, .int .i64 d.way, .int .i64 d.ty, .int .i64 d.init]] w fun e w' => e = .returned (.string ⟨(lineT d).toArray⟩) ∧ Below w.heap.size w w' := by
  obtain ⟨nm, way, ty, init⟩ := d
  have HB := hide (below_alloc w (.cells #[.string nm, .int .i64 way, .int .i64 ty, .int .i64 init] 56))
  have HN := hide (blk_new w (.cells #[.string nm, .int .i64 way, .int .i64 ty, .int .i64 init] 56))
  have HH := hide (head_at ⟨nm, way, ty, init⟩ hg)
  have HV := hide hv
  have HT := hide ht
  obtain ⟨hl1, hl2⟩ := head_len hg
  have hi255 : init ≤ 255 := by
    rcases hg.form with h | h
    · have := h.2.2.2
      simp only at this
      omega
    · exact h.2.2.2.2.2.2
  have HE : Hid (lineT ⟨nm, way, ty, init⟩ = headT ⟨nm, way, ty, init⟩ ++ (if init = 0 then [] else [32, 61, 32] ++ valP ty init) ++ [59, 10]) := rfl
  generalize hX : headT ⟨nm, way, ty, init⟩ = X at *
  clear hX hv ht
  go_enter Tryz.func23, Tryz.ntmps23
  go_wp2_with fail
  have HV0 := hide (HV.out.below HB.out)
  have HT0 := hide (HT.out.below HB.out h14)
  have c2 : (w.alloc (.cells #[.string nm, .int .i64 way, .int .i64 ty, .int .i64 init] 56)).cell? ⟨w.heap.size, 2, none⟩ = some (.int .i64 ty) := by rw [blk_cell HN.out]; rfl
  have c3 : (w.alloc (.cells #[.string nm, .int .i64 way, .int .i64 ty, .int .i64 init] 56)).cell? ⟨w.heap.size, 3, none⟩ = some (.int .i64 init) := by rw [blk_cell HN.out]; rfl
  generalize (w.alloc (.cells #[.string nm, .int .i64 way, .int .i64 ty, .int .i64 init] 56)) = w0 at *
  refine (HH.out w0 HV0.out).mono ?_
  rintro e w1 ⟨rfl, hb1⟩
  have HB1 := hide hb1
  have d2 : w1.cell? ⟨w.heap.size, 2, none⟩ = some (.int .i64 ty) := (hb1.cell (cell_lt c2)).trans c2
  have d3 : w1.cell? ⟨w.heap.size, 3, none⟩ = some (.int .i64 init) := (hb1.cell (cell_lt c3)).trans c3
  clear c2 c3 hb1
  have hE : X.isEmpty = false := by
    cases X with
    | nil => exact absurd rfl hl2
    | cons a b => rfl
  by_cases h0 : init = 0
  · subst h0
    have k1 := cat_run X [59, 10] (by simp; omega)
    go_wp2_with fail
    go_ret
    rw [HE.out]
    refine ⟨?_, Below.step HB.out HB1.out⟩
    show Ending.returned (.string ⟨(X ++ [59, 10]).toArray⟩) = _
    simp
  · have hne : ((init : Int) != 0) = true := by simp; omega
    have HVT := hide (valueText_at ty init (by omega) w1 (HT0.out.below HB1.out (by have := HB.out.size; omega)))
    have HVL := hide (val_len (ty := ty) hi255)
    have HZ := hide h0
    clear h0
    generalize hV : valP ty init = V at *
    clear hV
    have k1 := cat_run [32, 61, 32] V (by have := HVL.out; simp; omega)
    have k2 := cat_run X ([32, 61, 32] ++ V) (by have := HVL.out; simp; omega)
    have k3 := cat_run (X ++ ([32, 61, 32] ++ V)) [59, 10] (by have := HVL.out; simp; omega)
    simp only [List.append_assoc, List.cons_append, List.nil_append] at k1 k2 k3
    go_wp2_with fail
    refine HVT.out.mono ?_
    rintro e w2 ⟨rfl, hb2⟩
    have HB2 := hide hb2
    clear hb2
    go_wp2_with fail
    go_ret
    rw [HE.out, if_neg HZ.out]
    refine ⟨?_, Below.step (Below.step HB.out HB1.out) HB2.out⟩
    show Ending.returned (.string ⟨(X ++ 32 :: 61 :: 32 :: (V ++ [59, 10])).toArray⟩) = _
    simp
end Go.Proofs.YtpblellbffmolaaGreatDoor
