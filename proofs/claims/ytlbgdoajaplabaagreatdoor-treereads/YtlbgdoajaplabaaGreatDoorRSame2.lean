/-
  CONTRACT of sameStmts of the laws: two rows of the same statements are the same.
-/
import Derived.Test.YtlbgdoajaplabaaGreatDoorRSameE
import Derived.Test.YtlbgdoajaplabaaGreatDoorRSameN
namespace Go.Proofs.YtlbgdoajaplabaaGreatDoor
open Go.RowKit
set_option linter.unusedSimpArgs false
set_option linter.unusedVariables false

/-- the cells of two statements, in their rows or by themselves -/
structure TwoS (g ox h oy : Nat) (sc sp sn : Int) (snm : ByteArray) (a b xo yo ta tb ua ub : Option Addr) (xl xc yc tl tc tc2 ul uc uc2 : Nat) (w : World) : Prop where
  x0 : w.cell? ⟨g, ox + 0, none⟩ = some (.int .i64 sc)
  x1 : w.cell? ⟨g, ox + 1, none⟩ = some (.int .i64 sp)
  x2 : w.cell? ⟨g, ox + 2, none⟩ = some (.string snm)
  x3 : w.cell? ⟨g, ox + 3, none⟩ = some (.pointer a)
  x4 : w.cell? ⟨g, ox + 4, none⟩ = some (.slice xo xl xc)
  x5 : w.cell? ⟨g, ox + 5, none⟩ = some (.int .i64 sn)
  x6 : w.cell? ⟨g, ox + 6, none⟩ = some (.slice ta tl tc)
  x7 : w.cell? ⟨g, ox + 7, none⟩ = some (.slice ua ul uc)
  y0 : w.cell? ⟨h, oy + 0, none⟩ = some (.int .i64 sc)
  y1 : w.cell? ⟨h, oy + 1, none⟩ = some (.int .i64 sp)
  y2 : w.cell? ⟨h, oy + 2, none⟩ = some (.string snm)
  y3 : w.cell? ⟨h, oy + 3, none⟩ = some (.pointer b)
  y4 : w.cell? ⟨h, oy + 4, none⟩ = some (.slice yo xl yc)
  y5 : w.cell? ⟨h, oy + 5, none⟩ = some (.int .i64 sn)
  y6 : w.cell? ⟨h, oy + 6, none⟩ = some (.slice tb tl tc2)
  y7 : w.cell? ⟨h, oy + 7, none⟩ = some (.slice ub ul uc2)
theorem TwoS.keep {g ox h oy : Nat} {sc sp sn : Int} {snm : ByteArray} {a b xo yo ta tb ua ub : Option Addr} {xl xc yc tl tc tc2 ul uc uc2 : Nat} {w W : World} (q : TwoS g ox h oy sc sp sn snm a b xo yo ta tb ua ub xl xc yc tl tc tc2 ul uc uc2 w) (e : ∀ (p : Addr) (v : Value), w.cell? p = some v → W.cell? p = some v) : TwoS g ox h oy sc sp sn snm a b xo yo ta tb ua ub xl xc yc tl tc tc2 ul uc uc2 W :=
  ⟨e _ _ q.x0, e _ _ q.x1, e _ _ q.x2, e _ _ q.x3, e _ _ q.x4, e _ _ q.x5, e _ _ q.x6, e _ _ q.x7, e _ _ q.y0, e _ _ q.y1, e _ _ q.y2, e _ _ q.y3, e _ _ q.y4, e _ _ q.y5, e _ _ q.y6, e _ _ q.y7⟩
theorem below_cell {w W : World} (h : Below w.heap.size w W) (p : Addr) (v : Value) (hc : w.cell? p = some v) : W.cell? p = some v := (h.cell (cell_lt hc)).trans hc
theorem below_drewN {N : Nat} {w W : World} (h : Below N w W) (m : Nat) : Below N w (W.drewN m) := ⟨h.os, h.tape, h.output, h.size, h.block⟩
theorem zero_set {w : World} {B : Nat} (h : w.heap[B]? = some (.cells #[.int .i64 0, .int .i64 0, .string ⟨#[]⟩, .pointer none, .slice none 0 0, .int .i64 0, .slice none 0 0, .slice none 0 0] 68 (0, 0))) (c0 c1 c2 c3 c4 c5 c6 c7 : Value) : (put8 w B c0 c1 c2 c3 c4 c5 c6 c7).heap[B]? = some (.cells #[c0, c1, c2, c3, c4, c5, c6, c7] 68 (0, 0)) := by
  unfold put8
  rw [blk_set (blk_set (blk_set (blk_set (blk_set (blk_set (blk_set (blk_set h 0 c0) 1 c1) 2 c2) 3 c3) 4 c4) 5 c5) 6 c6) 7 c7]
  simp only [List.setIfInBounds_toArray, List.set_cons_zero, List.set_cons_succ]
theorem below_put8 {w0 w : World} {N B : Nat} (h : Below N w0 w) (hB : N ≤ B) (c0 c1 c2 c3 c4 c5 c6 c7 : Value) : Below N w0 (put8 w B c0 c1 c2 c3 c4 c5 c6 c7) := by
  unfold put8
  exact (((((((h.setCell hB _).setCell hB _).setCell hB _).setCell hB _).setCell hB _).setCell hB _).setCell hB _).setCell hB _

set_option maxRecDepth 100000 in
set_option maxHeartbeats 12800000 in
theorem sameSts_at (l : List St) (hll : l.length ≤ 1000000) (hsm : ∀ s ∈ l, (argS s).length ≤ 1000000) (ih : ∀ s ∈ l, SSs (thenS s) ∧ SSs (elseS s)) : SSs l := by
  intro S S' w va vb ha hb
  obtain ⟨csa, hra, hla⟩ := ha
  obtain ⟨csb, hrb, hlb⟩ := hb
  obtain ⟨ao, ac, rfl⟩ := hra.val
  obtain ⟨bo, bc, rfl⟩ := hrb.val
  have HRA := hide hra
  have HRB := hide hrb
  have HLA := hide hla
  have HLB := hide hlb
  have HSM := hide hsm
  have IH := hide ih
  clear hra hla hrb hlb hsm ih
  go_enter Tryz.func8, Tryz.ntmps8
  go_wp2_with fail
  go_loopw [5] (fun i wr => ∃ j : Nat, j ≤ l.length ∧ i = .int .i64 j ∧ Hid (Below w.heap.size w wr)) (fun i _ => l.length - (intOf i).toNat)
  case atStart => exact ⟨0, Nat.zero_le _, rfl, hide (Below.refl _ _)⟩
  case round =>
    obtain ⟨j, hj, rfl, hbw⟩ := hrel
    by_cases hlt : j < l.length
    · have hji : (j : Int) < (l.length : Int) := by omega
      obtain ⟨g, cap', hv, hSg⟩ := qrow_addr HRA.out (by omega)
      obtain ⟨rfl, rfl⟩ : ao = some ⟨g, 0, none⟩ ∧ ac = cap' := by cases hv; exact ⟨rfl, rfl⟩
      obtain ⟨g2, cap2, hv2, hSg2⟩ := qrow_addr HRB.out (by omega)
      obtain ⟨rfl, rfl⟩ : bo = some ⟨g2, 0, none⟩ ∧ bc = cap2 := by cases hv2; exact ⟨rfl, rfl⟩
      obtain ⟨c, hc, hst⟩ := qstl_get HLA.out j hlt
      obtain ⟨c2, hc2, hst2⟩ := qstl_get HLB.out j hlt
      have HCELL : Hid (∀ k u, c[k]? = some u → k < 8 → wr.drew.cell? ⟨g, j * 8 + k, none⟩ = some u) := hide (fun k u hk h8 => by
        have h0 : w.cell? ⟨g, j * 8 + k, none⟩ = some u := qrow_cell HRA.out rfl (by rw [qflat_nth 8 csa (qstl_eight HLA.out) j c hc k h8]; exact hk)
        exact (hbw.out.drew.cell (cell_lt h0)).trans h0)
      have HCELL2 : Hid (∀ k u, c2[k]? = some u → k < 8 → wr.drew.cell? ⟨g2, j * 8 + k, none⟩ = some u) := hide (fun k u hk h8 => by
        have h0 : w.cell? ⟨g2, j * 8 + k, none⟩ = some u := qrow_cell HRB.out rfl (by rw [qflat_nth 8 csb (qstl_eight HLB.out) j c2 hc2 k h8]; exact hk)
        exact (hbw.out.drew.cell (cell_lt h0)).trans h0)
      have HMEM := hide (List.getElem_mem hlt)
      have HSJ := hide (HSM.out _ HMEM.out)
      have HIH := hide (IH.out _ HMEM.out)
      generalize l[j] = st at *
      have HST := hide (IsSt.same (w' := wr) (fun c _ h => hbw.out.block c h) st c hst)
      have HST2 := hide (IsSt.same (w' := wr) (fun c _ h => hbw.out.block c h) st c2 hst2)
      clear hv hv2 hc hc2 hst hst2 HMEM
      obtain ⟨a, xo, ta, ua, xc, tc, uc, rfl, hx, hxs, ht, hu⟩ := st_parts st c HST.out
      obtain ⟨b, yo, tb, ub, yc, tc2, uc2, rfl, hy, hys, ht2, hu2⟩ := st_parts st c2 HST2.out
      have HE : Hid (∀ W, Below wr.heap.size wr W → Calls Tryz.prog 24 #[.pointer a, .pointer b] W (Yes W)) := hide fun W hb => sameO_at (exS st) S S' W a b (hx.below hb) (hy.below hb)
      have HT : Hid (∀ W, Below wr.heap.size wr W → Calls Tryz.prog 8 #[.slice ta (thenS st).length tc, .slice tb (thenS st).length tc2] W (YesB W)) := hide fun W hb => HIH.out.1 S S' W _ _ (ht.same fun c _ h => hb.block c h) (ht2.same fun c _ h => hb.block c h)
      have HU : Hid (∀ W, Below wr.heap.size wr W → Calls Tryz.prog 8 #[.slice ua (elseS st).length uc, .slice ub (elseS st).length uc2] W (YesB W)) := hide fun W hb => HIH.out.2 S S' W _ _ (hu.same fun c _ h => hb.block c h) (hu2.same fun c _ h => hb.block c h)
      have HXS : Hid (∀ W, Below wr.heap.size wr W → IsExs S W (argS st) (.slice xo (argS st).length xc)) := hide fun W hb => hxs.same fun c _ h => hb.block c h
      have HYS : Hid (∀ W, Below wr.heap.size wr W → IsExs S' W (argS st) (.slice yo (argS st).length yc)) := hide fun W hb => hys.same fun c _ h => hb.block c h
      clear hx hxs ht hu hy hys ht2 hu2 HST HST2 HIH
      have HS : Hid (TwoS g (j * 8) g2 (j * 8) (codeS st : Nat) (posS st : Nat) (numS st : Nat) (nameS st) a b xo yo ta tb ua ub (argS st).length xc yc (thenS st).length tc tc2 (elseS st).length uc uc2 wr.drew) := hide ⟨HCELL.out 0 _ rfl (by decide), HCELL.out 1 _ rfl (by decide), HCELL.out 2 _ rfl (by decide), HCELL.out 3 _ rfl (by decide), HCELL.out 4 _ rfl (by decide), HCELL.out 5 _ rfl (by decide), HCELL.out 6 _ rfl (by decide), HCELL.out 7 _ rfl (by decide), HCELL2.out 0 _ rfl (by decide), HCELL2.out 1 _ rfl (by decide), HCELL2.out 2 _ rfl (by decide), HCELL2.out 3 _ rfl (by decide), HCELL2.out 4 _ rfl (by decide), HCELL2.out 5 _ rfl (by decide), HCELL2.out 6 _ rfl (by decide), HCELL2.out 7 _ rfl (by decide)⟩
      clear HCELL HCELL2
      generalize hcs : ((codeS st : Nat) : Int) = sc at *
      generalize hps : ((posS st : Nat) : Int) = sp at *
      generalize hns : ((numS st : Nat) : Int) = sn at *
      generalize nameS st = snm at *
      generalize argS st = xs at *
      generalize hxl : xs.length = xl at *
      generalize (thenS st).length = tl at *
      generalize (elseS st).length = ul at *
      clear hcs hps hns
      go_wp2_with fail
      refine wp_region_held_drew (S := TwoS g (j * 8) g2 (j * 8) sc sp sn snm a b xo yo ta tb ua ub xl xc yc tl tc tc2 ul uc uc2) (by kernel_rfl) HS.out (fun _ => ?_)
      refine wpAnyH_take (i := 0) (oi := ⟨some 20, _, _, _, _, _⟩) (v := .slice (some ⟨g, 0, none⟩) l.length ac) rfl (by as_aux_lemma => kernel_rfl) (by as_aux_lemma => kernel_rfl) (by as_aux_lemma => kernel_rfl) (fun _ _ _ h => h) (Or.inl ⟨by rfl, fun W hS => by go_simp⟩) HS.out ?_
      simp only [Act.put, List.setIfInBounds_toArray, List.set_cons_zero, List.set_cons_succ]
      refine wpAnyH_take (i := 1) (oi := ⟨some 21, _, _, _, _, _⟩) (v := .int .i64 j) rfl (by as_aux_lemma => kernel_rfl) (by as_aux_lemma => kernel_rfl) (by as_aux_lemma => kernel_rfl) (fun _ _ _ h => h) (Or.inl ⟨by rfl, fun W hS => by go_simp⟩) HS.out ?_
      simp only [Act.put, List.setIfInBounds_toArray, List.set_cons_zero, List.set_cons_succ]
      refine wpAnyH_take (i := 2) (oi := ⟨some 22, _, _, _, _, _⟩) (v := .pointer (some ⟨g, j * 8, none⟩)) rfl (by as_aux_lemma => kernel_rfl) (by as_aux_lemma => kernel_rfl) (by as_aux_lemma => kernel_rfl) (fun _ _ _ h => h) (Or.inl ⟨by rfl, fun W hS => by go_simp⟩) HS.out ?_
      simp only [Act.put, List.setIfInBounds_toArray, List.set_cons_zero, List.set_cons_succ]
      refine wpAnyH_take (i := 3) (oi := ⟨some 23, _, _, _, _, _⟩) (v := .agg #[.int .i64 sc, .int .i64 sp, .string snm, .pointer a, .slice xo xl xc, .int .i64 sn, .slice ta tl tc, .slice ua ul uc]) rfl (by as_aux_lemma => kernel_rfl) (by as_aux_lemma => kernel_rfl) (by as_aux_lemma => kernel_rfl) (fun _ _ _ h => h) (Or.inl ⟨by rfl, fun W hS => by (have h0 := hS.x0; have h1 := hS.x1; have h2 := hS.x2; have h3 := hS.x3; have h4 := hS.x4; have h5 := hS.x5; have h6 := hS.x6; have h7 := hS.x7; simp only [Nat.add_zero] at h0; go_simp)⟩) HS.out ?_
      simp only [Act.put, List.setIfInBounds_toArray, List.set_cons_zero, List.set_cons_succ]
      refine wpAnyH_take (i := 4) (oi := ⟨some 24, _, _, _, _, _⟩) (v := .slice (some ⟨g2, 0, none⟩) l.length bc) rfl (by as_aux_lemma => kernel_rfl) (by as_aux_lemma => kernel_rfl) (by as_aux_lemma => kernel_rfl) (fun _ _ _ h => h) (Or.inl ⟨by rfl, fun W hS => by go_simp⟩) HS.out ?_
      simp only [Act.put, List.setIfInBounds_toArray, List.set_cons_zero, List.set_cons_succ]
      refine wpAnyH_take (i := 5) (oi := ⟨some 25, _, _, _, _, _⟩) (v := .int .i64 j) rfl (by as_aux_lemma => kernel_rfl) (by as_aux_lemma => kernel_rfl) (by as_aux_lemma => kernel_rfl) (fun _ _ _ h => h) (Or.inl ⟨by rfl, fun W hS => by go_simp⟩) HS.out ?_
      simp only [Act.put, List.setIfInBounds_toArray, List.set_cons_zero, List.set_cons_succ]
      refine wpAnyH_take (i := 6) (oi := ⟨some 26, _, _, _, _, _⟩) (v := .pointer (some ⟨g2, j * 8, none⟩)) rfl (by as_aux_lemma => kernel_rfl) (by as_aux_lemma => kernel_rfl) (by as_aux_lemma => kernel_rfl) (fun _ _ _ h => h) (Or.inl ⟨by rfl, fun W hS => by go_simp⟩) HS.out ?_
      simp only [Act.put, List.setIfInBounds_toArray, List.set_cons_zero, List.set_cons_succ]
      refine wpAnyH_take (i := 7) (oi := ⟨some 27, _, _, _, _, _⟩) (v := .agg #[.int .i64 sc, .int .i64 sp, .string snm, .pointer b, .slice yo xl yc, .int .i64 sn, .slice tb tl tc2, .slice ub ul uc2]) rfl (by as_aux_lemma => kernel_rfl) (by as_aux_lemma => kernel_rfl) (by as_aux_lemma => kernel_rfl) (fun _ _ _ h => h) (Or.inl ⟨by rfl, fun W hS => by (have h0 := hS.y0; have h1 := hS.y1; have h2 := hS.y2; have h3 := hS.y3; have h4 := hS.y4; have h5 := hS.y5; have h6 := hS.y6; have h7 := hS.y7; simp only [Nat.add_zero] at h0; go_simp)⟩) HS.out ?_
      simp only [Act.put, List.setIfInBounds_toArray, List.set_cons_zero, List.set_cons_succ]
      refine wpAnyH_ready (rs := [8, 9]) (by as_aux_lemma => kernel_rfl) (by simp) ?_
      refine AllReadyH.cons rfl (fun K hK => ?_) (AllReadyH.cons rfl (fun K hK => ?_) AllReadyH.nil)
      · skip
        go_simp
        have HBa : Hid (Below wr.heap.size wr (wr.alloc (.cells #[.int .i64 0, .int .i64 0, .string ⟨#[]⟩, .pointer none, .slice none 0 0, .int .i64 0, .slice none 0 0, .slice none 0 0] 68)).drew) := hide (below_alloc wr (.cells #[.int .i64 0, .int .i64 0, .string ⟨#[]⟩, .pointer none, .slice none 0 0, .int .i64 0, .slice none 0 0, .slice none 0 0] 68)).drew
        have HN0 : Hid ((wr.alloc (.cells #[.int .i64 0, .int .i64 0, .string ⟨#[]⟩, .pointer none, .slice none 0 0, .int .i64 0, .slice none 0 0, .slice none 0 0] 68)).drew.heap[wr.heap.size]? = some (.cells #[.int .i64 0, .int .i64 0, .string ⟨#[]⟩, .pointer none, .slice none 0 0, .int .i64 0, .slice none 0 0, .slice none 0 0] 68 (0, 0))) := hide (blk_new wr (.cells #[.int .i64 0, .int .i64 0, .string ⟨#[]⟩, .pointer none, .slice none 0 0, .int .i64 0, .slice none 0 0, .slice none 0 0] 68))
        have HZa : Hid ((wr.alloc (.cells #[.int .i64 0, .int .i64 0, .string ⟨#[]⟩, .pointer none, .slice none 0 0, .int .i64 0, .slice none 0 0, .slice none 0 0] 68)).drew.heap.size = wr.heap.size + 1) := hide (by simp)
        have HSa : Hid (TwoS g (j * 8) g2 (j * 8) sc sp sn snm a b xo yo ta tb ua ub xl xc yc tl tc tc2 ul uc uc2 (wr.alloc (.cells #[.int .i64 0, .int .i64 0, .string ⟨#[]⟩, .pointer none, .slice none 0 0, .int .i64 0, .slice none 0 0, .slice none 0 0] 68)).drew) := hide (HS.out.keep (below_cell (w := wr) HBa.out))
        refine hK.out _ _ HSa.out (fun _ => ?_)
        clear hK K
        generalize (wr.alloc (.cells #[.int .i64 0, .int .i64 0, .string ⟨#[]⟩, .pointer none, .slice none 0 0, .int .i64 0, .slice none 0 0, .slice none 0 0] 68)).drew = wa at *
        refine wpAnyH_ready (rs := [9]) (by as_aux_lemma => kernel_rfl) (by simp) ?_
        refine AllReadyH.cons rfl (fun K hK => ?_) AllReadyH.nil
        go_simp
        have HBb := hide (below_alloc wa (.cells #[.int .i64 0, .int .i64 0, .string ⟨#[]⟩, .pointer none, .slice none 0 0, .int .i64 0, .slice none 0 0, .slice none 0 0] 68))
        have HNb := hide (blk_new wa (.cells #[.int .i64 0, .int .i64 0, .string ⟨#[]⟩, .pointer none, .slice none 0 0, .int .i64 0, .slice none 0 0, .slice none 0 0] 68))
        have HSb : Hid (TwoS g (j * 8) g2 (j * 8) sc sp sn snm a b xo yo ta tb ua ub xl xc yc tl tc tc2 ul uc uc2 (wa.alloc (.cells #[.int .i64 0, .int .i64 0, .string ⟨#[]⟩, .pointer none, .slice none 0 0, .int .i64 0, .slice none 0 0, .slice none 0 0] 68))) := hide (HSa.out.keep (below_cell HBb.out))
        refine hK.out _ _ HSb.out (fun _ => ?_)
        clear hK K
        have HN1 := hide (Below.blk HBb.out HN0.out)
        have HBw : Hid (Below wr.heap.size wr (wa.alloc (.cells #[.int .i64 0, .int .i64 0, .string ⟨#[]⟩, .pointer none, .slice none 0 0, .int .i64 0, .slice none 0 0, .slice none 0 0] 68))) := hide (Below.step HBa.out HBb.out)
        generalize wa.alloc (.cells #[.int .i64 0, .int .i64 0, .string ⟨#[]⟩, .pointer none, .slice none 0 0, .int .i64 0, .slice none 0 0, .slice none 0 0] 68) = wb at *
        have HX1 := HN1
        have HY1 := HNb
        have hza := HZa.out
        clear HN0 HN1 HNb HZa HBa HBb HSa
        obtain ⟨X, hXe⟩ : ∃ X, X = wr.heap.size := ⟨_, rfl⟩
        obtain ⟨Y, hYe⟩ : ∃ Y, Y = wa.heap.size := ⟨_, rfl⟩
        rw [← hXe] at HX1
        rw [← hYe] at HY1
        rw [← hXe, ← hYe]
        have HXW : Hid (wr.heap.size ≤ X) := hide (by omega)
        have HYW : Hid (wr.heap.size ≤ Y) := hide (by omega)
        have HXY : Hid (X ≠ Y) := hide (by omega)
        clear hXe hYe hza
        have z0 : wb.cell? ⟨X, 0, none⟩ = some (.int .i64 0) := by rw [blk_cell HX1.out]; rfl
        have z1 : wb.cell? ⟨X, 1, none⟩ = some (.int .i64 0) := by rw [blk_cell HX1.out]; rfl
        have z2 : wb.cell? ⟨X, 2, none⟩ = some (.string ⟨#[]⟩) := by rw [blk_cell HX1.out]; rfl
        have z3 : wb.cell? ⟨X, 3, none⟩ = some (.pointer none) := by rw [blk_cell HX1.out]; rfl
        have z4 : wb.cell? ⟨X, 4, none⟩ = some (.slice none 0 0) := by rw [blk_cell HX1.out]; rfl
        have z5 : wb.cell? ⟨X, 5, none⟩ = some (.int .i64 0) := by rw [blk_cell HX1.out]; rfl
        have z6 : wb.cell? ⟨X, 6, none⟩ = some (.slice none 0 0) := by rw [blk_cell HX1.out]; rfl
        have z7 : wb.cell? ⟨X, 7, none⟩ = some (.slice none 0 0) := by rw [blk_cell HX1.out]; rfl
        have zf : ∀ i, wb.frozen? ⟨X, i, none⟩ = false := blk_frozen HX1.out
        refine wpAnyH_ready (rs := [10]) (by as_aux_lemma => kernel_rfl) (by simp) ?_
        refine AllReadyH.cons rfl (fun K hK => ?_) AllReadyH.nil
        go_simp
        have HX2 := hide (zero_set HX1.out (.int .i64 sc) (.int .i64 sp) (.string snm) (.pointer a) (.slice xo xl xc) (.int .i64 sn) (.slice ta tl tc) (.slice ua ul uc))
        have HY2 := hide ((put8_other wb (.int .i64 sc) (.int .i64 sp) (.string snm) (.pointer a) (.slice xo xl xc) (.int .i64 sn) (.slice ta tl tc) (.slice ua ul uc) (Ne.symm HXY.out)).trans HY1.out)
        have HBc := hide (below_put8 HBw.out HXW.out (.int .i64 sc) (.int .i64 sp) (.string snm) (.pointer a) (.slice xo xl xc) (.int .i64 sn) (.slice ta tl tc) (.slice ua ul uc))
        have HSc : Hid (TwoS g (j * 8) g2 (j * 8) sc sp sn snm a b xo yo ta tb ua ub xl xc yc tl tc tc2 ul uc uc2 (put8 wb X (.int .i64 sc) (.int .i64 sp) (.string snm) (.pointer a) (.slice xo xl xc) (.int .i64 sn) (.slice ta tl tc) (.slice ua ul uc))) := hide (HS.out.keep (below_cell (w := wr) HBc.out))
        refine hK.out _ (put8 wb X (.int .i64 sc) (.int .i64 sp) (.string snm) (.pointer a) (.slice xo xl xc) (.int .i64 sn) (.slice ta tl tc) (.slice ua ul uc)) HSc.out (fun _ => ?_)
        clear hK K z0 z1 z2 z3 z4 z5 z6 z7 zf
        generalize put8 wb X (.int .i64 sc) (.int .i64 sp) (.string snm) (.pointer a) (.slice xo xl xc) (.int .i64 sn) (.slice ta tl tc) (.slice ua ul uc) = wc at *
        have z0 : wc.cell? ⟨Y, 0, none⟩ = some (.int .i64 0) := by rw [blk_cell HY2.out]; rfl
        have z1 : wc.cell? ⟨Y, 1, none⟩ = some (.int .i64 0) := by rw [blk_cell HY2.out]; rfl
        have z2 : wc.cell? ⟨Y, 2, none⟩ = some (.string ⟨#[]⟩) := by rw [blk_cell HY2.out]; rfl
        have z3 : wc.cell? ⟨Y, 3, none⟩ = some (.pointer none) := by rw [blk_cell HY2.out]; rfl
        have z4 : wc.cell? ⟨Y, 4, none⟩ = some (.slice none 0 0) := by rw [blk_cell HY2.out]; rfl
        have z5 : wc.cell? ⟨Y, 5, none⟩ = some (.int .i64 0) := by rw [blk_cell HY2.out]; rfl
        have z6 : wc.cell? ⟨Y, 6, none⟩ = some (.slice none 0 0) := by rw [blk_cell HY2.out]; rfl
        have z7 : wc.cell? ⟨Y, 7, none⟩ = some (.slice none 0 0) := by rw [blk_cell HY2.out]; rfl
        have zf : ∀ i, wc.frozen? ⟨Y, i, none⟩ = false := blk_frozen HY2.out
        refine wpAnyH_ready (rs := [11]) (by as_aux_lemma => kernel_rfl) (by simp) ?_
        refine AllReadyH.cons rfl (fun K hK => ?_) AllReadyH.nil
        go_simp
        have HY3 := hide (zero_set HY2.out (.int .i64 sc) (.int .i64 sp) (.string snm) (.pointer b) (.slice yo xl yc) (.int .i64 sn) (.slice tb tl tc2) (.slice ub ul uc2))
        have HX3 := hide ((put8_other wc (.int .i64 sc) (.int .i64 sp) (.string snm) (.pointer b) (.slice yo xl yc) (.int .i64 sn) (.slice tb tl tc2) (.slice ub ul uc2) HXY.out).trans HX2.out)
        have HBd := hide (below_put8 HBc.out HYW.out (.int .i64 sc) (.int .i64 sp) (.string snm) (.pointer b) (.slice yo xl yc) (.int .i64 sn) (.slice tb tl tc2) (.slice ub ul uc2))
        have HSd : Hid (TwoS g (j * 8) g2 (j * 8) sc sp sn snm a b xo yo ta tb ua ub xl xc yc tl tc tc2 ul uc uc2 (put8 wc Y (.int .i64 sc) (.int .i64 sp) (.string snm) (.pointer b) (.slice yo xl yc) (.int .i64 sn) (.slice tb tl tc2) (.slice ub ul uc2))) := hide (HS.out.keep (below_cell (w := wr) HBd.out))
        refine hK.out _ (put8 wc Y (.int .i64 sc) (.int .i64 sp) (.string snm) (.pointer b) (.slice yo xl yc) (.int .i64 sn) (.slice tb tl tc2) (.slice ub ul uc2)) HSd.out (fun _ => ?_)
        clear hK K z0 z1 z2 z3 z4 z5 z6 z7 zf
        generalize put8 wc Y (.int .i64 sc) (.int .i64 sp) (.string snm) (.pointer b) (.slice yo xl yc) (.int .i64 sn) (.slice tb tl tc2) (.slice ub ul uc2) = wd at *
        refine wpAnyH_done (by as_aux_lemma => kernel_rfl) ?_ _
        have HQ : Hid (TwoS X 0 Y 0 sc sp sn snm a b xo yo ta tb ua ub xl xc yc tl tc tc2 ul uc uc2 wd) := hide ⟨by rw [blk_cell HX3.out]; rfl, by rw [blk_cell HX3.out]; rfl, by rw [blk_cell HX3.out]; rfl, by rw [blk_cell HX3.out]; rfl, by rw [blk_cell HX3.out]; rfl, by rw [blk_cell HX3.out]; rfl, by rw [blk_cell HX3.out]; rfl, by rw [blk_cell HX3.out]; rfl, by rw [blk_cell HY3.out]; rfl, by rw [blk_cell HY3.out]; rfl, by rw [blk_cell HY3.out]; rfl, by rw [blk_cell HY3.out]; rfl, by rw [blk_cell HY3.out]; rfl, by rw [blk_cell HY3.out]; rfl, by rw [blk_cell HY3.out]; rfl, by rw [blk_cell HY3.out]; rfl⟩
        clear HX1 HY1 HX2 HY2 HX3 HY3 HSb HSc HSd HBw HBc HS HXW HYW HXY
        obtain ⟨x0, x1, x2, x3, x4, x5, x6, x7, y0, y1, y2, y3, y4, y5, y6, y7⟩ := HQ.out
        simp only [Nat.zero_add] at x0 x1 x2 x3 x4 x5 x6 x7 y0 y1 y2 y3 y4 y5 y6 y7
        go_wp2_with fail
        refine (HE.out wd HBd.out).mono ?_
        rintro e w1 ⟨rfl, m1, rfl⟩
        have HB1 := hide (below_drewN HBd.out m1)
        have HQ1 : Hid (TwoS X 0 Y 0 sc sp sn snm a b xo yo ta tb ua ub xl xc yc tl tc tc2 ul uc uc2 (wd.drewN m1)) := hide (HQ.out.keep fun _ _ h => h)
        generalize wd.drewN m1 = w1 at HB1 HQ1 ⊢
        clear x0 x1 x2 x3 x4 x5 x6 x7 y0 y1 y2 y3 y4 y5 y6 y7 HQ HBd HE
        obtain ⟨x0, x1, x2, x3, x4, x5, x6, x7, y0, y1, y2, y3, y4, y5, y6, y7⟩ := HQ1.out
        simp only [Nat.zero_add] at x0 x1 x2 x3 x4 x5 x6 x7 y0 y1 y2 y3 y4 y5 y6 y7
        go_wp2_with fail
        refine (HT.out w1 HB1.out).mono ?_
        rintro e w2 ⟨rfl, hb2⟩
        have HB2 := hide (Below.step HB1.out hb2)
        have HQ2 := hide (HQ1.out.keep (below_cell hb2))
        clear x0 x1 x2 x3 x4 x5 x6 x7 y0 y1 y2 y3 y4 y5 y6 y7 hb2 HT
        obtain ⟨x0, x1, x2, x3, x4, x5, x6, x7, y0, y1, y2, y3, y4, y5, y6, y7⟩ := HQ2.out
        simp only [Nat.zero_add] at x0 x1 x2 x3 x4 x5 x6 x7 y0 y1 y2 y3 y4 y5 y6 y7
        go_wp2_with fail
        refine (HU.out w2 HB2.out).mono ?_
        rintro e w3 ⟨rfl, hb3⟩
        have HB3 := hide (Below.step HB2.out hb3)
        have HQ3 := hide (HQ2.out.keep (below_cell hb3))
        clear x0 x1 x2 x3 x4 x5 x6 x7 y0 y1 y2 y3 y4 y5 y6 y7 hb3 HU HQ1 HQ2 HB1 HB2
        go_wp2_with fail
        go_loopw [8] (fun i wk => ∃ k : Nat, k ≤ xl ∧ i = .int .i64 k ∧ Hid (Below w3.heap.size w3 wk)) (fun i _ => xl - (intOf i).toNat)
        case atStart => exact ⟨0, Nat.zero_le _, rfl, hide (Below.refl _ _)⟩
        case round =>
          obtain ⟨k, hk, rfl, hbk⟩ := hrel
          have HQ4 := hide (HQ3.out.keep (below_cell hbk.out))
          have x4 := HQ4.out.x4
          have y4 := HQ4.out.y4
          simp only [Nat.zero_add] at x4 y4
          have hxm : xl ≤ 1000000 := HSJ.out
          by_cases hlk : k < xl
          · have hki : (k : Int) < (xl : Int) := by omega
            obtain ⟨vs, hrow, hall⟩ := HXS.out wr (Below.step HB3.out hbk.out)
            obtain ⟨vs2, hrow2, hall2⟩ := HYS.out wr (Below.step HB3.out hbk.out)
            rw [hxl] at hrow hrow2
            obtain ⟨gx, cx, hvx, _⟩ := qrow_addr hrow (by omega)
            obtain ⟨rfl, rfl⟩ : xo = some ⟨gx, 0, none⟩ ∧ xc = cx := by cases hvx; exact ⟨rfl, rfl⟩
            obtain ⟨gy, cy, hvy, _⟩ := qrow_addr hrow2 (by omega)
            obtain ⟨rfl, rfl⟩ : yo = some ⟨gy, 0, none⟩ ∧ yc = cy := by cases hvy; exact ⟨rfl, rfl⟩
            obtain ⟨bx, hbx, hex⟩ := qexs_get hall k (by omega)
            obtain ⟨by', hby, hey⟩ := qexs_get hall2 k (by omega)
            have rx := qrow_cell hrow rfl hbx
            have ry := qrow_cell hrow2 rfl hby
            obtain ⟨PX, rfl⟩ := hex.ptr
            obtain ⟨PY, rfl⟩ := hey.ptr
            have HC : Hid (∀ m, Calls Tryz.prog 24 #[.pointer (some ⟨PX, 0, none⟩), .pointer (some ⟨PY, 0, none⟩)] (wr.drewN m) (Yes (wr.drewN m))) := hide fun m => sameExpr_at _ S S' (wr.drewN m) _ _ (hex.drawn rfl) (hey.drawn rfl)
            clear hvx hvy hrow hrow2 hall hall2 hbx hby hex hey HQ4
            go_wp2_with fail
            go_quiet ((go_at_call 24; exact Calls.quiet_of (HC.out _)))
            go_wp2_with fail
            exact ⟨⟨k + 1, by omega, by go_num, hide (below_drewN hbk.out _)⟩, by simp [intOf]; omega⟩
          · have hki : ¬ (k : Int) < (xl : Int) := by omega
            have HB9 := hide (Below.step hbw.out (Below.step HB3.out hbk.out))
            clear HQ4
            go_wp2_with fail
            exact ⟨⟨j + 1, by omega, by go_num, HB9⟩, by simp [intOf]; omega⟩
      · skip
        go_simp
        have HBa : Hid (Below wr.heap.size wr (wr.alloc (.cells #[.int .i64 0, .int .i64 0, .string ⟨#[]⟩, .pointer none, .slice none 0 0, .int .i64 0, .slice none 0 0, .slice none 0 0] 68)).drew) := hide (below_alloc wr (.cells #[.int .i64 0, .int .i64 0, .string ⟨#[]⟩, .pointer none, .slice none 0 0, .int .i64 0, .slice none 0 0, .slice none 0 0] 68)).drew
        have HN0 : Hid ((wr.alloc (.cells #[.int .i64 0, .int .i64 0, .string ⟨#[]⟩, .pointer none, .slice none 0 0, .int .i64 0, .slice none 0 0, .slice none 0 0] 68)).drew.heap[wr.heap.size]? = some (.cells #[.int .i64 0, .int .i64 0, .string ⟨#[]⟩, .pointer none, .slice none 0 0, .int .i64 0, .slice none 0 0, .slice none 0 0] 68 (0, 0))) := hide (blk_new wr (.cells #[.int .i64 0, .int .i64 0, .string ⟨#[]⟩, .pointer none, .slice none 0 0, .int .i64 0, .slice none 0 0, .slice none 0 0] 68))
        have HZa : Hid ((wr.alloc (.cells #[.int .i64 0, .int .i64 0, .string ⟨#[]⟩, .pointer none, .slice none 0 0, .int .i64 0, .slice none 0 0, .slice none 0 0] 68)).drew.heap.size = wr.heap.size + 1) := hide (by simp)
        have HSa : Hid (TwoS g (j * 8) g2 (j * 8) sc sp sn snm a b xo yo ta tb ua ub xl xc yc tl tc tc2 ul uc uc2 (wr.alloc (.cells #[.int .i64 0, .int .i64 0, .string ⟨#[]⟩, .pointer none, .slice none 0 0, .int .i64 0, .slice none 0 0, .slice none 0 0] 68)).drew) := hide (HS.out.keep (below_cell (w := wr) HBa.out))
        refine hK.out _ _ HSa.out (fun _ => ?_)
        clear hK K
        generalize (wr.alloc (.cells #[.int .i64 0, .int .i64 0, .string ⟨#[]⟩, .pointer none, .slice none 0 0, .int .i64 0, .slice none 0 0, .slice none 0 0] 68)).drew = wa at *
        refine wpAnyH_ready (rs := [8]) (by as_aux_lemma => kernel_rfl) (by simp) ?_
        refine AllReadyH.cons rfl (fun K hK => ?_) AllReadyH.nil
        go_simp
        have HBb := hide (below_alloc wa (.cells #[.int .i64 0, .int .i64 0, .string ⟨#[]⟩, .pointer none, .slice none 0 0, .int .i64 0, .slice none 0 0, .slice none 0 0] 68))
        have HNb := hide (blk_new wa (.cells #[.int .i64 0, .int .i64 0, .string ⟨#[]⟩, .pointer none, .slice none 0 0, .int .i64 0, .slice none 0 0, .slice none 0 0] 68))
        have HSb : Hid (TwoS g (j * 8) g2 (j * 8) sc sp sn snm a b xo yo ta tb ua ub xl xc yc tl tc tc2 ul uc uc2 (wa.alloc (.cells #[.int .i64 0, .int .i64 0, .string ⟨#[]⟩, .pointer none, .slice none 0 0, .int .i64 0, .slice none 0 0, .slice none 0 0] 68))) := hide (HSa.out.keep (below_cell HBb.out))
        refine hK.out _ _ HSb.out (fun _ => ?_)
        clear hK K
        have HN1 := hide (Below.blk HBb.out HN0.out)
        have HBw : Hid (Below wr.heap.size wr (wa.alloc (.cells #[.int .i64 0, .int .i64 0, .string ⟨#[]⟩, .pointer none, .slice none 0 0, .int .i64 0, .slice none 0 0, .slice none 0 0] 68))) := hide (Below.step HBa.out HBb.out)
        generalize wa.alloc (.cells #[.int .i64 0, .int .i64 0, .string ⟨#[]⟩, .pointer none, .slice none 0 0, .int .i64 0, .slice none 0 0, .slice none 0 0] 68) = wb at *
        have HX1 := HNb
        have HY1 := HN1
        have hza := HZa.out
        clear HN0 HN1 HNb HZa HBa HBb HSa
        obtain ⟨X, hXe⟩ : ∃ X, X = wa.heap.size := ⟨_, rfl⟩
        obtain ⟨Y, hYe⟩ : ∃ Y, Y = wr.heap.size := ⟨_, rfl⟩
        rw [← hXe] at HX1
        rw [← hYe] at HY1
        rw [← hXe, ← hYe]
        have HXW : Hid (wr.heap.size ≤ X) := hide (by omega)
        have HYW : Hid (wr.heap.size ≤ Y) := hide (by omega)
        have HXY : Hid (X ≠ Y) := hide (by omega)
        clear hXe hYe hza
        have z0 : wb.cell? ⟨X, 0, none⟩ = some (.int .i64 0) := by rw [blk_cell HX1.out]; rfl
        have z1 : wb.cell? ⟨X, 1, none⟩ = some (.int .i64 0) := by rw [blk_cell HX1.out]; rfl
        have z2 : wb.cell? ⟨X, 2, none⟩ = some (.string ⟨#[]⟩) := by rw [blk_cell HX1.out]; rfl
        have z3 : wb.cell? ⟨X, 3, none⟩ = some (.pointer none) := by rw [blk_cell HX1.out]; rfl
        have z4 : wb.cell? ⟨X, 4, none⟩ = some (.slice none 0 0) := by rw [blk_cell HX1.out]; rfl
        have z5 : wb.cell? ⟨X, 5, none⟩ = some (.int .i64 0) := by rw [blk_cell HX1.out]; rfl
        have z6 : wb.cell? ⟨X, 6, none⟩ = some (.slice none 0 0) := by rw [blk_cell HX1.out]; rfl
        have z7 : wb.cell? ⟨X, 7, none⟩ = some (.slice none 0 0) := by rw [blk_cell HX1.out]; rfl
        have zf : ∀ i, wb.frozen? ⟨X, i, none⟩ = false := blk_frozen HX1.out
        refine wpAnyH_ready (rs := [10]) (by as_aux_lemma => kernel_rfl) (by simp) ?_
        refine AllReadyH.cons rfl (fun K hK => ?_) AllReadyH.nil
        go_simp
        have HX2 := hide (zero_set HX1.out (.int .i64 sc) (.int .i64 sp) (.string snm) (.pointer a) (.slice xo xl xc) (.int .i64 sn) (.slice ta tl tc) (.slice ua ul uc))
        have HY2 := hide ((put8_other wb (.int .i64 sc) (.int .i64 sp) (.string snm) (.pointer a) (.slice xo xl xc) (.int .i64 sn) (.slice ta tl tc) (.slice ua ul uc) (Ne.symm HXY.out)).trans HY1.out)
        have HBc := hide (below_put8 HBw.out HXW.out (.int .i64 sc) (.int .i64 sp) (.string snm) (.pointer a) (.slice xo xl xc) (.int .i64 sn) (.slice ta tl tc) (.slice ua ul uc))
        have HSc : Hid (TwoS g (j * 8) g2 (j * 8) sc sp sn snm a b xo yo ta tb ua ub xl xc yc tl tc tc2 ul uc uc2 (put8 wb X (.int .i64 sc) (.int .i64 sp) (.string snm) (.pointer a) (.slice xo xl xc) (.int .i64 sn) (.slice ta tl tc) (.slice ua ul uc))) := hide (HS.out.keep (below_cell (w := wr) HBc.out))
        refine hK.out _ (put8 wb X (.int .i64 sc) (.int .i64 sp) (.string snm) (.pointer a) (.slice xo xl xc) (.int .i64 sn) (.slice ta tl tc) (.slice ua ul uc)) HSc.out (fun _ => ?_)
        clear hK K z0 z1 z2 z3 z4 z5 z6 z7 zf
        generalize put8 wb X (.int .i64 sc) (.int .i64 sp) (.string snm) (.pointer a) (.slice xo xl xc) (.int .i64 sn) (.slice ta tl tc) (.slice ua ul uc) = wc at *
        have z0 : wc.cell? ⟨Y, 0, none⟩ = some (.int .i64 0) := by rw [blk_cell HY2.out]; rfl
        have z1 : wc.cell? ⟨Y, 1, none⟩ = some (.int .i64 0) := by rw [blk_cell HY2.out]; rfl
        have z2 : wc.cell? ⟨Y, 2, none⟩ = some (.string ⟨#[]⟩) := by rw [blk_cell HY2.out]; rfl
        have z3 : wc.cell? ⟨Y, 3, none⟩ = some (.pointer none) := by rw [blk_cell HY2.out]; rfl
        have z4 : wc.cell? ⟨Y, 4, none⟩ = some (.slice none 0 0) := by rw [blk_cell HY2.out]; rfl
        have z5 : wc.cell? ⟨Y, 5, none⟩ = some (.int .i64 0) := by rw [blk_cell HY2.out]; rfl
        have z6 : wc.cell? ⟨Y, 6, none⟩ = some (.slice none 0 0) := by rw [blk_cell HY2.out]; rfl
        have z7 : wc.cell? ⟨Y, 7, none⟩ = some (.slice none 0 0) := by rw [blk_cell HY2.out]; rfl
        have zf : ∀ i, wc.frozen? ⟨Y, i, none⟩ = false := blk_frozen HY2.out
        refine wpAnyH_ready (rs := [11]) (by as_aux_lemma => kernel_rfl) (by simp) ?_
        refine AllReadyH.cons rfl (fun K hK => ?_) AllReadyH.nil
        go_simp
        have HY3 := hide (zero_set HY2.out (.int .i64 sc) (.int .i64 sp) (.string snm) (.pointer b) (.slice yo xl yc) (.int .i64 sn) (.slice tb tl tc2) (.slice ub ul uc2))
        have HX3 := hide ((put8_other wc (.int .i64 sc) (.int .i64 sp) (.string snm) (.pointer b) (.slice yo xl yc) (.int .i64 sn) (.slice tb tl tc2) (.slice ub ul uc2) HXY.out).trans HX2.out)
        have HBd := hide (below_put8 HBc.out HYW.out (.int .i64 sc) (.int .i64 sp) (.string snm) (.pointer b) (.slice yo xl yc) (.int .i64 sn) (.slice tb tl tc2) (.slice ub ul uc2))
        have HSd : Hid (TwoS g (j * 8) g2 (j * 8) sc sp sn snm a b xo yo ta tb ua ub xl xc yc tl tc tc2 ul uc uc2 (put8 wc Y (.int .i64 sc) (.int .i64 sp) (.string snm) (.pointer b) (.slice yo xl yc) (.int .i64 sn) (.slice tb tl tc2) (.slice ub ul uc2))) := hide (HS.out.keep (below_cell (w := wr) HBd.out))
        refine hK.out _ (put8 wc Y (.int .i64 sc) (.int .i64 sp) (.string snm) (.pointer b) (.slice yo xl yc) (.int .i64 sn) (.slice tb tl tc2) (.slice ub ul uc2)) HSd.out (fun _ => ?_)
        clear hK K z0 z1 z2 z3 z4 z5 z6 z7 zf
        generalize put8 wc Y (.int .i64 sc) (.int .i64 sp) (.string snm) (.pointer b) (.slice yo xl yc) (.int .i64 sn) (.slice tb tl tc2) (.slice ub ul uc2) = wd at *
        refine wpAnyH_done (by as_aux_lemma => kernel_rfl) ?_ _
        have HQ : Hid (TwoS X 0 Y 0 sc sp sn snm a b xo yo ta tb ua ub xl xc yc tl tc tc2 ul uc uc2 wd) := hide ⟨by rw [blk_cell HX3.out]; rfl, by rw [blk_cell HX3.out]; rfl, by rw [blk_cell HX3.out]; rfl, by rw [blk_cell HX3.out]; rfl, by rw [blk_cell HX3.out]; rfl, by rw [blk_cell HX3.out]; rfl, by rw [blk_cell HX3.out]; rfl, by rw [blk_cell HX3.out]; rfl, by rw [blk_cell HY3.out]; rfl, by rw [blk_cell HY3.out]; rfl, by rw [blk_cell HY3.out]; rfl, by rw [blk_cell HY3.out]; rfl, by rw [blk_cell HY3.out]; rfl, by rw [blk_cell HY3.out]; rfl, by rw [blk_cell HY3.out]; rfl, by rw [blk_cell HY3.out]; rfl⟩
        clear HX1 HY1 HX2 HY2 HX3 HY3 HSb HSc HSd HBw HBc HS HXW HYW HXY
        obtain ⟨x0, x1, x2, x3, x4, x5, x6, x7, y0, y1, y2, y3, y4, y5, y6, y7⟩ := HQ.out
        simp only [Nat.zero_add] at x0 x1 x2 x3 x4 x5 x6 x7 y0 y1 y2 y3 y4 y5 y6 y7
        go_wp2_with fail
        refine (HE.out wd HBd.out).mono ?_
        rintro e w1 ⟨rfl, m1, rfl⟩
        have HB1 := hide (below_drewN HBd.out m1)
        have HQ1 : Hid (TwoS X 0 Y 0 sc sp sn snm a b xo yo ta tb ua ub xl xc yc tl tc tc2 ul uc uc2 (wd.drewN m1)) := hide (HQ.out.keep fun _ _ h => h)
        generalize wd.drewN m1 = w1 at HB1 HQ1 ⊢
        clear x0 x1 x2 x3 x4 x5 x6 x7 y0 y1 y2 y3 y4 y5 y6 y7 HQ HBd HE
        obtain ⟨x0, x1, x2, x3, x4, x5, x6, x7, y0, y1, y2, y3, y4, y5, y6, y7⟩ := HQ1.out
        simp only [Nat.zero_add] at x0 x1 x2 x3 x4 x5 x6 x7 y0 y1 y2 y3 y4 y5 y6 y7
        go_wp2_with fail
        refine (HT.out w1 HB1.out).mono ?_
        rintro e w2 ⟨rfl, hb2⟩
        have HB2 := hide (Below.step HB1.out hb2)
        have HQ2 := hide (HQ1.out.keep (below_cell hb2))
        clear x0 x1 x2 x3 x4 x5 x6 x7 y0 y1 y2 y3 y4 y5 y6 y7 hb2 HT
        obtain ⟨x0, x1, x2, x3, x4, x5, x6, x7, y0, y1, y2, y3, y4, y5, y6, y7⟩ := HQ2.out
        simp only [Nat.zero_add] at x0 x1 x2 x3 x4 x5 x6 x7 y0 y1 y2 y3 y4 y5 y6 y7
        go_wp2_with fail
        refine (HU.out w2 HB2.out).mono ?_
        rintro e w3 ⟨rfl, hb3⟩
        have HB3 := hide (Below.step HB2.out hb3)
        have HQ3 := hide (HQ2.out.keep (below_cell hb3))
        clear x0 x1 x2 x3 x4 x5 x6 x7 y0 y1 y2 y3 y4 y5 y6 y7 hb3 HU HQ1 HQ2 HB1 HB2
        go_wp2_with fail
        go_loopw [8] (fun i wk => ∃ k : Nat, k ≤ xl ∧ i = .int .i64 k ∧ Hid (Below w3.heap.size w3 wk)) (fun i _ => xl - (intOf i).toNat)
        case atStart => exact ⟨0, Nat.zero_le _, rfl, hide (Below.refl _ _)⟩
        case round =>
          obtain ⟨k, hk, rfl, hbk⟩ := hrel
          have HQ4 := hide (HQ3.out.keep (below_cell hbk.out))
          have x4 := HQ4.out.x4
          have y4 := HQ4.out.y4
          simp only [Nat.zero_add] at x4 y4
          have hxm : xl ≤ 1000000 := HSJ.out
          by_cases hlk : k < xl
          · have hki : (k : Int) < (xl : Int) := by omega
            obtain ⟨vs, hrow, hall⟩ := HXS.out wr (Below.step HB3.out hbk.out)
            obtain ⟨vs2, hrow2, hall2⟩ := HYS.out wr (Below.step HB3.out hbk.out)
            rw [hxl] at hrow hrow2
            obtain ⟨gx, cx, hvx, _⟩ := qrow_addr hrow (by omega)
            obtain ⟨rfl, rfl⟩ : xo = some ⟨gx, 0, none⟩ ∧ xc = cx := by cases hvx; exact ⟨rfl, rfl⟩
            obtain ⟨gy, cy, hvy, _⟩ := qrow_addr hrow2 (by omega)
            obtain ⟨rfl, rfl⟩ : yo = some ⟨gy, 0, none⟩ ∧ yc = cy := by cases hvy; exact ⟨rfl, rfl⟩
            obtain ⟨bx, hbx, hex⟩ := qexs_get hall k (by omega)
            obtain ⟨by', hby, hey⟩ := qexs_get hall2 k (by omega)
            have rx := qrow_cell hrow rfl hbx
            have ry := qrow_cell hrow2 rfl hby
            obtain ⟨PX, rfl⟩ := hex.ptr
            obtain ⟨PY, rfl⟩ := hey.ptr
            have HC : Hid (∀ m, Calls Tryz.prog 24 #[.pointer (some ⟨PX, 0, none⟩), .pointer (some ⟨PY, 0, none⟩)] (wr.drewN m) (Yes (wr.drewN m))) := hide fun m => sameExpr_at _ S S' (wr.drewN m) _ _ (hex.drawn rfl) (hey.drawn rfl)
            clear hvx hvy hrow hrow2 hall hall2 hbx hby hex hey HQ4
            go_wp2_with fail
            go_quiet ((go_at_call 24; exact Calls.quiet_of (HC.out _)))
            go_wp2_with fail
            exact ⟨⟨k + 1, by omega, by go_num, hide (below_drewN hbk.out _)⟩, by simp [intOf]; omega⟩
          · have hki : ¬ (k : Int) < (xl : Int) := by omega
            have HB9 := hide (Below.step hbw.out (Below.step HB3.out hbk.out))
            clear HQ4
            go_wp2_with fail
            exact ⟨⟨j + 1, by omega, by go_num, HB9⟩, by simp [intOf]; omega⟩
    · have hji : ¬ (j : Int) < (l.length : Int) := by omega
      go_wp2_with fail
      go_ret
      exact ⟨rfl, hbw.out⟩
end Go.Proofs.YtlbgdoajaplabaaGreatDoor
