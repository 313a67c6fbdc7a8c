/-
  CONTRACT of the insertion sort of ways. (Written by mkwso.py.)
  CONTRACTS of the stable sort of at most nineteen ways.
-/
import Derived.Test.YtacgepdmhdcdkaaLWy
set_option linter.unusedSimpArgs false
set_option linter.unusedVariables false
namespace Go.Proofs.Ytacgepdmhdcdkaa
open Go.RowKit

set_option maxRecDepth 100000 in
set_option maxHeartbeats 12800000 in
theorem wsort_at {B g P : Nat} {w : World} {n cap : Nat} {l : List Wy} (h : OwnW B g w n cap l) (hn : n ≤ 100) (HE : Hid (∀ W, Kept g w W → ∀ x ∈ l, ∀ y ∈ l, Calls Try.prog 41 #[.pointer (some ⟨P, 0, none⟩), .agg #[.slice x.a x.l.ins.length x.c, .int .i64 x.l.table], .agg #[.slice y.a y.l.ins.length y.c, .int .i64 y.l.table]] W fun e w' => (∃ r : Int, e = .returned (.int .i64 r)) ∧ Below W.heap.size W w')) :
    Calls Try.prog 65 #[.slice (some ⟨g, 0, none⟩) n cap, .int .i64 0, .int .i64 n, .func (.func 41) #[.pointer (some ⟨P, 0, none⟩)] #[]] w fun e w' => e = .returned (.tuple #[]) ∧ (∃ l', OwnW B g w' n cap l' ∧ l'.Perm l) ∧ Kept g w w' := by
  have H := hide h
  clear h
  go_enter Try.func65, Try.ntmps65
  go_wp2_with fail
  go_loopw [8, 9] (fun i _ wr => ∃ (k : Nat) (l' : List Wy), i = .int .i64 k ∧ k ≤ n + 1 ∧ Hid (OwnW B g wr n cap l') ∧ Hid (l'.Perm l) ∧ Hid (Kept g w wr)) (fun i _ _ => n + 1 - (intOf i).toNat)
  case atStart => exact ⟨1, l, rfl, by omega, H, hide (List.Perm.refl _), hide (Kept.refl _ _)⟩
  case round =>
    obtain ⟨k, l1, rfl, hk1, ho, hp, hk⟩ := hrel
    by_cases hlt : k < n
    · have hki : (k : Int) < (n : Int) := by omega
      go_wp2_with fail
      rename World => wa
      go_loopw [9] (fun i wr => ∃ (j : Nat) (l' : List Wy), j ≤ k ∧ i = .int .i64 j ∧ Hid (OwnW B g wr n cap l') ∧ Hid (l'.Perm l) ∧ Hid (Kept g w wr)) (fun i _ => (intOf i).toNat)
      case atStart => exact ⟨k, l1, Nat.le_refl _, rfl, ho, hp, hk⟩
      case round =>
        clear ho hp hk
        obtain ⟨j, l', hj, rfl, ho, hp, hk⟩ := hrel
        have hlen := ho.out.len
        rcases j with _ | j
        · go_wp2_with fail
          go_quiet (fail)
          go_wp2_with fail
          exact ⟨⟨k + 1, l', by go_num, by omega, hide (ho.out.below (Below.drewNs (Below.refl _ _) _)), hp, hide (hk.out.below (Below.drewNs (Below.refl _ _) _))⟩, by simp [intOf]; omega⟩
        · have hj0 : (0 : Int) < ((j + 1 : Nat) : Int) := by omega
          have hjn : ((j + 1 : Nat) : Int) < (n : Int) := by omega
          have HXM : Hid (wyAt l' j ∈ l ∧ wyAt l' (j + 1) ∈ l) := hide (by
            have e1 : wyAt l' j = l'[j] := by simp [wyAt, show j < l'.length by omega]
            have e2 : wyAt l' (j + 1) = l'[j + 1] := by simp [wyAt, show j + 1 < l'.length by omega]
            rw [e1, e2]
            exact ⟨hp.out.mem_iff.1 (List.getElem_mem _), hp.out.mem_iff.1 (List.getElem_mem _)⟩)
          have q0 := (ho.out.cells (i := j) (by omega)).1
          have q1 := (ho.out.cells (i := j) (by omega)).2
          have q2 := (ho.out.cells (i := j + 1) (by omega)).1
          have q3 := (ho.out.cells (i := j + 1) (by omega)).2
          obtain ⟨x, hx⟩ : ∃ x, wyAt l' j = x := ⟨_, rfl⟩
          obtain ⟨y, hy⟩ : ∃ y, wyAt l' (j + 1) = y := ⟨_, rfl⟩
          have HXY : Hid (wyAt l' j = x ∧ wyAt l' (j + 1) = y) := hide ⟨hx, hy⟩
          rw [hx] at q0 q1
          rw [hy] at q2 q3
          rw [hx, hy] at HXM
          simp only [wy0, wy1] at q0 q1 q2 q3
          clear hx hy
          have HW := hide fun W (hW : Kept g w W) => HE.out W hW y HXM.out.2 x HXM.out.1
          have HSW : Hid (∀ W, Below wr.heap.size wr W → W.cell? ⟨g, j * 2, none⟩ = some (.slice x.a x.l.ins.length x.c) ∧ W.cell? ⟨g, j * 2 + 1, none⟩ = some (.int .i64 x.l.table) ∧ W.cell? ⟨g, (j + 1) * 2, none⟩ = some (.slice y.a y.l.ins.length y.c) ∧ W.cell? ⟨g, (j + 1) * 2 + 1, none⟩ = some (.int .i64 y.l.table)) := hide fun W hW => ⟨(hW.cell (cell_lt q0)).trans q0, (hW.cell (cell_lt q1)).trans q1, (hW.cell (cell_lt q2)).trans q2, (hW.cell (cell_lt q3)).trans q3⟩
          clear q0 q1 q2 q3
          have e1 : ¬ (n : Int) ≤ (j : Int) + 1 := by omega
          have e2 : ¬ n ≤ j := by omega
          have e3 : (0 : Int) ≤ (j : Int) + 1 := by omega
          have hwj : IntKind.i64.wrap (j : Int) = (j : Int) := wrap_id rfl (by omega) (by omega)
          go_wp2_with fail
          have HB1 : Hid (Below wr.heap.size wr wr.drew) := hide (Below.refl _ _).drew
          refine wp_region_held_drew (S := fun W => W.cell? ⟨g, j * 2, none⟩ = some (.slice x.a x.l.ins.length x.c) ∧ W.cell? ⟨g, j * 2 + 1, none⟩ = some (.int .i64 x.l.table) ∧ W.cell? ⟨g, (j + 1) * 2, none⟩ = some (.slice y.a y.l.ins.length y.c) ∧ W.cell? ⟨g, (j + 1) * 2 + 1, none⟩ = some (.int .i64 y.l.table)) (by kernel_rfl) (HSW.out _ HB1.out) (fun _ => ?_)
          generalize wr.drew = x1 at *
          refine wpAnyH_take (i := 0) (oi := ⟨some 18, _, _, _, _, _⟩) (v := (.int .i64 (j + 1 : Nat))) rfl (by kernel_rfl) (by kernel_rfl) (by kernel_rfl) (fun _ _ _ h => h) (Or.inl ⟨by rfl, fun W hS => by (obtain ⟨s0, s1, s2, s3⟩ := hS; go_simp)⟩) (HSW.out _ HB1.out) ?_
          simp only [Act.put, List.setIfInBounds_toArray, List.set_cons_zero, List.set_cons_succ]
          refine wpAnyH_take (i := 1) (oi := ⟨some 19, _, _, _, _, _⟩) (v := (.int .i64 0)) rfl (by kernel_rfl) (by kernel_rfl) (by kernel_rfl) (fun _ _ _ h => h) (Or.inl ⟨by rfl, fun W hS => by (obtain ⟨s0, s1, s2, s3⟩ := hS; go_simp)⟩) (HSW.out _ HB1.out) ?_
          simp only [Act.put, List.setIfInBounds_toArray, List.set_cons_zero, List.set_cons_succ]
          refine wpAnyH_take (i := 2) (oi := ⟨some 20, _, _, _, _, _⟩) (v := (.bool true)) rfl (by kernel_rfl) (by kernel_rfl) (by kernel_rfl) (fun _ _ _ h => h) (Or.inl ⟨by rfl, fun W hS => by (obtain ⟨s0, s1, s2, s3⟩ := hS; go_simp)⟩) (HSW.out _ HB1.out) ?_
          simp only [Act.put, List.setIfInBounds_toArray, List.set_cons_zero, List.set_cons_succ]
          refine wpAnyH_take (i := 3) (oi := ⟨some 21, _, _, _, _, _⟩) (v := (.bool true)) rfl (by kernel_rfl) (by kernel_rfl) (by kernel_rfl) (fun _ _ _ h => h) (Or.inl ⟨by rfl, fun W hS => by (obtain ⟨s0, s1, s2, s3⟩ := hS; go_simp)⟩) (HSW.out _ HB1.out) ?_
          simp only [Act.put, List.setIfInBounds_toArray, List.set_cons_zero, List.set_cons_succ]
          refine wpAnyH_take (i := 4) (oi := ⟨some 22, _, _, _, _, _⟩) (v := (.func (.func 41) #[.pointer (some ⟨P, 0, none⟩)] #[])) rfl (by kernel_rfl) (by kernel_rfl) (by kernel_rfl) (fun _ _ _ h => h) (Or.inl ⟨by rfl, fun W hS => by (obtain ⟨s0, s1, s2, s3⟩ := hS; go_simp)⟩) (HSW.out _ HB1.out) ?_
          simp only [Act.put, List.setIfInBounds_toArray, List.set_cons_zero, List.set_cons_succ]
          refine wpAnyH_take (i := 5) (oi := ⟨some 23, _, _, _, _, _⟩) (v := (.slice (some ⟨g, 0, none⟩) n cap)) rfl (by kernel_rfl) (by kernel_rfl) (by kernel_rfl) (fun _ _ _ h => h) (Or.inl ⟨by rfl, fun W hS => by (obtain ⟨s0, s1, s2, s3⟩ := hS; go_simp)⟩) (HSW.out _ HB1.out) ?_
          simp only [Act.put, List.setIfInBounds_toArray, List.set_cons_zero, List.set_cons_succ]
          refine wpAnyH_take (i := 6) (oi := ⟨some 24, _, _, _, _, _⟩) (v := (.int .i64 (j + 1 : Nat))) rfl (by kernel_rfl) (by kernel_rfl) (by kernel_rfl) (fun _ _ _ h => h) (Or.inl ⟨by rfl, fun W hS => by (obtain ⟨s0, s1, s2, s3⟩ := hS; go_simp)⟩) (HSW.out _ HB1.out) ?_
          simp only [Act.put, List.setIfInBounds_toArray, List.set_cons_zero, List.set_cons_succ]
          refine wpAnyH_take (i := 9) (oi := ⟨some 27, _, _, _, _, _⟩) (v := (.slice (some ⟨g, 0, none⟩) n cap)) rfl (by kernel_rfl) (by kernel_rfl) (by kernel_rfl) (fun _ _ _ h => h) (Or.inl ⟨by rfl, fun W hS => by (obtain ⟨s0, s1, s2, s3⟩ := hS; go_simp)⟩) (HSW.out _ HB1.out) ?_
          simp only [Act.put, List.setIfInBounds_toArray, List.set_cons_zero, List.set_cons_succ]
          refine wpAnyH_take (i := 10) (oi := ⟨some 28, _, _, _, _, _⟩) (v := (.int .i64 (j + 1 : Nat))) rfl (by kernel_rfl) (by kernel_rfl) (by kernel_rfl) (fun _ _ _ h => h) (Or.inl ⟨by rfl, fun W hS => by (obtain ⟨s0, s1, s2, s3⟩ := hS; go_simp)⟩) (HSW.out _ HB1.out) ?_
          simp only [Act.put, List.setIfInBounds_toArray, List.set_cons_zero, List.set_cons_succ]
          refine wpAnyH_take (i := 7) (oi := ⟨some 25, _, _, _, _, _⟩) (v := (.pointer (some ⟨g, (j + 1) * 2, none⟩))) rfl (by kernel_rfl) (by kernel_rfl) (by kernel_rfl) (fun _ _ _ h => h) (Or.inl ⟨by rfl, fun W hS => by (obtain ⟨s0, s1, s2, s3⟩ := hS; go_simp)⟩) (HSW.out _ HB1.out) ?_
          simp only [Act.put, List.setIfInBounds_toArray, List.set_cons_zero, List.set_cons_succ]
          refine wpAnyH_take (i := 11) (oi := ⟨some 29, _, _, _, _, _⟩) (v := (.int .i64 j)) rfl (by kernel_rfl) (by kernel_rfl) (by kernel_rfl) (fun _ _ _ h => h) (Or.inl ⟨by rfl, fun W hS => by (obtain ⟨s0, s1, s2, s3⟩ := hS; go_simp)⟩) (HSW.out _ HB1.out) ?_
          simp only [Act.put, List.setIfInBounds_toArray, List.set_cons_zero, List.set_cons_succ]
          refine wpAnyH_take (i := 8) (oi := ⟨some 26, _, _, _, _, _⟩) (v := (.agg #[.slice y.a y.l.ins.length y.c, .int .i64 y.l.table])) rfl (by kernel_rfl) (by kernel_rfl) (by kernel_rfl) (fun _ _ _ h => h) (Or.inl ⟨by rfl, fun W hS => by (obtain ⟨s0, s1, s2, s3⟩ := hS; go_simp)⟩) (HSW.out _ HB1.out) ?_
          simp only [Act.put, List.setIfInBounds_toArray, List.set_cons_zero, List.set_cons_succ]
          refine wpAnyH_take (i := 12) (oi := ⟨some 30, _, _, _, _, _⟩) (v := (.pointer (some ⟨g, j * 2, none⟩))) rfl (by kernel_rfl) (by kernel_rfl) (by kernel_rfl) (fun _ _ _ h => h) (Or.inl ⟨by rfl, fun W hS => by (obtain ⟨s0, s1, s2, s3⟩ := hS; go_simp)⟩) (HSW.out _ HB1.out) ?_
          simp only [Act.put, List.setIfInBounds_toArray, List.set_cons_zero, List.set_cons_succ]
          refine wpAnyH_take (i := 13) (oi := ⟨some 31, _, _, _, _, _⟩) (v := (.agg #[.slice x.a x.l.ins.length x.c, .int .i64 x.l.table])) rfl (by kernel_rfl) (by kernel_rfl) (by kernel_rfl) (fun _ _ _ h => h) (Or.inl ⟨by rfl, fun W hS => by (obtain ⟨s0, s1, s2, s3⟩ := hS; go_simp)⟩) (HSW.out _ HB1.out) ?_
          simp only [Act.put, List.setIfInBounds_toArray, List.set_cons_zero, List.set_cons_succ]
          refine wpAnyH_ready (rs := [14]) (by kernel_rfl) (by simp) ?_
          refine AllReadyH.cons rfl (fun K hK => ?_) AllReadyH.nil
          go_simp
          refine (HW.out _ (hk.out.below HB1.out)).mono ?_
          rintro e x2 ⟨⟨r, rfl⟩, hb⟩
          have HB2 := hide (Below.step HB1.out hb)
          clear hb
          refine hK.out _ _ (HSW.out _ HB2.out) (fun _ => ?_)
          clear hK K
          by_cases hr : r < 0
          · skip
            refine wpAnyH_take (i := 15) (oi := ⟨some 33, _, _, _, _, _⟩) (v := (.bool true)) rfl (by kernel_rfl) (by kernel_rfl) (by kernel_rfl) (fun _ _ _ h => h) (Or.inl ⟨by rfl, fun W hS => by (go_simp)⟩) (HSW.out _ HB2.out) ?_
            simp only [Act.put, List.setIfInBounds_toArray, List.set_cons_zero, List.set_cons_succ]
            refine wpAnyH_take (i := 16) (oi := ⟨some 34, _, _, _, _, _⟩) (v := (.bool true)) rfl (by kernel_rfl) (by kernel_rfl) (by kernel_rfl) (fun _ _ _ h => h) (Or.inl ⟨by rfl, fun W hS => by (go_simp)⟩) (HSW.out _ HB2.out) ?_
            simp only [Act.put, List.setIfInBounds_toArray, List.set_cons_zero, List.set_cons_succ]
            refine wpAnyH_done (by kernel_rfl) ?_ _
            have ho := hide (ho.out.below HB2.out)
            have hk := hide (hk.out.below HB2.out)
            clear HSW HB1 HB2 HW e1 e2 e3 hwj
            go_wp2_with fail
            refine wp_region_held_drew (S := fun _ => True) (by kernel_rfl) trivial (fun _ => ?_)
            have HO0 : Hid (OwnW B g x2.drew n cap l') := hide (ho.out.below (Below.refl _ _).drew)
            have HK0 : Hid (Kept g w x2.drew) := hide (hk.out.below (Below.refl _ _).drew)
            clear ho hk
            have e1 : ¬ (n : Int) ≤ (j : Int) + 1 := by omega
            have e2 : ¬ n ≤ j := by omega
            have e3 : (0 : Int) ≤ (j : Int) + 1 := by omega
            have hwj : IntKind.i64.wrap (j : Int) = (j : Int) := wrap_id rfl (by omega) (by omega)
            generalize x2.drew = x0 at *
            refine wpAnyH_take (i := 0) (oi := ⟨some 37, _, _, _, _, _⟩) (v := (.slice (some ⟨g, 0, none⟩) n cap)) rfl (by kernel_rfl) (by kernel_rfl) (by kernel_rfl) (fun _ _ _ h => h) (Or.inl ⟨by rfl, fun W hS => by (go_simp)⟩) trivial ?_
            simp only [Act.put, List.setIfInBounds_toArray, List.set_cons_zero, List.set_cons_succ]
            refine wpAnyH_take (i := 1) (oi := ⟨some 38, _, _, _, _, _⟩) (v := (.int .i64 (j + 1 : Nat))) rfl (by kernel_rfl) (by kernel_rfl) (by kernel_rfl) (fun _ _ _ h => h) (Or.inl ⟨by rfl, fun W hS => by (go_simp)⟩) trivial ?_
            simp only [Act.put, List.setIfInBounds_toArray, List.set_cons_zero, List.set_cons_succ]
            refine wpAnyH_take (i := 2) (oi := ⟨some 39, _, _, _, _, _⟩) (v := (.slice (some ⟨g, 0, none⟩) n cap)) rfl (by kernel_rfl) (by kernel_rfl) (by kernel_rfl) (fun _ _ _ h => h) (Or.inl ⟨by rfl, fun W hS => by (go_simp)⟩) trivial ?_
            simp only [Act.put, List.setIfInBounds_toArray, List.set_cons_zero, List.set_cons_succ]
            refine wpAnyH_take (i := 3) (oi := ⟨some 40, _, _, _, _, _⟩) (v := (.int .i64 (j + 1 : Nat))) rfl (by kernel_rfl) (by kernel_rfl) (by kernel_rfl) (fun _ _ _ h => h) (Or.inl ⟨by rfl, fun W hS => by (go_simp)⟩) trivial ?_
            simp only [Act.put, List.setIfInBounds_toArray, List.set_cons_zero, List.set_cons_succ]
            refine wpAnyH_take (i := 5) (oi := ⟨some 42, _, _, _, _, _⟩) (v := (.slice (some ⟨g, 0, none⟩) n cap)) rfl (by kernel_rfl) (by kernel_rfl) (by kernel_rfl) (fun _ _ _ h => h) (Or.inl ⟨by rfl, fun W hS => by (go_simp)⟩) trivial ?_
            simp only [Act.put, List.setIfInBounds_toArray, List.set_cons_zero, List.set_cons_succ]
            refine wpAnyH_take (i := 6) (oi := ⟨some 43, _, _, _, _, _⟩) (v := (.int .i64 (j + 1 : Nat))) rfl (by kernel_rfl) (by kernel_rfl) (by kernel_rfl) (fun _ _ _ h => h) (Or.inl ⟨by rfl, fun W hS => by (go_simp)⟩) trivial ?_
            simp only [Act.put, List.setIfInBounds_toArray, List.set_cons_zero, List.set_cons_succ]
            refine wpAnyH_take (i := 10) (oi := ⟨some 47, _, _, _, _, _⟩) (v := (.slice (some ⟨g, 0, none⟩) n cap)) rfl (by kernel_rfl) (by kernel_rfl) (by kernel_rfl) (fun _ _ _ h => h) (Or.inl ⟨by rfl, fun W hS => by (go_simp)⟩) trivial ?_
            simp only [Act.put, List.setIfInBounds_toArray, List.set_cons_zero, List.set_cons_succ]
            refine wpAnyH_take (i := 11) (oi := ⟨some 48, _, _, _, _, _⟩) (v := (.int .i64 (j + 1 : Nat))) rfl (by kernel_rfl) (by kernel_rfl) (by kernel_rfl) (fun _ _ _ h => h) (Or.inl ⟨by rfl, fun W hS => by (go_simp)⟩) trivial ?_
            simp only [Act.put, List.setIfInBounds_toArray, List.set_cons_zero, List.set_cons_succ]
            refine wpAnyH_take (i := 4) (oi := ⟨some 41, _, _, _, _, _⟩) (v := (.int .i64 j)) rfl (by kernel_rfl) (by kernel_rfl) (by kernel_rfl) (fun _ _ _ h => h) (Or.inl ⟨by rfl, fun W hS => by (go_simp)⟩) trivial ?_
            simp only [Act.put, List.setIfInBounds_toArray, List.set_cons_zero, List.set_cons_succ]
            refine wpAnyH_take (i := 7) (oi := ⟨some 44, _, _, _, _, _⟩) (v := (.int .i64 j)) rfl (by kernel_rfl) (by kernel_rfl) (by kernel_rfl) (fun _ _ _ h => h) (Or.inl ⟨by rfl, fun W hS => by (go_simp)⟩) trivial ?_
            simp only [Act.put, List.setIfInBounds_toArray, List.set_cons_zero, List.set_cons_succ]
            refine wpAnyH_take (i := 12) (oi := ⟨some 49, _, _, _, _, _⟩) (v := (.pointer (some ⟨g, (j + 1) * 2, none⟩))) rfl (by kernel_rfl) (by kernel_rfl) (by kernel_rfl) (fun _ _ _ h => h) (Or.inl ⟨by rfl, fun W hS => by (go_simp)⟩) trivial ?_
            simp only [Act.put, List.setIfInBounds_toArray, List.set_cons_zero, List.set_cons_succ]
            refine wpAnyH_take (i := 8) (oi := ⟨some 45, _, _, _, _, _⟩) (v := (.pointer (some ⟨g, j * 2, none⟩))) rfl (by kernel_rfl) (by kernel_rfl) (by kernel_rfl) (fun _ _ _ h => h) (Or.inl ⟨by rfl, fun W hS => by (go_simp)⟩) trivial ?_
            simp only [Act.put, List.setIfInBounds_toArray, List.set_cons_zero, List.set_cons_succ]
            refine wpAnyH_ready (rs := [9, 13]) (by kernel_rfl) (by simp) ?_
            refine AllReadyH.cons rfl (fun K hK => ?_) (AllReadyH.cons rfl (fun K hK => ?_) AllReadyH.nil)
            · skip
              obtain ⟨k1, k2⟩ := HO0.out.cells (i := j) (by omega)
              rw [HXY.out.1] at k1 k2
              simp only [wy0, wy1] at k1 k2
              go_simp
              clear k1 k2
              refine hK.out _ _ trivial (fun _ => ?_)
              clear hK K
              refine wpAnyH_ready (rs := [13]) (by kernel_rfl) (by simp) ?_
              refine AllReadyH.cons rfl (fun K hK => ?_) AllReadyH.nil
              obtain ⟨k1, k2⟩ := HO0.out.cells (i := j + 1) (by omega)
              rw [HXY.out.2] at k1 k2
              simp only [wy0, wy1] at k1 k2
              go_simp
              clear k1 k2
              refine hK.out _ _ trivial (fun _ => ?_)
              clear hK K
              refine wpAnyH_take (i := 14) (oi := ⟨some 51, _, _, _, _, _⟩) (v := (.pointer (some ⟨g, (j + 1) * 2, none⟩))) rfl (by kernel_rfl) (by kernel_rfl) (by kernel_rfl) (fun _ _ _ h => h) (Or.inl ⟨by rfl, fun W hS => by (go_simp)⟩) trivial ?_
              simp only [Act.put, List.setIfInBounds_toArray, List.set_cons_zero, List.set_cons_succ]
              refine wpAnyH_ready (rs := [15]) (by kernel_rfl) (by simp) ?_
              refine AllReadyH.cons rfl (fun K hK => ?_) AllReadyH.nil
              obtain ⟨k1, k2⟩ := HO0.out.cells (i := j + 1) (by omega)
              generalize wy0 _ = o1 at k1
              generalize wy1 _ = o2 at k2
              have f1 := HO0.out.frozen ((j + 1) * 2)
              have f2 := HO0.out.frozen ((j + 1) * 2 + 1)
              go_simp
              clear k1 k2 f1 f2 o1 o2
              have HO1 := hide (HO0.out.set (j + 1) x)
              have HK1 := hide ((HK0.out.step ((j + 1) * 2) (wy0 x)).step ((j + 1) * 2 + 1) (wy1 x))
              simp only [wy0, wy1] at HO1 HK1
              generalize (x0.setCell ⟨g, (j + 1) * 2, none⟩ (.slice x.a x.l.ins.length x.c)).setCell ⟨g, (j + 1) * 2 + 1, none⟩ (.int .i64 x.l.table) = x1 at *
              refine hK.out _ _ trivial (fun _ => ?_)
              clear hK K
              refine wpAnyH_take (i := 16) (oi := ⟨some 52, _, _, _, _, _⟩) (v := (.pointer (some ⟨g, j * 2, none⟩))) rfl (by kernel_rfl) (by kernel_rfl) (by kernel_rfl) (fun _ _ _ h => h) (Or.inl ⟨by rfl, fun W hS => by (go_simp)⟩) trivial ?_
              simp only [Act.put, List.setIfInBounds_toArray, List.set_cons_zero, List.set_cons_succ]
              refine wpAnyH_ready (rs := [17]) (by kernel_rfl) (by simp) ?_
              refine AllReadyH.cons rfl (fun K hK => ?_) AllReadyH.nil
              obtain ⟨k1, k2⟩ := HO1.out.cells (i := j) (by omega)
              generalize wy0 _ = o1 at k1
              generalize wy1 _ = o2 at k2
              have f1 := HO1.out.frozen (j * 2)
              have f2 := HO1.out.frozen (j * 2 + 1)
              go_simp
              clear k1 k2 f1 f2 o1 o2
              refine hK.out _ _ trivial (fun _ => ?_)
              clear hK K
              refine wpAnyH_done (by kernel_rfl) ?_ _
              have HO2 := hide (HO1.out.set j y)
              have HK2 := hide ((HK1.out.step (j * 2) (wy0 y)).step (j * 2 + 1) (wy1 y))
              simp only [wy0, wy1] at HO2 HK2
              have HP2 : Hid (((l'.set (j + 1) x).set j y).Perm l) := hide (by rw [← HXY.out.1, ← HXY.out.2]; exact (swapW_perm (by omega) (by omega)).trans hp.out)
              go_wp2_with fail
              exact ⟨⟨j, _, by omega, by go_num, HO2, HP2, HK2⟩, by simp [intOf]⟩
            · skip
              obtain ⟨k1, k2⟩ := HO0.out.cells (i := j + 1) (by omega)
              rw [HXY.out.2] at k1 k2
              simp only [wy0, wy1] at k1 k2
              go_simp
              clear k1 k2
              refine hK.out _ _ trivial (fun _ => ?_)
              clear hK K
              refine wpAnyH_ready (rs := [9]) (by kernel_rfl) (by simp) ?_
              refine AllReadyH.cons rfl (fun K hK => ?_) AllReadyH.nil
              obtain ⟨k1, k2⟩ := HO0.out.cells (i := j) (by omega)
              rw [HXY.out.1] at k1 k2
              simp only [wy0, wy1] at k1 k2
              go_simp
              clear k1 k2
              refine hK.out _ _ trivial (fun _ => ?_)
              clear hK K
              refine wpAnyH_take (i := 14) (oi := ⟨some 51, _, _, _, _, _⟩) (v := (.pointer (some ⟨g, (j + 1) * 2, none⟩))) rfl (by kernel_rfl) (by kernel_rfl) (by kernel_rfl) (fun _ _ _ h => h) (Or.inl ⟨by rfl, fun W hS => by (go_simp)⟩) trivial ?_
              simp only [Act.put, List.setIfInBounds_toArray, List.set_cons_zero, List.set_cons_succ]
              refine wpAnyH_ready (rs := [15]) (by kernel_rfl) (by simp) ?_
              refine AllReadyH.cons rfl (fun K hK => ?_) AllReadyH.nil
              obtain ⟨k1, k2⟩ := HO0.out.cells (i := j + 1) (by omega)
              generalize wy0 _ = o1 at k1
              generalize wy1 _ = o2 at k2
              have f1 := HO0.out.frozen ((j + 1) * 2)
              have f2 := HO0.out.frozen ((j + 1) * 2 + 1)
              go_simp
              clear k1 k2 f1 f2 o1 o2
              have HO1 := hide (HO0.out.set (j + 1) x)
              have HK1 := hide ((HK0.out.step ((j + 1) * 2) (wy0 x)).step ((j + 1) * 2 + 1) (wy1 x))
              simp only [wy0, wy1] at HO1 HK1
              generalize (x0.setCell ⟨g, (j + 1) * 2, none⟩ (.slice x.a x.l.ins.length x.c)).setCell ⟨g, (j + 1) * 2 + 1, none⟩ (.int .i64 x.l.table) = x1 at *
              refine hK.out _ _ trivial (fun _ => ?_)
              clear hK K
              refine wpAnyH_take (i := 16) (oi := ⟨some 52, _, _, _, _, _⟩) (v := (.pointer (some ⟨g, j * 2, none⟩))) rfl (by kernel_rfl) (by kernel_rfl) (by kernel_rfl) (fun _ _ _ h => h) (Or.inl ⟨by rfl, fun W hS => by (go_simp)⟩) trivial ?_
              simp only [Act.put, List.setIfInBounds_toArray, List.set_cons_zero, List.set_cons_succ]
              refine wpAnyH_ready (rs := [17]) (by kernel_rfl) (by simp) ?_
              refine AllReadyH.cons rfl (fun K hK => ?_) AllReadyH.nil
              obtain ⟨k1, k2⟩ := HO1.out.cells (i := j) (by omega)
              generalize wy0 _ = o1 at k1
              generalize wy1 _ = o2 at k2
              have f1 := HO1.out.frozen (j * 2)
              have f2 := HO1.out.frozen (j * 2 + 1)
              go_simp
              clear k1 k2 f1 f2 o1 o2
              refine hK.out _ _ trivial (fun _ => ?_)
              clear hK K
              refine wpAnyH_done (by kernel_rfl) ?_ _
              have HO2 := hide (HO1.out.set j y)
              have HK2 := hide ((HK1.out.step (j * 2) (wy0 y)).step (j * 2 + 1) (wy1 y))
              simp only [wy0, wy1] at HO2 HK2
              have HP2 : Hid (((l'.set (j + 1) x).set j y).Perm l) := hide (by rw [← HXY.out.1, ← HXY.out.2]; exact (swapW_perm (by omega) (by omega)).trans hp.out)
              go_wp2_with fail
              exact ⟨⟨j, _, by omega, by go_num, HO2, HP2, HK2⟩, by simp [intOf]⟩
          · skip
            have hr0 : 0 ≤ r := by omega
            refine wpAnyH_take (i := 15) (oi := ⟨some 33, _, _, _, _, _⟩) (v := (.bool false)) rfl (by kernel_rfl) (by kernel_rfl) (by kernel_rfl) (fun _ _ _ h => h) (Or.inl ⟨by rfl, fun W hS => by (go_simp)⟩) (HSW.out _ HB2.out) ?_
            simp only [Act.put, List.setIfInBounds_toArray, List.set_cons_zero, List.set_cons_succ]
            refine wpAnyH_take (i := 16) (oi := ⟨some 34, _, _, _, _, _⟩) (v := (.bool false)) rfl (by kernel_rfl) (by kernel_rfl) (by kernel_rfl) (fun _ _ _ h => h) (Or.inl ⟨by rfl, fun W hS => by (go_simp)⟩) (HSW.out _ HB2.out) ?_
            simp only [Act.put, List.setIfInBounds_toArray, List.set_cons_zero, List.set_cons_succ]
            refine wpAnyH_done (by kernel_rfl) ?_ _
            have ho := hide (ho.out.below HB2.out)
            have hk := hide (hk.out.below HB2.out)
            clear HSW HB1 HB2 HW e1 e2 e3 hwj
            go_wp2_with fail
            exact ⟨⟨k + 1, l', by go_num, by omega, ho, hp, hk⟩, by simp [intOf]; omega⟩
    · go_wp2_with fail
      go_end0
      exact ⟨rfl, ⟨l1, ho.out, hp.out⟩, hk.out⟩
end Go.Proofs.Ytacgepdmhdcdkaa
set_option linter.unusedSimpArgs false
set_option linter.unusedVariables false
namespace Go.Proofs.Ytacgepdmhdcdkaa
open Go.RowKit

set_option maxRecDepth 100000 in
set_option maxHeartbeats 6400000 in
theorem wstable_at {B g P : Nat} {w : World} {n cap : Nat} {l : List Wy} (h : OwnW B g w n cap l) (hn : n ≤ 19) (HE : Hid (∀ W, Kept g w W → ∀ x ∈ l, ∀ y ∈ l, Calls Try.prog 41 #[.pointer (some ⟨P, 0, none⟩), .agg #[.slice x.a x.l.ins.length x.c, .int .i64 x.l.table], .agg #[.slice y.a y.l.ins.length y.c, .int .i64 y.l.table]] W fun e w' => (∃ r : Int, e = .returned (.int .i64 r)) ∧ Below W.heap.size W w')) :
    Calls Try.prog 54 #[.slice (some ⟨g, 0, none⟩) n cap, .int .i64 n, .func (.func 41) #[.pointer (some ⟨P, 0, none⟩)] #[]] w fun e w' => e = .returned (.tuple #[]) ∧ (∃ l', OwnW B g w' n cap l' ∧ l'.Perm l) ∧ Kept g w w' := by
  have HC := hide (wsort_at (P := P) h (by omega) HE)
  have hni : (n : Int) ≤ 19 := by omega
  clear h HE
  go_enter Try.func54, Try.ntmps54
  go_wp2_with fail
  go_loopw [7, 8] (fun i v wr => i = .int .i64 0 ∧ v = .int .i64 20 ∧ Hid (wr = w)) (fun _ _ _ => 0)
  case atStart => exact ⟨rfl, rfl, hide rfl⟩
  case round =>
    obtain ⟨rfl, rfl, hw⟩ := hrel
    have hw := hw.out
    subst hw
    go_wp2_with fail
    refine HC.out.mono ?_
    rintro e w1 ⟨rfl, ⟨l', ho, hp⟩, hk⟩
    have HO := hide ho
    have HP := hide hp
    have HK := hide hk
    clear ho hp hk HC
    go_wp2_with fail
    go_loopw [6, 7, 8, 9] (fun i _ _ _ wr => i = .int .i64 20 ∧ Hid (wr = w1)) (fun _ _ _ _ _ => 0)
    case atStart => exact ⟨rfl, hide rfl⟩
    case round =>
      obtain ⟨rfl, hw⟩ := hrel
      have hw := hw.out
      subst hw
      go_wp2_with fail
      go_end0
      exact ⟨rfl, ⟨l', HO.out, HP.out⟩, HK.out⟩

set_option maxRecDepth 100000 in
set_option maxHeartbeats 6400000 in
theorem wsorted_at {B g P : Nat} {w : World} {n cap : Nat} {l : List Wy} (h : OwnW B g w n cap l) (hn : n ≤ 19) (HE : Hid (∀ W, Kept g w W → ∀ x ∈ l, ∀ y ∈ l, Calls Try.prog 41 #[.pointer (some ⟨P, 0, none⟩), .agg #[.slice x.a x.l.ins.length x.c, .int .i64 x.l.table], .agg #[.slice y.a y.l.ins.length y.c, .int .i64 y.l.table]] W fun e w' => (∃ r : Int, e = .returned (.int .i64 r)) ∧ Below W.heap.size W w')) :
    Calls Try.prog 40 #[.slice (some ⟨g, 0, none⟩) n cap, .func (.func 41) #[.pointer (some ⟨P, 0, none⟩)] #[]] w fun e w' => e = .returned (.tuple #[]) ∧ (∃ l', OwnW B g w' n cap l' ∧ l'.Perm l) ∧ Kept g w w' := by
  have HC := hide (wstable_at (P := P) h hn HE)
  clear h HE
  go_enter Try.func40, Try.ntmps40
  go_wp2_with fail
  refine HC.out.mono ?_
  rintro e w1 ⟨rfl, hq⟩
  have HQ := hide hq
  clear hq HC
  go_wp2_with fail
  go_end0
  exact ⟨rfl, HQ.out⟩
end Go.Proofs.Ytacgepdmhdcdkaa
