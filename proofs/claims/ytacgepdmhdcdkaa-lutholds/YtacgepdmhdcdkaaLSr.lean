/-
  ROWS of numbers of the call's own that are written into. CONTRACTS of cmp.Less, of sorting at most twelve numbers.
  CONTRACTS of sorting at most twelve numbers.
  CONTRACT of slices.Sort at no more than twelve numbers.
-/
import Derived.Test.YtacgepdmhdcdkaaLMem
import Derived.Lib.QuietBelow
import Derived.Deep.RegionHeld3
set_option linter.unusedSimpArgs false
set_option linter.unusedVariables false
namespace Go.Proofs.Ytacgepdmhdcdkaa
open Go.RowKit

/-- a row of numbers of the call's own, from the beginning of a block on -/
structure OwnI (B g : Nat) (w : World) (n cap : Nat) (l : List Int) : Prop where
  mine : Mine 3 1 B w (.slice (some ⟨g, 0, none⟩) n cap) n (intsC l)
  len : l.length = n
theorem OwnI.blk {B g : Nat} {w : World} {n cap : Nat} {l : List Int} (h : OwnI B g w n cap l) : ∃ cur, w.heap[g]? = some (.cells cur 3 (0, 0)) ∧ n ≤ cap ∧ cur.size = cap ∧ cur.toList.take n = intsC l := by
  rcases h.mine.own.2 with ⟨h0, _⟩ | ⟨g', cap', cur, hv, hbg, hg, hnc, hcm, hcs, htake⟩
  · cases h0
  · cases hv
    exact ⟨cur, hg, hnc, by simpa using hcs, by simpa using htake⟩
theorem OwnI.cell {B g : Nat} {w : World} {n cap : Nat} {l : List Int} (h : OwnI B g w n cap l) {i : Nat} (hi : i < n) : w.cell? ⟨g, i, none⟩ = some (.int .i64 (outAt l i)) := by
  obtain ⟨cur, h1, h2, h3, h4⟩ := h.blk
  rw [blk_cell h1]
  have h5 : (cur.toList.take n)[i]? = (intsC l)[i]? := by rw [h4]
  rw [List.getElem?_take_of_lt hi] at h5
  have hl := h.len
  have h6 : (intsC l)[i]? = some (.int .i64 (outAt l i)) := by simp [intsC, outAt, show i < l.length by omega]
  rw [h6] at h5
  simpa using h5
theorem OwnI.frozen {B g : Nat} {w : World} {n cap : Nat} {l : List Int} (h : OwnI B g w n cap l) (i : Nat) : w.frozen? ⟨g, i, none⟩ = false := by
  obtain ⟨cur, h1, _⟩ := h.blk
  exact blk_frozen h1 i
theorem OwnI.lt {B g : Nat} {w : World} {n cap : Nat} {l : List Int} (h : OwnI B g w n cap l) : g < w.heap.size := by
  obtain ⟨cur, h1, _⟩ := h.blk
  exact blk_lt h1
theorem OwnI.ge {B g : Nat} {w : World} {n cap : Nat} {l : List Int} (h : OwnI B g w n cap l) : B ≤ g := h.mine.new g rfl
theorem OwnI.below {B g : Nat} {w w' : World} {n cap : Nat} {l : List Int} (h : OwnI B g w n cap l) (hb : Below w.heap.size w w') : OwnI B g w' n cap l := ⟨h.mine.below hb, h.len⟩
theorem OwnI.mk' {B g : Nat} {w : World} {n cap : Nat} {l : List Int} {cur : Array Value} (hB : B ≤ g) (h1 : w.heap[g]? = some (.cells cur 3 (0, 0))) (h2 : n ≤ cap) (h3 : cur.size = cap) (hm : cap ≤ maxLen) (h4 : cur.toList.take n = intsC l) (hl : l.length = n) : OwnI B g w n cap l :=
  ⟨⟨⟨by rw [Nat.mul_one]; show (l.map _).length = n; rw [List.length_map]; exact hl, .inr ⟨g, cap, cur, rfl, Nat.zero_le _, h1, h2, hm, by simpa using h3, by simpa using h4⟩⟩, fun b hb => by simp [Value.ownBlock] at hb; omega⟩, hl⟩
theorem OwnI.capM {B g : Nat} {w : World} {n cap : Nat} {l : List Int} (h : OwnI B g w n cap l) : cap ≤ maxLen := by
  rcases h.mine.own.2 with ⟨h0, _⟩ | ⟨g', cap', cur, hv, hbg, hg, hnc, hcm, hcs, htake⟩
  · cases h0
  · cases hv; exact hcm
theorem OwnI.set {B g : Nat} {w : World} {n cap : Nat} {l : List Int} (h : OwnI B g w n cap l) (i : Nat) (v : Int) : OwnI B g (w.setCell ⟨g, i, none⟩ (.int .i64 v)) n cap (l.set i v) := by
  obtain ⟨cur, h1, h2, h3, h4⟩ := h.blk
  refine OwnI.mk' (cur := cur.setIfInBounds i (.int .i64 v)) h.ge (blk_set h1 _ _) h2 (by simpa using h3) h.capM ?_ (by rw [List.length_set]; exact h.len)
  rw [Array.toList_setIfInBounds, List.take_set, h4]
  simp [intsC, List.map_set]
/-- its beginning -/
theorem OwnI.take {B g : Nat} {w : World} {n cap : Nat} {l : List Int} (h : OwnI B g w n cap l) {k : Nat} (hk : k ≤ n) : OwnI B g w k cap (l.take k) := by
  obtain ⟨cur, h1, h2, h3, h4⟩ := h.blk
  refine OwnI.mk' h.ge h1 (by omega) h3 h.capM ?_ (by rw [List.length_take, h.len]; omega)
  have : (cur.toList.take n).take k = (intsC l).take k := by rw [h4]
  rw [List.take_take, Nat.min_eq_left hk] at this
  rw [this]; simp [intsC, List.map_take]
theorem swap_perm {l : List Int} {i j : Nat} (hi : i < l.length) (hj : j < l.length) : ((l.set i (outAt l j)).set j (outAt l i)).Perm l := by
  have e1 : outAt l i = l[i] := by simp [outAt, hi]
  have e2 : outAt l j = l[j] := by simp [outAt, hj]
  rw [e1, e2]
  exact List.set_set_perm hi hj

set_option maxRecDepth 100000 in
set_option maxHeartbeats 1600000 in
theorem isnan_at (a : Int) (w : World) : Calls Try.prog 67 #[.int .i64 a] w fun e w' => e = .returned (.bool false) ∧ w' = w := by
  go_enter Try.func67, Try.ntmps67
  go_wp2_with fail
  go_ret
  exact ⟨ret_bool (by simp), rfl⟩
set_option maxRecDepth 100000 in
set_option maxHeartbeats 1600000 in
theorem less_at (a b : Int) (w : World) : Calls Try.prog 74 #[.int .i64 a, .int .i64 b] w fun e w' => e = .returned (.bool (decide (a < b))) ∧ w' = w := by
  have HC := hide (isnan_at a w)
  go_enter Try.func74, Try.ntmps74
  go_wp2_with fail
  refine HC.out.mono ?_
  rintro e w' ⟨rfl, rfl⟩
  go_wp2_with fail
  go_ret
  exact ⟨rfl, rfl⟩
end Go.Proofs.Ytacgepdmhdcdkaa
set_option linter.unusedSimpArgs false
set_option linter.unusedVariables false
namespace Go.Proofs.Ytacgepdmhdcdkaa
open Go.RowKit

set_option maxRecDepth 100000 in
set_option maxHeartbeats 6400000 in
theorem insort_at {B g : Nat} {w : World} {n cap : Nat} {l : List Int} (h : OwnI B g w n cap l) (hn : n ≤ 12) :
    Calls Try.prog 68 #[.slice (some ⟨g, 0, none⟩) n cap, .int .i64 0, .int .i64 n] w fun e w' => e = .returned (.tuple #[]) ∧ (∃ l', OwnI B g w' n cap l' ∧ l'.Perm l) ∧ Kept g w w' := by
  have H := hide h
  clear h
  go_enter Try.func68, Try.ntmps68
  go_wp2_with fail
  go_loopw [6, 7] (fun i _ wr => ∃ (k : Nat) (l' : List Int), i = .int .i64 k ∧ k ≤ n + 1 ∧ Hid (OwnI B g wr n cap l') ∧ Hid (l'.Perm l) ∧ Hid (Kept g w wr)) (fun i _ _ => n + 1 - (intOf i).toNat)
  case atStart => exact ⟨1, l, rfl, by omega, H, hide (List.Perm.refl _), hide (Kept.refl _ _)⟩
  case round =>
    obtain ⟨k, l1, rfl, hk1, ho, hp, hk⟩ := hrel
    by_cases hlt : k < n
    · have hki : (k : Int) < (n : Int) := by omega
      go_wp2_with fail
      rename World => wa
      go_loopw [7] (fun i wr => ∃ (j : Nat) (l' : List Int), j ≤ k ∧ i = .int .i64 j ∧ Hid (OwnI B g wr n cap l') ∧ Hid (l'.Perm l) ∧ Hid (Kept g w wr)) (fun i _ => (intOf i).toNat)
      case atStart => exact ⟨k, l1, Nat.le_refl _, rfl, ho, hp, hk⟩
      case round =>
        clear ho hp hk
        obtain ⟨j, l', hj, rfl, ho, hp, hk⟩ := hrel
        have hlen := ho.out.len
        rcases j with _ | j
        · go_wp2_with fail
          go_quiet (fail)
          go_wp2_with fail
          exact ⟨⟨k + 1, l', by go_num, by omega, hide (ho.out.below (Below.drewNs (Below.refl _ _) _)), hp, hide (hk.out.below (Below.drewNs (Below.refl _ _) _))⟩, by simp [intOf]; omega⟩
        · have hj0 : (0 : Int) < ((j + 1 : Nat) : Int) := by omega
          have hjn : ((j + 1 : Nat) : Int) < (n : Int) := by omega
          have q1 := ho.out.cell (i := j + 1) (by omega)
          have q0 := ho.out.cell (i := j) (by omega)
          have HC := hide fun W => less_at (outAt l' (j + 1)) (outAt l' j) W
          by_cases hls : outAt l' (j + 1) < outAt l' j
          · rw [decide_eq_true hls] at HC
            clear hls
            go_wp2_with fail
            go_quiet (with_reducible exact Calls.quiet_of_same (HC.out _))
            go_wp2_with fail
            clear q0 q1 HC
            have ho := hide (ho.out.below (Below.drewNs (Below.refl wr.heap.size wr) nq))
            have hk := hide (hk.out.below (Below.drewNs (Below.refl wr.heap.size wr) nq))
            generalize wr.drewN nq = wr at *
            refine wp_region_held_drew (S := fun _ => True) (by kernel_rfl) trivial (fun _ => ?_)
            have HO0 : Hid (OwnI B g wr.drew n cap l') := hide (ho.out.below (Below.refl _ _).drew)
            have HK0 : Hid (Kept g w wr.drew) := hide (hk.out.below (Below.refl _ _).drew)
            clear ho hk
            have e1 : ¬ (n : Int) ≤ (j : Int) + 1 := by omega
            have e2 : ¬ n ≤ j := by omega
            have e3 : (0 : Int) ≤ (j : Int) + 1 := by omega
            have hwj : IntKind.i64.wrap (j : Int) = (j : Int) := wrap_id rfl (by omega) (by omega)
            generalize wr.drew = x0 at *
            refine wpAnyH_take (i := 0) (oi := ⟨some 33, _, _, _, _, _⟩) (v := (.slice (some ⟨g, 0, none⟩) n cap)) rfl (by kernel_rfl) (by kernel_rfl) (by kernel_rfl) (fun _ _ _ h => h) (Or.inl ⟨by rfl, fun W hS => by (go_simp)⟩) trivial ?_
            simp only [Act.put, List.setIfInBounds_toArray, List.set_cons_zero, List.set_cons_succ]
            refine wpAnyH_take (i := 1) (oi := ⟨some 34, _, _, _, _, _⟩) (v := (.int .i64 (j + 1 : Nat))) rfl (by kernel_rfl) (by kernel_rfl) (by kernel_rfl) (fun _ _ _ h => h) (Or.inl ⟨by rfl, fun W hS => by (go_simp)⟩) trivial ?_
            simp only [Act.put, List.setIfInBounds_toArray, List.set_cons_zero, List.set_cons_succ]
            refine wpAnyH_take (i := 2) (oi := ⟨some 35, _, _, _, _, _⟩) (v := (.slice (some ⟨g, 0, none⟩) n cap)) rfl (by kernel_rfl) (by kernel_rfl) (by kernel_rfl) (fun _ _ _ h => h) (Or.inl ⟨by rfl, fun W hS => by (go_simp)⟩) trivial ?_
            simp only [Act.put, List.setIfInBounds_toArray, List.set_cons_zero, List.set_cons_succ]
            refine wpAnyH_take (i := 3) (oi := ⟨some 36, _, _, _, _, _⟩) (v := (.int .i64 (j + 1 : Nat))) rfl (by kernel_rfl) (by kernel_rfl) (by kernel_rfl) (fun _ _ _ h => h) (Or.inl ⟨by rfl, fun W hS => by (go_simp)⟩) trivial ?_
            simp only [Act.put, List.setIfInBounds_toArray, List.set_cons_zero, List.set_cons_succ]
            refine wpAnyH_take (i := 5) (oi := ⟨some 38, _, _, _, _, _⟩) (v := (.slice (some ⟨g, 0, none⟩) n cap)) rfl (by kernel_rfl) (by kernel_rfl) (by kernel_rfl) (fun _ _ _ h => h) (Or.inl ⟨by rfl, fun W hS => by (go_simp)⟩) trivial ?_
            simp only [Act.put, List.setIfInBounds_toArray, List.set_cons_zero, List.set_cons_succ]
            refine wpAnyH_take (i := 6) (oi := ⟨some 39, _, _, _, _, _⟩) (v := (.int .i64 (j + 1 : Nat))) rfl (by kernel_rfl) (by kernel_rfl) (by kernel_rfl) (fun _ _ _ h => h) (Or.inl ⟨by rfl, fun W hS => by (go_simp)⟩) trivial ?_
            simp only [Act.put, List.setIfInBounds_toArray, List.set_cons_zero, List.set_cons_succ]
            refine wpAnyH_take (i := 10) (oi := ⟨some 43, _, _, _, _, _⟩) (v := (.slice (some ⟨g, 0, none⟩) n cap)) rfl (by kernel_rfl) (by kernel_rfl) (by kernel_rfl) (fun _ _ _ h => h) (Or.inl ⟨by rfl, fun W hS => by (go_simp)⟩) trivial ?_
            simp only [Act.put, List.setIfInBounds_toArray, List.set_cons_zero, List.set_cons_succ]
            refine wpAnyH_take (i := 11) (oi := ⟨some 44, _, _, _, _, _⟩) (v := (.int .i64 (j + 1 : Nat))) rfl (by kernel_rfl) (by kernel_rfl) (by kernel_rfl) (fun _ _ _ h => h) (Or.inl ⟨by rfl, fun W hS => by (go_simp)⟩) trivial ?_
            simp only [Act.put, List.setIfInBounds_toArray, List.set_cons_zero, List.set_cons_succ]
            refine wpAnyH_take (i := 4) (oi := ⟨some 37, _, _, _, _, _⟩) (v := (.int .i64 j)) rfl (by kernel_rfl) (by kernel_rfl) (by kernel_rfl) (fun _ _ _ h => h) (Or.inl ⟨by rfl, fun W hS => by (go_simp)⟩) trivial ?_
            simp only [Act.put, List.setIfInBounds_toArray, List.set_cons_zero, List.set_cons_succ]
            refine wpAnyH_take (i := 7) (oi := ⟨some 40, _, _, _, _, _⟩) (v := (.int .i64 j)) rfl (by kernel_rfl) (by kernel_rfl) (by kernel_rfl) (fun _ _ _ h => h) (Or.inl ⟨by rfl, fun W hS => by (go_simp)⟩) trivial ?_
            simp only [Act.put, List.setIfInBounds_toArray, List.set_cons_zero, List.set_cons_succ]
            refine wpAnyH_take (i := 12) (oi := ⟨some 45, _, _, _, _, _⟩) (v := (.pointer (some ⟨g, j + 1, none⟩))) rfl (by kernel_rfl) (by kernel_rfl) (by kernel_rfl) (fun _ _ _ h => h) (Or.inl ⟨by rfl, fun W hS => by (go_simp)⟩) trivial ?_
            simp only [Act.put, List.setIfInBounds_toArray, List.set_cons_zero, List.set_cons_succ]
            refine wpAnyH_take (i := 8) (oi := ⟨some 41, _, _, _, _, _⟩) (v := (.pointer (some ⟨g, j, none⟩))) rfl (by kernel_rfl) (by kernel_rfl) (by kernel_rfl) (fun _ _ _ h => h) (Or.inl ⟨by rfl, fun W hS => by (go_simp)⟩) trivial ?_
            simp only [Act.put, List.setIfInBounds_toArray, List.set_cons_zero, List.set_cons_succ]
            refine wpAnyH_ready (rs := [9, 13]) (by kernel_rfl) (by simp) ?_
            refine AllReadyH.cons rfl (fun K hK => ?_) (AllReadyH.cons rfl (fun K hK => ?_) AllReadyH.nil)
            · skip
              have k1 := HO0.out.cell (i := j) (by omega)
              go_simp
              clear k1
              refine hK.out _ _ trivial (fun _ => ?_)
              clear hK K
              refine wpAnyH_ready (rs := [13]) (by kernel_rfl) (by simp) ?_
              refine AllReadyH.cons rfl (fun K hK => ?_) AllReadyH.nil
              have k1 := HO0.out.cell (i := j + 1) (by omega)
              go_simp
              clear k1
              refine hK.out _ _ trivial (fun _ => ?_)
              clear hK K
              refine wpAnyH_take (i := 14) (oi := ⟨some 47, _, _, _, _, _⟩) (v := (.pointer (some ⟨g, j + 1, none⟩))) rfl (by kernel_rfl) (by kernel_rfl) (by kernel_rfl) (fun _ _ _ h => h) (Or.inl ⟨by rfl, fun W hS => by (go_simp)⟩) trivial ?_
              simp only [Act.put, List.setIfInBounds_toArray, List.set_cons_zero, List.set_cons_succ]
              refine wpAnyH_ready (rs := [15]) (by kernel_rfl) (by simp) ?_
              refine AllReadyH.cons rfl (fun K hK => ?_) AllReadyH.nil
              have k1 := HO0.out.cell (i := j + 1) (by omega)
              have f1 := HO0.out.frozen (j + 1)
              go_simp
              clear k1 f1
              have HO1 := hide (HO0.out.set (j + 1) (outAt l' j))
              have HK1 := hide (HK0.out.step (j + 1) (.int .i64 (outAt l' j)))
              generalize x0.setCell ⟨g, j + 1, none⟩ (.int .i64 (outAt l' j)) = x1 at *
              refine hK.out _ _ trivial (fun _ => ?_)
              clear hK K
              refine wpAnyH_take (i := 16) (oi := ⟨some 48, _, _, _, _, _⟩) (v := (.pointer (some ⟨g, j, none⟩))) rfl (by kernel_rfl) (by kernel_rfl) (by kernel_rfl) (fun _ _ _ h => h) (Or.inl ⟨by rfl, fun W hS => by (go_simp)⟩) trivial ?_
              simp only [Act.put, List.setIfInBounds_toArray, List.set_cons_zero, List.set_cons_succ]
              refine wpAnyH_ready (rs := [17]) (by kernel_rfl) (by simp) ?_
              refine AllReadyH.cons rfl (fun K hK => ?_) AllReadyH.nil
              have k1 := HO1.out.cell (i := j) (by omega)
              have f1 := HO1.out.frozen j
              go_simp
              clear k1 f1
              refine hK.out _ _ trivial (fun _ => ?_)
              clear hK K
              refine wpAnyH_done (by kernel_rfl) ?_ _
              have HO2 := hide (HO1.out.set j (outAt l' (j + 1)))
              have HK2 := hide (HK1.out.step j (.int .i64 (outAt l' (j + 1))))
              have HP2 : Hid (((l'.set (j + 1) (outAt l' j)).set j (outAt l' (j + 1))).Perm l) := hide ((swap_perm (by omega) (by omega)).trans hp.out)
              go_wp2_with fail
              exact ⟨⟨j, _, by omega, by go_num, HO2, HP2, HK2⟩, by simp [intOf]⟩
            · skip
              have k1 := HO0.out.cell (i := j + 1) (by omega)
              go_simp
              clear k1
              refine hK.out _ _ trivial (fun _ => ?_)
              clear hK K
              refine wpAnyH_ready (rs := [9]) (by kernel_rfl) (by simp) ?_
              refine AllReadyH.cons rfl (fun K hK => ?_) AllReadyH.nil
              have k1 := HO0.out.cell (i := j) (by omega)
              go_simp
              clear k1
              refine hK.out _ _ trivial (fun _ => ?_)
              clear hK K
              refine wpAnyH_take (i := 14) (oi := ⟨some 47, _, _, _, _, _⟩) (v := (.pointer (some ⟨g, j + 1, none⟩))) rfl (by kernel_rfl) (by kernel_rfl) (by kernel_rfl) (fun _ _ _ h => h) (Or.inl ⟨by rfl, fun W hS => by (go_simp)⟩) trivial ?_
              simp only [Act.put, List.setIfInBounds_toArray, List.set_cons_zero, List.set_cons_succ]
              refine wpAnyH_ready (rs := [15]) (by kernel_rfl) (by simp) ?_
              refine AllReadyH.cons rfl (fun K hK => ?_) AllReadyH.nil
              have k1 := HO0.out.cell (i := j + 1) (by omega)
              have f1 := HO0.out.frozen (j + 1)
              go_simp
              clear k1 f1
              have HO1 := hide (HO0.out.set (j + 1) (outAt l' j))
              have HK1 := hide (HK0.out.step (j + 1) (.int .i64 (outAt l' j)))
              generalize x0.setCell ⟨g, j + 1, none⟩ (.int .i64 (outAt l' j)) = x1 at *
              refine hK.out _ _ trivial (fun _ => ?_)
              clear hK K
              refine wpAnyH_take (i := 16) (oi := ⟨some 48, _, _, _, _, _⟩) (v := (.pointer (some ⟨g, j, none⟩))) rfl (by kernel_rfl) (by kernel_rfl) (by kernel_rfl) (fun _ _ _ h => h) (Or.inl ⟨by rfl, fun W hS => by (go_simp)⟩) trivial ?_
              simp only [Act.put, List.setIfInBounds_toArray, List.set_cons_zero, List.set_cons_succ]
              refine wpAnyH_ready (rs := [17]) (by kernel_rfl) (by simp) ?_
              refine AllReadyH.cons rfl (fun K hK => ?_) AllReadyH.nil
              have k1 := HO1.out.cell (i := j) (by omega)
              have f1 := HO1.out.frozen j
              go_simp
              clear k1 f1
              refine hK.out _ _ trivial (fun _ => ?_)
              clear hK K
              refine wpAnyH_done (by kernel_rfl) ?_ _
              have HO2 := hide (HO1.out.set j (outAt l' (j + 1)))
              have HK2 := hide (HK1.out.step j (.int .i64 (outAt l' (j + 1))))
              have HP2 : Hid (((l'.set (j + 1) (outAt l' j)).set j (outAt l' (j + 1))).Perm l) := hide ((swap_perm (by omega) (by omega)).trans hp.out)
              go_wp2_with fail
              exact ⟨⟨j, _, by omega, by go_num, HO2, HP2, HK2⟩, by simp [intOf]⟩
          · rw [decide_eq_false hls] at HC
            clear hls
            go_wp2_with fail
            go_quiet (with_reducible exact Calls.quiet_of_same (HC.out _))
            go_wp2_with fail
            exact ⟨⟨k + 1, l', by go_num, by omega, hide (ho.out.below (Below.drewNs (Below.refl _ _) _)), hp, hide (hk.out.below (Below.drewNs (Below.refl _ _) _))⟩, by simp [intOf]; omega⟩
    · go_wp2_with fail
      go_end0
      exact ⟨rfl, ⟨l1, ho.out, hp.out⟩, hk.out⟩
end Go.Proofs.Ytacgepdmhdcdkaa
set_option linter.unusedSimpArgs false
set_option linter.unusedVariables false
namespace Go.Proofs.Ytacgepdmhdcdkaa
open Go.RowKit

set_option maxRecDepth 100000 in
set_option maxHeartbeats 6400000 in
theorem len64_at (n : Nat) (hn : n ≤ 12) (w : World) : Calls Try.prog 78 #[.int .u64 n] w fun e w' => (∃ r : Int, e = .returned (.int .i64 r)) ∧ w' = w := by
  obtain rfl | rfl | rfl | rfl | rfl | rfl | rfl | rfl | rfl | rfl | rfl | rfl | rfl : n = 0 ∨ n = 1 ∨ n = 2 ∨ n = 3 ∨ n = 4 ∨ n = 5 ∨ n = 6 ∨ n = 7 ∨ n = 8 ∨ n = 9 ∨ n = 10 ∨ n = 11 ∨ n = 12 := by omega
  all_goals
    go_enter Try.func78, Try.ntmps78
    go_wp2_with fail
    go_ret
    exact ⟨⟨_, rfl⟩, rfl⟩
set_option maxRecDepth 100000 in
set_option maxHeartbeats 6400000 in
theorem blen_at (n : Nat) (hn : n ≤ 12) (w : World) : Calls Try.prog 62 #[.int .u64 n] w fun e w' => (∃ r : Int, e = .returned (.int .i64 r)) ∧ w' = w := by
  have HC := hide (len64_at n hn w)
  go_enter Try.func62, Try.ntmps62
  go_wp2_with fail
  refine HC.out.mono ?_
  rintro e w' ⟨⟨r, rfl⟩, rfl⟩
  go_wp2_with fail
  go_ret
  exact ⟨⟨_, rfl⟩, rfl⟩
set_option maxRecDepth 100000 in
set_option maxHeartbeats 6400000 in
theorem pdq_at {B g : Nat} {w : World} {n cap : Nat} {l : List Int} (h : OwnI B g w n cap l) (hn : n ≤ 12) (lim : Int) :
    Calls Try.prog 61 #[.slice (some ⟨g, 0, none⟩) n cap, .int .i64 0, .int .i64 n, .int .i64 lim] w fun e w' => e = .returned (.tuple #[]) ∧ (∃ l', OwnI B g w' n cap l' ∧ l'.Perm l) ∧ Kept g w w' := by
  have HC := hide (insort_at h hn)
  have hni : (n : Int) ≤ 12 := by omega
  go_enter Try.func61, Try.ntmps61
  go_wp2_with fail
  go_loopw [1, 2] (fun v u wr => v = .int .i64 0 ∧ u = .int .i64 n ∧ Hid (wr = w)) (fun _ _ _ => 0)
  case atStart => exact ⟨rfl, rfl, hide rfl⟩
  case round =>
    obtain ⟨rfl, rfl, hw⟩ := hrel
    have hw := hw.out
    subst hw
    go_wp2_with fail
    refine HC.out.mono ?_
    rintro e w1 ⟨rfl, hl, hk⟩
    go_wp2_with fail
    refine bodyPost_ret (results_none rfl _ _ _) rfl ?_
    exact ⟨rfl, hl, hk⟩
set_option maxRecDepth 100000 in
set_option maxHeartbeats 6400000 in
theorem sort_at {B g : Nat} {w : World} {n cap : Nat} {l : List Int} (h : OwnI B g w n cap l) (hn : n ≤ 12) :
    Calls Try.prog 48 #[.slice (some ⟨g, 0, none⟩) n cap] w fun e w' => e = .returned (.tuple #[]) ∧ (∃ l', OwnI B g w' n cap l' ∧ l'.Perm l) ∧ Kept g w w' := by
  have HL := hide (blen_at n hn w)
  have HC := hide fun lim => pdq_at h hn lim
  have hnu : IntKind.u64.wrap (n : Int) = (n : Int) := by rw [IntKind.wrap_u64]; omega
  go_enter Try.func48, Try.ntmps48
  go_wp2_with fail
  refine HL.out.mono ?_
  rintro e w' ⟨⟨r, rfl⟩, rfl⟩
  go_wp2_with fail
  refine (HC.out r).mono ?_
  rintro e w1 ⟨rfl, hl, hk⟩
  go_wp2_with fail
  go_end0
  exact ⟨rfl, hl, hk⟩
end Go.Proofs.Ytacgepdmhdcdkaa
