/-
  CONTRACT of slices.Compact at no more than twelve numbers: the same numbers are there.
  CONTRACT of slices.Delete of one number.
-/
import Derived.Test.YtacgepdmhdcdkaaLSr
import Derived.Lib.SliceRun
import Derived.Laws.OwnMore
set_option linter.unusedSimpArgs false
set_option linter.unusedVariables false
namespace Go.Proofs.Ytacgepdmhdcdkaa
open Go.RowKit

theorem OwnI.out {B g : Nat} {w : World} {k cap : Nat} {l : List Int} (h : OwnI B g w k cap l) {i : Nat} (hk : k ≤ i) (v : Value) : OwnI B g (w.setCell ⟨g, i, none⟩ v) k cap l := by
  obtain ⟨cur, h1, h2, h3, h4⟩ := h.blk
  refine OwnI.mk' (cur := cur.setIfInBounds i v) h.ge (blk_set h1 _ _) h2 (by simpa using h3) h.capM ?_ h.len
  rw [Array.toList_setIfInBounds, List.take_set, h4]
  exact List.set_eq_of_length_le (by have := h.len; simp [intsC]; omega)
theorem OwnI.outs {B g : Nat} {k cap : Nat} {l : List Int} : ∀ (vs : List Value) (o : Nat) (w : World), k ≤ o → OwnI B g w k cap l → OwnI B g (w.setCells g o vs) k cap l ∧ Kept g w (w.setCells g o vs)
  | [], _, w, _, h => ⟨h, Kept.refl _ _⟩
  | v :: vs, o, w, hk, h => by
    have h1 := h.out hk v
    obtain ⟨h2, h3⟩ := OwnI.outs vs (o + 1) _ (by omega) h1
    exact ⟨h2, (Kept.set w o v).trans h3⟩
/-- among the first k -/
def Mem (l : List Int) (k : Nat) (x : Int) : Prop := ∃ i, i < k ∧ outAt l i = x
theorem mem_iff {l : List Int} {x : Int} : x ∈ l ↔ Mem l l.length x := by
  constructor
  · intro h
    obtain ⟨i, hi, rfl⟩ := List.getElem_of_mem h
    exact ⟨i, hi, by simp [outAt, hi]⟩
  · rintro ⟨i, hi, rfl⟩
    have : outAt l i = l[i] := by simp [outAt, hi]
    rw [this]; exact List.getElem_mem _
theorem mem_take {l : List Int} {x : Int} {k : Nat} (h : k ≤ l.length) : x ∈ l.take k ↔ Mem l k x := by
  rw [mem_iff, List.length_take, Nat.min_eq_left h]
  constructor
  · rintro ⟨i, hi, rfl⟩; exact ⟨i, hi, by simp [outAt, hi]⟩
  · rintro ⟨i, hi, rfl⟩; exact ⟨i, hi, by simp [outAt, hi]⟩
theorem Mem.one (l : List Int) (k : Nat) (x : Int) : Mem l (k + 1) x ↔ Mem l k x ∨ outAt l k = x := by
  constructor
  · rintro ⟨i, hi, h⟩
    by_cases e : i = k
    · subst e; exact .inr h
    · exact .inl ⟨i, by omega, h⟩
  · rintro (⟨i, hi, h⟩ | h)
    · exact ⟨i, by omega, h⟩
    · exact ⟨k, by omega, h⟩
theorem outAt_set (l : List Int) (i j : Nat) (v : Int) : outAt (l.set i v) j = if i = j ∧ i < l.length then v else outAt l j := by
  unfold outAt
  rw [List.getElem?_set]
  by_cases e : i = j
  · subst e
    by_cases h : i < l.length
    · simp [h]
    · simp [h]
  · simp [e]
/-- what is written together so far -/
structure Cmp (l c : List Int) (p k k2 : Nat) : Prop where
  mem : ∀ x, Mem c k x ↔ Mem l (p + k2) x
  rest : ∀ i, p + k2 ≤ i + 1 → outAt c i = outAt l i
  le : k + 1 ≤ p + k2
theorem Cmp.begin {l : List Int} {p : Nat} (h : outAt l (p + 1) = outAt l p) : Cmp l l (p + 1) (p + 1) 1 := by
  refine ⟨fun x => ?_, fun _ _ => rfl, Nat.le_refl _⟩
  rw [Mem.one l (p + 1) x]
  constructor
  · exact .inl
  · rintro (h1 | h1)
    · exact h1
    · exact ⟨p, by omega, by rw [← h]; exact h1⟩
theorem Cmp.skip {l c : List Int} {p k k2 : Nat} (h : Cmp l c p k k2) (hk2 : 0 < k2) (e : outAt c (p + k2) = outAt c (p + k2 - 1)) : Cmp l c p k (k2 + 1) := by
  refine ⟨fun x => ?_, fun i hi => h.rest i (by omega), by have := h.le; omega⟩
  rw [h.mem x, show p + (k2 + 1) = (p + k2) + 1 by omega, Mem.one]
  constructor
  · exact .inl
  · rintro (h1 | h1)
    · exact h1
    · rw [h.rest _ (by omega), h.rest _ (by omega)] at e
      exact ⟨p + k2 - 1, by omega, by rw [← e]; exact h1⟩
theorem Cmp.keep {l c : List Int} {p k k2 : Nat} (h : Cmp l c p k k2) (hl : p + k2 < c.length) : Cmp l (c.set k (outAt c (p + k2))) p (k + 1) (k2 + 1) := by
  have hle := h.le
  refine ⟨fun x => ?_, fun i hi => ?_, by omega⟩
  · rw [show p + (k2 + 1) = (p + k2) + 1 by omega, Mem.one, Mem.one, ← h.mem x, outAt_set, if_pos ⟨rfl, by omega⟩, h.rest _ (by omega)]
    constructor
    · rintro (⟨i, hi, h1⟩ | h1)
      · rw [outAt_set, if_neg (by omega)] at h1; exact .inl ⟨i, hi, h1⟩
      · exact .inr h1
    · rintro (⟨i, hi, h1⟩ | h1)
      · exact .inl ⟨i, hi, by rw [outAt_set, if_neg (by omega)]; exact h1⟩
      · exact .inr h1
  · rw [outAt_set, if_neg (by omega)]; exact h.rest i (by omega)

set_option maxRecDepth 100000 in
set_option maxHeartbeats 6400000 in
theorem compact_at {B g : Nat} {w : World} {n cap : Nat} {l : List Int} (h : OwnI B g w n cap l) (hn : n ≤ 12) :
    Calls Try.prog 49 #[.slice (some ⟨g, 0, none⟩) n cap] w fun e w' => (∃ (k : Nat) (l' : List Int), e = .returned (.slice (some ⟨g, 0, none⟩) k cap) ∧ OwnI B g w' k cap l' ∧ k ≤ n ∧ ∀ x, x ∈ l' ↔ x ∈ l) ∧ Kept g w w' := by
  have H := hide h
  have hnc : n ≤ cap := by obtain ⟨cur, _, h2, _⟩ := h.blk; exact h2
  have hcm := h.capM
  have hcm2 : cap ≤ 9223372036854775807 := Nat.le_trans hcm (by decide)
  have hlen := h.len
  clear h hcm
  by_cases h2 : (n : Int) < 2
  · go_enter Try.func49, Try.ntmps49
    go_wp2_with fail
    go_ret
    exact ⟨⟨n, l, rfl, H.out, Nat.le_refl _, fun _ => Iff.rfl⟩, Kept.refl _ _⟩
  · go_enter Try.func49, Try.ntmps49
    go_wp2_with fail
    go_loopw [3, 4, 5] (fun i _ _ wr => ∃ j : Nat, j + 1 ≤ n ∧ i = .int .i64 (j + 1 : Nat) ∧ Hid (OwnI B g wr n cap l) ∧ Hid (Kept g w wr)) (fun i _ _ _ => n - (intOf i).toNat)
    case atStart => exact ⟨0, by omega, rfl, H, hide (Kept.refl _ _)⟩
    case round =>
      obtain ⟨j, hj, rfl, ho, hk⟩ := hrel
      by_cases hlt : j + 1 < n
      · have hji : ((j + 1 : Nat) : Int) < (n : Int) := by omega
        have q1 := ho.out.cell (i := j + 1) hlt
        have q0 := ho.out.cell (i := j) (by omega)
        have e1 : ¬ (n : Int) ≤ (j : Int) + 1 := by omega
        have e2 : ¬ n ≤ j := by omega
        have hwj : IntKind.i64.wrap (j : Int) = (j : Int) := wrap_id rfl (by omega) (by omega)
        by_cases he : outAt l (j + 1) = outAt l j
        · have HC := hide (Cmp.begin he)
          rw [he] at q1
          generalize outAt l j = v at *
          go_wp2_with fail
          go_quiet (fail)
          go_wp2_with fail
          clear q1 q0
          have hpl : j + 1 + (n - (j + 1)) = n := by omega
          have hr1 : 1 ≤ n - (j + 1) := by omega
          have ho := hide (ho.out.below (Below.drewNs (Below.refl wr.heap.size wr) nq))
          have hk := hide (hk.out.below (Below.drewNs (Below.refl wr.heap.size wr) nq))
          generalize wr.drewN nq = wa at *
          generalize n - (j + 1) = r at *
          go_loopw [3, 5] (fun a b wr => ∃ (k m : Nat) (c : List Int), a = .int .i64 k ∧ b = .int .i64 (m + 1 : Nat) ∧ m + 1 ≤ r ∧ k ≤ 12 ∧ 1 ≤ k ∧ Hid (OwnI B g wr n cap c) ∧ Hid (Cmp l c (j + 1) k (m + 1)) ∧ Hid (Kept g w wr)) (fun _ b _ => r - (intOf b).toNat)
          case atStart => exact ⟨j + 1, 0, l, rfl, rfl, hr1, by omega, by omega, ho, HC, hk⟩
          case round =>
            clear ho hk HC
            obtain ⟨k, m, c, rfl, rfl, hmr, hk12, hk1, ho, hc, hk⟩ := hrel
            have hcl := ho.out.len
            have hcle := hc.out.le
            by_cases hlt2 : m + 1 < r
            · have hmi : ((m + 1 : Nat) : Int) < (r : Int) := by omega
              have q1 := ho.out.cell (i := j + 1 + (m + 1)) (by omega)
              have q0 := ho.out.cell (i := j + 1 + m) (by omega)
              have qk := ho.out.cell (i := k) (by omega)
              have fk := ho.out.frozen k
              have e3 : ¬ (r : Int) ≤ (m : Int) + 1 := by omega
              have e4 : ¬ r ≤ m := by omega
              have hwm : IntKind.i64.wrap (m : Int) = (m : Int) := wrap_id rfl (by omega) (by omega)
              have hkn : (k : Int) < (n : Int) := by omega
              by_cases hne : outAt c (j + 1 + (m + 1)) = outAt c (j + 1 + m)
              · have HC2 := hide (hc.out.skip (by omega) (by rw [show j + 1 + (m + 1) - 1 = j + 1 + m by omega]; exact hne))
                rw [hne] at q1
                clear hne
                generalize outAt c (j + 1 + m) = v2 at *
                go_wp2_with fail
                go_quiet (fail)
                go_wp2_with fail
                exact ⟨⟨k, m + 1, c, rfl, by go_num, by omega, by omega, hk1, hide (ho.out.below (Below.drewNs (Below.refl _ _) _)), HC2, hide (hk.out.below (Below.drewNs (Below.refl _ _) _))⟩, by simp [intOf]; omega⟩
              · have hnb : (outAt c (j + 1 + (m + 1)) == outAt c (j + 1 + m)) = false := by rw [beq_eq_false_iff_ne]; exact hne
                have hnb2 : (outAt c (j + 1 + (m + 1)) != outAt c (j + 1 + m)) = true := by simp [bne, hnb]
                have HC2 := hide (hc.out.keep (by omega))
                clear hne
                go_wp2_with fail
                go_quiet (fail)
                go_wp2_with fail
                exact ⟨⟨k + 1, m + 1, _, by go_num, by go_num, by omega, by omega, by omega, hide ((ho.out.below (Below.drewNs (Below.refl _ _) _)).set k _), HC2, hide ((hk.out.below (Below.drewNs (Below.refl _ _) _)).step k _)⟩, by simp [intOf]; omega⟩
            · have hmr2 : m + 1 = r := by omega
              have HOT := hide (ho.out.take (k := k) (by omega))
              obtain ⟨HO2, HK2⟩ := OwnI.outs (List.replicate (n - k) (.int .i64 0)) k wr (Nat.le_refl _) HOT.out
              have HO2 := hide HO2
              have HK2 := hide (hk.out.trans HK2)
              have HMEM : Hid (∀ x, x ∈ c.take k ↔ x ∈ l) := hide fun x => by
                rw [mem_take (by omega), hc.out.mem x, mem_iff, hlen, hmr2, hpl]
              have hclr := fun ty => Lib.run_clear_slice (P := Try.prog) wr 24 3 ty (.int .i64 0) (by kernel_rfl) (fun w => by kernel_rfl) rfl rfl g k (n - k) (cap - k) (by omega) (fun q hq => by rw [ho.out.cell (by omega)]; rfl) (fun q _ => ho.out.frozen _)
              have hkn : k ≤ n := by omega
              have hkc : k ≤ cap := by omega
              clear hc ho
              go_wp2_with fail
              go_ret
              exact ⟨⟨k, c.take k, rfl, HO2.out, hkn, HMEM.out⟩, HK2.out⟩
        · have hne : (outAt l (j + 1) == outAt l j) = false := by rw [beq_eq_false_iff_ne]; exact he
          go_wp2_with fail
          go_quiet (fail)
          go_wp2_with fail
          exact ⟨⟨j + 1, by omega, by go_num, hide (ho.out.below (Below.drewNs (Below.refl _ _) _)), hide (hk.out.below (Below.drewNs (Below.refl _ _) _))⟩, by simp [intOf]; omega⟩
      · go_wp2_with fail
        go_ret
        exact ⟨⟨n, l, rfl, ho.out, Nat.le_refl _, fun _ => Iff.rfl⟩, hk.out⟩
end Go.Proofs.Ytacgepdmhdcdkaa
set_option linter.unusedSimpArgs false
set_option linter.unusedVariables false
namespace Go.Proofs.Ytacgepdmhdcdkaa
open Go.RowKit

set_option maxRecDepth 100000 in
set_option maxHeartbeats 6400000 in
theorem delete_at {B g : Nat} {w : World} {n cap : Nat} {l : List Int} (h : OwnI B g w n cap l) (hn : n ≤ 12) (i : Nat) (hi : i < n) :
    Calls Try.prog 64 #[.slice (some ⟨g, 0, none⟩) n cap, .int .i64 i, .int .i64 (i + 1 : Nat)] w fun e w' => e = .returned (.slice (some ⟨g, 0, none⟩) (n - 1) cap) ∧ OwnI B g w' (n - 1) cap (l.eraseIdx i) ∧ Kept g w w' := by
  have H := hide h
  have hnc : n ≤ cap := by obtain ⟨cur, _, h2, _⟩ := h.blk; exact h2
  have hcm := h.capM
  have hcm2 : cap ≤ 9223372036854775807 := Nat.le_trans hcm (by decide)
  have hlen := h.len
  clear h hcm
  have hii : (i : Int) < (n : Int) := by omega
  have hne : ((i : Int) == (i : Int) + 1) = false := by rw [beq_eq_false_iff_ne]; omega
  have hin : ((i : Int) + 1) ≤ (n : Int) := by omega
  have hic : ((i : Int) + 1) ≤ (cap : Int) := by omega
  have hnci : (n : Int) ≤ (cap : Int) := by omega
  have hci : ¬ cap < i := by omega
  have hc0 : ¬ cap = 0 := by omega
  have h0i : (0 : Int) ≤ (i : Int) + 1 := by omega
  have h0n : ¬ (i : Int) + 1 < 0 := by omega
  go_enter Try.func64, Try.ntmps64
  go_wp2_with fail
  refine wp_region_held_drew (S := fun _ => True) (by kernel_rfl) trivial (fun _ => ?_)
  have HO0 : Hid (OwnI B g w.drew n cap l) := hide (H.out.below (Below.refl _ _).drew)
  have HK0 : Hid (Kept g w w.drew) := hide (Kept.of (Below.refl _ _).drew)
  generalize w.drew = x0 at *
  refine wpAnyH_take (i := 0) (oi := ⟨some 20, _, _, _, _, _⟩) (v := (.slice (some ⟨g, 0, none⟩) n cap)) rfl (by kernel_rfl) (by kernel_rfl) (by kernel_rfl) (fun _ _ _ h => h) (Or.inl ⟨by rfl, fun W hS => by (go_simp)⟩) trivial ?_
  simp only [Act.put, List.setIfInBounds_toArray, List.set_cons_zero, List.set_cons_succ]
  refine wpAnyH_take (i := 1) (oi := ⟨some 21, _, _, _, _, _⟩) (v := (.int .i64 i)) rfl (by kernel_rfl) (by kernel_rfl) (by kernel_rfl) (fun _ _ _ h => h) (Or.inl ⟨by rfl, fun W hS => by (go_simp)⟩) trivial ?_
  simp only [Act.put, List.setIfInBounds_toArray, List.set_cons_zero, List.set_cons_succ]
  refine wpAnyH_take (i := 3) (oi := ⟨some 23, _, _, _, _, _⟩) (v := (.slice (some ⟨g, 0, none⟩) n cap)) rfl (by kernel_rfl) (by kernel_rfl) (by kernel_rfl) (fun _ _ _ h => h) (Or.inl ⟨by rfl, fun W hS => by (go_simp)⟩) trivial ?_
  simp only [Act.put, List.setIfInBounds_toArray, List.set_cons_zero, List.set_cons_succ]
  refine wpAnyH_take (i := 4) (oi := ⟨some 24, _, _, _, _, _⟩) (v := (.int .i64 (i + 1 : Nat))) rfl (by kernel_rfl) (by kernel_rfl) (by kernel_rfl) (fun _ _ _ h => h) (Or.inl ⟨by rfl, fun W hS => by (go_simp)⟩) trivial ?_
  simp only [Act.put, List.setIfInBounds_toArray, List.set_cons_zero, List.set_cons_succ]
  refine wpAnyH_take (i := 2) (oi := ⟨some 22, _, _, _, _, _⟩) (v := (.slice (some ⟨g, 0, none⟩) i cap)) rfl (by kernel_rfl) (by kernel_rfl) (by kernel_rfl) (fun _ _ _ h => h) (Or.inl ⟨by rfl, fun W hS => by (go_simp)⟩) trivial ?_
  simp only [Act.put, List.setIfInBounds_toArray, List.set_cons_zero, List.set_cons_succ]
  by_cases hcap : cap = i + 1
  · have hcn : n = i + 1 := by omega
    refine wpAnyH_take (i := 5) (oi := ⟨some 25, _, _, _, _, _⟩) (v := (.slice (some ⟨g, 0, none⟩) (n - (i + 1)) (cap - (i + 1)))) rfl (by kernel_rfl) (by kernel_rfl) (by kernel_rfl) (fun _ _ _ h => h) (Or.inl ⟨by rfl, fun W hS => by (go_simp)⟩) trivial ?_
    simp only [Act.put, List.setIfInBounds_toArray, List.set_cons_zero, List.set_cons_succ]
    obtain ⟨i0, hi0, hz0, hs0, hb0⟩ := info_in
    obtain ⟨x1, happ, hown1, hg1⟩ := run_append_fits (P := Try.prog) x0 0 24 24 3 i0 1 (by kernel_rfl) hi0 hs0 g i cap (intsC (l.take i)) (HO0.out.take (by omega)).mine.own ⟨g, 0, none⟩ (n - (i + 1)) (cap - (i + 1)) (intsC (l.drop (i + 1))) (by simp [intsC, hlen]) (fun q u hu => by
      have hq : q < n - (i + 1) := by
        rcases Nat.lt_or_ge q (n - (i + 1)) with h | h
        · exact h
        · rw [List.getElem?_eq_none (by simp [intsC, hlen]; omega)] at hu; cases hu
      exfalso; omega) (ints_one _) (by omega)
    have hnm : i + (n - (i + 1)) = n - 1 := by omega
    rw [hnm] at happ hown1
    have HE : Hid (l.take i ++ l.drop (i + 1) = l.eraseIdx i) := hide (List.eraseIdx_eq_take_drop_succ l i).symm
    have HO1 : Hid (OwnI B g x1 (n - 1) cap (l.eraseIdx i)) := hide ⟨⟨by rw [← HE.out, intsC_app]; exact hown1, fun b hb => by simp [Value.ownBlock] at hb; have := H.out.ge; omega⟩, by rw [List.length_eraseIdx_of_lt (by omega), hlen]⟩
    have HK1 : Hid (Kept g w x1) := hide ⟨hg1.os.trans HK0.out.os, hg1.tape.trans HK0.out.tape, hg1.output.trans HK0.out.output, Nat.le_trans HK0.out.size hg1.size, fun k hk hn => (hg1.block k (Nat.lt_of_lt_of_le hk HK0.out.size) (fun e => hn (by cases e; rfl))).trans (HK0.out.block k hk hn)⟩
    have HCL : Hid (∃ cur, x1.heap[g]? = some (.cells cur 3 (0, 0)) ∧ cur.size = cap) := hide (by obtain ⟨cur, h1, _, h3, _⟩ := HO1.out.blk; exact ⟨cur, h1, h3⟩)
    clear hown1 hg1
    refine wpAnyH_ready (rs := [6]) (by kernel_rfl) (by simp) ?_
    refine AllReadyH.cons rfl (fun K hK => ?_) AllReadyH.nil
    refine (if_pos (by kernel_rfl)).mpr ?_
    refine wp_append_run happ _ _ rfl rfl rfl ?_
    simp only [Act.put, List.getElem_toArray, List.getElem_cons_succ, List.getElem_cons_zero, List.setIfInBounds_toArray, List.set_cons_zero, List.set_cons_succ]
    refine hK.out _ _ trivial (fun _ => ?_)
    clear hK K happ
    refine wpAnyH_ready (rs := [7]) (by kernel_rfl) (by simp) ?_
    refine AllReadyH.cons rfl (fun K hK => ?_) AllReadyH.nil
    go_simp
    refine hK.out _ _ trivial (fun _ => ?_)
    clear hK K
    refine wpAnyH_done (by kernel_rfl) ?_ _
    obtain ⟨HO2, HK2⟩ := OwnI.outs (List.replicate (n - (n - 1)) (.int .i64 0)) (n - 1) x1 (Nat.le_refl _) HO1.out
    have HO2 := hide HO2
    have HK2 := hide (HK1.out.trans HK2)
    have hclr := fun ty => Lib.run_clear_slice (P := Try.prog) x1 24 3 ty (.int .i64 0) (by kernel_rfl) (fun w => by kernel_rfl) rfl rfl g (n - 1) (n - (n - 1)) (cap - (n - 1)) (by omega) (fun q hq => by
      obtain ⟨cur, h1, h3⟩ := HCL.out
      rw [blk_cell h1]
      have : n - 1 + q < cur.size := by omega
      simp [this]) (fun q _ => HO1.out.frozen _)
    rw [show n - (n - 1) = 1 by omega, show cap - (n - 1) = 1 by omega, show n - 1 = i by omega] at hclr
    have hn1 : n - 1 ≤ n := by omega
    have hn1c : ((n - 1 : Nat) : Int) ≤ (n : Int) := by omega
    go_wp2_with fail
    go_ret
    have HO3 := HO2.out
    have HK3 := HK2.out
    rw [show n - (n - 1) = 1 by omega, show n - 1 = i by omega, hcap] at HO3
    rw [show n - (n - 1) = 1 by omega, show n - 1 = i by omega] at HK3
    rw [show n - 1 = i by omega, hcap]
    exact ⟨rfl, HO3, HK3⟩
  · skip
    refine wpAnyH_take (i := 5) (oi := ⟨some 25, _, _, _, _, _⟩) (v := (.slice (some ⟨g, i + 1, none⟩) (n - (i + 1)) (cap - (i + 1)))) rfl (by kernel_rfl) (by kernel_rfl) (by kernel_rfl) (fun _ _ _ h => h) (Or.inl ⟨by rfl, fun W hS => by (go_simp)⟩) trivial ?_
    simp only [Act.put, List.setIfInBounds_toArray, List.set_cons_zero, List.set_cons_succ]
    obtain ⟨i0, hi0, hz0, hs0, hb0⟩ := info_in
    obtain ⟨x1, happ, hown1, hg1⟩ := run_append_fits (P := Try.prog) x0 0 24 24 3 i0 1 (by kernel_rfl) hi0 hs0 g i cap (intsC (l.take i)) (HO0.out.take (by omega)).mine.own ⟨g, i + 1, none⟩ (n - (i + 1)) (cap - (i + 1)) (intsC (l.drop (i + 1))) (by simp [intsC, hlen]) (fun q u hu => by
      have hq : q < n - (i + 1) := by
        rcases Nat.lt_or_ge q (n - (i + 1)) with h | h
        · exact h
        · rw [List.getElem?_eq_none (by simp [intsC, hlen]; omega)] at hu; cases hu
      rw [Addr.add_lit, HO0.out.cell (by omega), ← hu]
      simp [intsC, outAt, List.getElem?_drop, show i + 1 + q < l.length by omega]) (ints_one _) (by omega)
    have hnm : i + (n - (i + 1)) = n - 1 := by omega
    rw [hnm] at happ hown1
    have HE : Hid (l.take i ++ l.drop (i + 1) = l.eraseIdx i) := hide (List.eraseIdx_eq_take_drop_succ l i).symm
    have HO1 : Hid (OwnI B g x1 (n - 1) cap (l.eraseIdx i)) := hide ⟨⟨by rw [← HE.out, intsC_app]; exact hown1, fun b hb => by simp [Value.ownBlock] at hb; have := H.out.ge; omega⟩, by rw [List.length_eraseIdx_of_lt (by omega), hlen]⟩
    have HK1 : Hid (Kept g w x1) := hide ⟨hg1.os.trans HK0.out.os, hg1.tape.trans HK0.out.tape, hg1.output.trans HK0.out.output, Nat.le_trans HK0.out.size hg1.size, fun k hk hn => (hg1.block k (Nat.lt_of_lt_of_le hk HK0.out.size) (fun e => hn (by cases e; rfl))).trans (HK0.out.block k hk hn)⟩
    have HCL : Hid (∃ cur, x1.heap[g]? = some (.cells cur 3 (0, 0)) ∧ cur.size = cap) := hide (by obtain ⟨cur, h1, _, h3, _⟩ := HO1.out.blk; exact ⟨cur, h1, h3⟩)
    clear hown1 hg1
    refine wpAnyH_ready (rs := [6]) (by kernel_rfl) (by simp) ?_
    refine AllReadyH.cons rfl (fun K hK => ?_) AllReadyH.nil
    refine (if_pos (by kernel_rfl)).mpr ?_
    refine wp_append_run happ _ _ rfl rfl rfl ?_
    simp only [Act.put, List.getElem_toArray, List.getElem_cons_succ, List.getElem_cons_zero, List.setIfInBounds_toArray, List.set_cons_zero, List.set_cons_succ]
    refine hK.out _ _ trivial (fun _ => ?_)
    clear hK K happ
    refine wpAnyH_ready (rs := [7]) (by kernel_rfl) (by simp) ?_
    refine AllReadyH.cons rfl (fun K hK => ?_) AllReadyH.nil
    go_simp
    refine hK.out _ _ trivial (fun _ => ?_)
    clear hK K
    refine wpAnyH_done (by kernel_rfl) ?_ _
    obtain ⟨HO2, HK2⟩ := OwnI.outs (List.replicate (n - (n - 1)) (.int .i64 0)) (n - 1) x1 (Nat.le_refl _) HO1.out
    have HO2 := hide HO2
    have HK2 := hide (HK1.out.trans HK2)
    have hclr := fun ty => Lib.run_clear_slice (P := Try.prog) x1 24 3 ty (.int .i64 0) (by kernel_rfl) (fun w => by kernel_rfl) rfl rfl g (n - 1) (n - (n - 1)) (cap - (n - 1)) (by omega) (fun q hq => by
      obtain ⟨cur, h1, h3⟩ := HCL.out
      rw [blk_cell h1]
      have : n - 1 + q < cur.size := by omega
      simp [this]) (fun q _ => HO1.out.frozen _)
    have hn1 : n - 1 ≤ n := by omega
    have hn1c : ((n - 1 : Nat) : Int) ≤ (n : Int) := by omega
    go_wp2_with fail
    go_ret
    exact ⟨rfl, HO2.out, HK2.out⟩
end Go.Proofs.Ytacgepdmhdcdkaa
