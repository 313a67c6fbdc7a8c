/-
  CONTRACT of CompactFunc of ways.
-/
import Derived.Test.YtacgepdmhdcdkaaLWt
import Derived.Test.YtacgepdmhdcdkaaLEq
import Derived.Test.YtacgepdmhdcdkaaLDl
import Derived.Lib.SliceRun
set_option linter.unusedSimpArgs false
set_option linter.unusedVariables false
namespace Go.Proofs.Ytacgepdmhdcdkaa
open Go.RowKit

theorem zeroCells_lut (n : Nat) : (Builtin.zeroCells (Value.agg #[.slice none 0 0, .int .i64 0]).cells n).size = n * 2 ∧ ∀ v ∈ (Builtin.zeroCells (Value.agg #[.slice none 0 0, .int .i64 0]).cells n).toList, v.oneCell' = true := by
  have hc : (Value.agg #[.slice none 0 0, .int .i64 0]).cells = #[Value.slice none 0 0, Value.int .i64 0] := by kernel_rfl
  rw [hc]
  refine ⟨by simp [Builtin.zeroCells], fun v hv => ?_⟩
  rw [Builtin.zeroCells, Array.toList_map, List.mem_map] at hv
  obtain ⟨i, _, rfl⟩ := hv
  have : i % 2 = 0 ∨ i % 2 = 1 := by omega
  rcases this with h | h <;> simp [h] <;> rfl
theorem clear_luts (w : World) (ty : TypeId) (b o n c : Nat) (hn : 0 < n) (hc : ∀ j, j < n * 2 → (w.cell? ⟨b, o + j, none⟩).isSome = true) (hf : ∀ j, j < n * 2 → w.frozen? ⟨b, o + j, none⟩ = false) :
    (Builtin.clear_ #[23] ty #[.slice (some ⟨b, o, none⟩) n c]).run Try.prog w = .ok (.tuple #[]) (w.setCells b o (Builtin.zeroCells (Value.agg #[.slice none 0 0, .int .i64 0]).cells n).toList) := by
  obtain ⟨h1, h2⟩ := zeroCells_lut n
  have ht : Try.prog.underlying 23 = some (.slice 44) := by kernel_rfl
  have hv : ∀ w, (zeroValue 44).run Try.prog w = .ok (Value.agg #[.slice none 0 0, .int .i64 0]) w := fun w => by kernel_rfl
  generalize hz : (Value.agg #[.slice none 0 0, .int .i64 0]) = z at *
  have hst := run_storeCells_cells (P := Try.prog) b o (Builtin.zeroCells z.cells n).toList 0 w (by simpa [h1] using hc) (by simpa [h1] using hf) h2
  simp only [Nat.add_zero] at hst
  obtain ⟨m, rfl⟩ : ∃ m, n = m + 1 := ⟨n - 1, by omega⟩
  simp [Builtin.clear_, run_underlying ht, hv, hst]
theorem OwnW.out {B g : Nat} {w : World} {k cap : Nat} {l : List Wy} (h : OwnW B g w k cap l) {i : Nat} (hk : k * 2 ≤ i) (v : Value) : OwnW B g (w.setCell ⟨g, i, none⟩ v) k cap l := by
  obtain ⟨cur, h1, h2, h3, h4⟩ := h.blk
  refine OwnW.mk' (cur := cur.setIfInBounds i v) h.ge (blk_set h1 _ _) h2 (by simpa using h3) h.capM ?_ h.len
  rw [Array.toList_setIfInBounds, List.take_set, h4]
  exact List.set_eq_of_length_le (by rw [wyC_len, h.len]; exact hk)
theorem OwnW.outs {B g : Nat} {k cap : Nat} {l : List Wy} : ∀ (vs : List Value) (o : Nat) (w : World), k * 2 ≤ o → OwnW B g w k cap l → OwnW B g (w.setCells g o vs) k cap l ∧ Kept g w (w.setCells g o vs)
  | [], _, w, _, h => ⟨h, Kept.refl _ _⟩
  | v :: vs, o, w, hk, h => by
    have h1 := h.out hk v
    obtain ⟨h2, h3⟩ := OwnW.outs vs (o + 1) (w.setCell ⟨g, o, none⟩ v) (by omega) h1
    exact ⟨h2, (Kept.set w o v).trans h3⟩
theorem OwnW.take {B g : Nat} {w : World} {n cap : Nat} {l : List Wy} (h : OwnW B g w n cap l) {k : Nat} (hk : k ≤ n) : OwnW B g w k cap (l.take k) := by
  obtain ⟨cur, h1, h2, h3, h4⟩ := h.blk
  refine OwnW.mk' h.ge h1 (by omega) h3 h.capM ?_ (by rw [List.length_take, h.len]; omega)
  have : (cur.toList.take (n * 2)).take (k * 2) = (wyC l).take (k * 2) := by rw [h4]
  rw [List.take_take, Nat.min_eq_left (by omega)] at this
  rw [this]
  clear this h4
  have : ∀ (k : Nat) (l : List Wy), (wyC l).take (k * 2) = wyC (l.take k) := by
    intro k
    induction k with
    | zero => intro l; simp [wyC]
    | succ k ih =>
      intro l
      cases l with
      | nil => simp [wyC]
      | cons x l => rw [wyC_cons, show (k + 1) * 2 = k * 2 + 1 + 1 by omega, List.take_succ_cons, List.take_succ_cons, ih, List.take_succ_cons, wyC_cons]
  exact this k l
theorem wyAt_mem {l : List Wy} {i : Nat} (hi : i < l.length) : wyAt l i ∈ l := by
  have e : wyAt l i = l[i] := by simp [wyAt, hi]
  rw [e]; exact List.getElem_mem _
set_option maxRecDepth 100000 in
set_option maxHeartbeats 12800000 in
theorem wcompact_at {B g : Nat} {w : World} {n cap : Nat} {l : List Wy} (h : OwnW B g w n cap l) (hn : n ≤ 100) (HE : Hid (∀ W, Kept g w W → ∀ x ∈ l, ∀ y ∈ l, Calls Try.prog 43 #[.agg #[.slice x.a x.l.ins.length x.c, .int .i64 x.l.table], .agg #[.slice y.a y.l.ins.length y.c, .int .i64 y.l.table]] W fun e w' => e = .returned (.bool (decide (x.l.ins = y.l.ins))) ∧ Below W.heap.size W w')) :
    Calls Try.prog 42 #[.slice (some ⟨g, 0, none⟩) n cap, .func (.func 43) #[] #[]] w fun e w' => (∃ (k : Nat) (l' : List Wy), e = .returned (.slice (some ⟨g, 0, none⟩) k cap) ∧ OwnW B g w' k cap l' ∧ k ≤ n ∧ (0 < n → 0 < k) ∧ ∀ x ∈ l', x ∈ l) ∧ Kept g w w' := by
  have H := hide h
  have hnc : n ≤ cap := by obtain ⟨cur, _, h2, _⟩ := h.blk; exact h2
  have hcm := h.capM
  have hcm2 : cap ≤ 9223372036854775807 := Nat.le_trans hcm (by decide)
  have hlen := h.len
  clear h hcm
  by_cases h2 : (n : Int) < 2
  · go_enter Try.func42, Try.ntmps42
    go_wp2_with fail
    go_ret
    exact ⟨⟨n, l, rfl, H.out, Nat.le_refl _, fun h => h, fun _ h => h⟩, Kept.refl _ _⟩
  · go_enter Try.func42, Try.ntmps42
    go_wp2_with fail
    go_loopw [5, 6, 7] (fun i _ _ wr => ∃ j : Nat, j + 1 ≤ n ∧ i = .int .i64 (j + 1 : Nat) ∧ Hid (OwnW B g wr n cap l) ∧ Hid (Kept g w wr)) (fun i _ _ _ => n - (intOf i).toNat)
    case atStart => exact ⟨0, by omega, rfl, H, hide (Kept.refl _ _)⟩
    case round =>
      obtain ⟨j, hj, rfl, ho, hk⟩ := hrel
      by_cases hlt : j + 1 < n
      · have hji : ((j + 1 : Nat) : Int) < (n : Int) := by omega
        have q0 := cell_regrown (ho.out.cells (i := j) (by omega)).1
        have q1 := cell_regrown (ho.out.cells (i := j) (by omega)).2
        have q2 := cell_regrown (ho.out.cells (i := j + 1) (by omega)).1
        have q3 := cell_regrown (ho.out.cells (i := j + 1) (by omega)).2
        have HW := hide fun W (hW : Kept g w W) => HE.out W hW (wyAt l (j + 1)) (wyAt_mem (by omega)) (wyAt l j) (wyAt_mem (by omega))
        generalize wyAt l (j + 1) = x at *
        generalize wyAt l j = y at *
        simp only [wy0, wy1] at q0 q1 q2 q3
        have e1 : ¬ (n : Int) ≤ (j : Int) + 1 := by omega
        have e2 : ¬ n ≤ j := by omega
        have e3 : (0 : Int) ≤ (j : Int) + 1 := by omega
        have e4 : j < n := by omega
        have hwj : IntKind.i64.wrap (j : Int) = (j : Int) := wrap_id rfl (by omega) (by omega)
        generalize hbq : decide (x.l.ins = y.l.ins) = bq at *
        clear hbq
        cases bq with
        | true =>
          have HCQ : Hid (∀ d o, Calls Try.prog 43 #[.agg #[.slice x.a x.l.ins.length x.c, .int .i64 x.l.table], .agg #[.slice y.a y.l.ins.length y.c, .int .i64 y.l.table]] (Sort.grow (redrawn wr d) o) fun e w'' => e = .returned (.bool true) ∧ ∃ p : Regrown, w'' = Sort.grow (redrawn wr p.d) p.os) := hide fun d o => Calls.regrown_of (HW.out _ (hk.out.below (below_regrown wr d o)))
          go_wp2_with fail
          refine wp_region_quiet_below (by kernel_rfl) (by kernel_rfl) ?_
          repeat (quiet_step (with_reducible exact HCQ.out _ _))
          refine wpQuiet_nil ?_
          intro _ hw'
          obtain ⟨⟨dq, osq⟩, hw''⟩ := hw'
          subst hw''
          clear q0 q1 q2 q3 HCQ HW
          have ho := hide (ho.out.below (below_regrown wr dq osq))
          have hk := hide (hk.out.below (below_regrown wr dq osq))
          generalize Sort.grow (redrawn wr dq) osq = wa at *
          go_wp2_with fail
          have hpl : j + 1 + (n - (j + 1)) = n := by omega
          have hr1 : 1 ≤ n - (j + 1) := by omega
          have HSUB : Hid (∀ x ∈ l, x ∈ l) := hide fun _ h => h
          generalize n - (j + 1) = r at *
          generalize cap - (j + 1) = rc at *
          clear e1 e2 e3 e4 hwj
          go_loopw [5, 7] (fun a b wr => ∃ (k m : Nat) (c : List Wy), a = .int .i64 k ∧ b = .int .i64 (m + 1 : Nat) ∧ m + 1 ≤ r ∧ k ≤ j + 1 + m ∧ 1 ≤ k ∧ Hid (OwnW B g wr n cap c) ∧ Hid (∀ x ∈ c, x ∈ l) ∧ Hid (Kept g w wr)) (fun _ b _ => r - (intOf b).toNat)
          case atStart => exact ⟨j + 1, 0, l, rfl, rfl, hr1, by omega, by omega, ho, HSUB, hk⟩
          case round =>
            clear ho hk HSUB
            obtain ⟨k, m, c, rfl, rfl, hmr, hkj, hk1, ho, hc, hk⟩ := hrel
            have hcl := ho.out.len
            by_cases hlt2 : m + 1 < r
            · have hmi : ((m + 1 : Nat) : Int) < (r : Int) := by omega
              have HO1 : Hid ((j + 1 + m) * 2 = (j + 1) * 2 + m * 2 ∧ (j + 1 + (m + 1)) * 2 = (j + 1) * 2 + (m + 1) * 2) := hide ⟨by omega, by omega⟩
              have q0 := cell_regrown (ho.out.cells (i := j + 1 + m) (by omega)).1
              have q1 := cell_regrown (ho.out.cells (i := j + 1 + m) (by omega)).2
              have q2 := cell_regrown (ho.out.cells (i := j + 1 + (m + 1)) (by omega)).1
              have q3 := cell_regrown (ho.out.cells (i := j + 1 + (m + 1)) (by omega)).2
              rw [HO1.out.1] at q0 q1
              rw [HO1.out.2] at q2 q3
              have HW := hide fun W (hW : Kept g w W) => HE.out W hW (wyAt c (j + 1 + (m + 1))) (hc.out _ (wyAt_mem (by omega))) (wyAt c (j + 1 + m)) (hc.out _ (wyAt_mem (by omega)))
              have HXI : Hid (wyAt c (j + 1 + (m + 1)) ∈ l) := hide (hc.out _ (wyAt_mem (by omega)))
              have HXE : Hid (wyAt c (j + 1 + (m + 1)) = wyAt c (j + 1 + (m + 1))) := hide rfl
              generalize hxx : wyAt c (j + 1 + (m + 1)) = x at q2 q3 HW HXI
              have HXX := hide hxx
              generalize wyAt c (j + 1 + m) = y at *
              clear hxx HXE
              simp only [wy0, wy1] at q0 q1 q2 q3
              have e1 : ¬ (r : Int) ≤ (m : Int) + 1 := by omega
              have e2 : ¬ r ≤ m := by omega
              have e3 : (0 : Int) ≤ (m : Int) + 1 := by omega
              have e4 : m < r := by omega
              have hwm : IntKind.i64.wrap (m : Int) = (m : Int) := wrap_id rfl (by omega) (by omega)
              have hkn : (k : Int) < (n : Int) := by omega
              generalize hbq : decide (x.l.ins = y.l.ins) = bq at *
              clear hbq
              cases bq with
              | true =>
                have HCQ : Hid (∀ d o, Calls Try.prog 43 #[.agg #[.slice x.a x.l.ins.length x.c, .int .i64 x.l.table], .agg #[.slice y.a y.l.ins.length y.c, .int .i64 y.l.table]] (Sort.grow (redrawn wr d) o) fun e w'' => e = .returned (.bool true) ∧ ∃ p : Regrown, w'' = Sort.grow (redrawn wr p.d) p.os) := hide fun d o => Calls.regrown_of (HW.out _ (hk.out.below (below_regrown wr d o)))
                go_wp2_with fail
                refine wp_region_quiet_below (by kernel_rfl) (by kernel_rfl) ?_
                repeat (quiet_step (with_reducible exact HCQ.out _ _))
                refine wpQuiet_nil ?_
                intro _ hw'
                obtain ⟨⟨dq, osq⟩, hw''⟩ := hw'
                subst hw''
                clear q0 q1 q2 q3 HCQ HW
                have ho := hide (ho.out.below (below_regrown wr dq osq))
                have hk := hide (hk.out.below (below_regrown wr dq osq))
                generalize Sort.grow (redrawn wr dq) osq = wb at *
                go_wp2_with fail
                exact ⟨⟨k, m + 1, c, rfl, by go_num, by omega, by omega, hk1, ho, hc, hk⟩, by simp [intOf]; omega⟩
              | false =>
                have HCQ : Hid (∀ d o, Calls Try.prog 43 #[.agg #[.slice x.a x.l.ins.length x.c, .int .i64 x.l.table], .agg #[.slice y.a y.l.ins.length y.c, .int .i64 y.l.table]] (Sort.grow (redrawn wr d) o) fun e w'' => e = .returned (.bool false) ∧ ∃ p : Regrown, w'' = Sort.grow (redrawn wr p.d) p.os) := hide fun d o => Calls.regrown_of (HW.out _ (hk.out.below (below_regrown wr d o)))
                go_wp2_with fail
                refine wp_region_quiet_below (by kernel_rfl) (by kernel_rfl) ?_
                repeat (quiet_step (with_reducible exact HCQ.out _ _))
                refine wpQuiet_nil ?_
                intro _ hw'
                obtain ⟨⟨dq, osq⟩, hw''⟩ := hw'
                subst hw''
                clear q0 q1 q2 q3 HCQ HW
                have ho := hide (ho.out.below (below_regrown wr dq osq))
                have hk := hide (hk.out.below (below_regrown wr dq osq))
                generalize Sort.grow (redrawn wr dq) osq = wb at *
                have q2 := (ho.out.cells (i := j + 1 + (m + 1)) (by omega)).1
                have q3 := (ho.out.cells (i := j + 1 + (m + 1)) (by omega)).2
                rw [HO1.out.2, HXX.out] at q2 q3
                obtain ⟨k1, k2⟩ := ho.out.cells (i := k) (by omega)
                generalize wy0 (wyAt c k) = o1 at k1
                generalize wy1 (wyAt c k) = o2 at k2
                have f1 := ho.out.frozen (k * 2)
                have f2 := ho.out.frozen (k * 2 + 1)
                have HO2 := hide (ho.out.set k x)
                have HK2 := hide ((hk.out.step (k * 2) (wy0 x)).step (k * 2 + 1) (wy1 x))
                have HC2 : Hid (∀ z ∈ c.set k x, z ∈ l) := hide fun z hz => by
                  rcases List.mem_or_eq_of_mem_set hz with h | rfl
                  · exact hc.out z h
                  · exact HXI.out
                simp only [wy0, wy1] at HO2 HK2 q2 q3
                clear HO1 HXI HXX hc ho hk
                go_wp2_with fail
                exact ⟨⟨k + 1, m + 1, _, by go_num, by go_num, by omega, by omega, by omega, HO2, HC2, HK2⟩, by simp [intOf]; omega⟩
            · have hmr2 : m + 1 = r := by omega
              have HOT := hide (ho.out.take (k := k) (by omega))
              obtain ⟨HO2, HK2⟩ := OwnW.outs (Builtin.zeroCells (Value.agg #[.slice none 0 0, .int .i64 0]).cells (n - k)).toList (k * 2) wr (Nat.le_refl _) HOT.out
              have HO2 := hide HO2
              have HK2 := hide (hk.out.trans HK2)
              have HMEM : Hid (∀ x ∈ c.take k, x ∈ l) := hide fun x hx => hc.out x (List.mem_of_mem_take hx)
              have hclr := fun ty => clear_luts wr ty g (k * 2) (n - k) (cap - k) (by omega) (fun q hq => by
                have hq2 : q = q / 2 * 2 ∨ q = q / 2 * 2 + 1 := by omega
                rcases hq2 with h | h
                · rw [show k * 2 + q = (k + q / 2) * 2 by omega, (ho.out.cells (by omega)).1]; rfl
                · rw [show k * 2 + q = (k + q / 2) * 2 + 1 by omega, (ho.out.cells (by omega)).2]; rfl) (fun q _ => ho.out.frozen _)
              have hkn : k ≤ n := by omega
              have hkc : k ≤ cap := by omega
              clear hc ho
              go_wp2_with fail
              go_ret
              exact ⟨⟨k, c.take k, rfl, HO2.out, hkn, fun _ => hk1, HMEM.out⟩, HK2.out⟩
        | false =>
          have HCQ : Hid (∀ d o, Calls Try.prog 43 #[.agg #[.slice x.a x.l.ins.length x.c, .int .i64 x.l.table], .agg #[.slice y.a y.l.ins.length y.c, .int .i64 y.l.table]] (Sort.grow (redrawn wr d) o) fun e w'' => e = .returned (.bool false) ∧ ∃ p : Regrown, w'' = Sort.grow (redrawn wr p.d) p.os) := hide fun d o => Calls.regrown_of (HW.out _ (hk.out.below (below_regrown wr d o)))
          go_wp2_with fail
          refine wp_region_quiet_below (by kernel_rfl) (by kernel_rfl) ?_
          repeat (quiet_step (with_reducible exact HCQ.out _ _))
          refine wpQuiet_nil ?_
          intro _ hw'
          obtain ⟨⟨dq, osq⟩, hw''⟩ := hw'
          subst hw''
          clear q0 q1 q2 q3 HCQ HW
          have ho := hide (ho.out.below (below_regrown wr dq osq))
          have hk := hide (hk.out.below (below_regrown wr dq osq))
          generalize Sort.grow (redrawn wr dq) osq = wa at *
          go_wp2_with fail
          exact ⟨⟨j + 1, by omega, by go_num, ho, hk⟩, by simp [intOf]; omega⟩
      · go_wp2_with fail
        go_ret
        exact ⟨⟨n, l, rfl, ho.out, Nat.le_refl _, fun h => h, fun _ h => h⟩, hk.out⟩
end Go.Proofs.Ytacgepdmhdcdkaa
