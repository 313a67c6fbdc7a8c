/-
  CONTRACTS of name, field, two and kind: of which type an expression is.
-/
import Derived.Deep.RegionHeld3
import Derived.Test.YtgncgbngjdcpgaaGreatDoorLook
set_option linter.unusedSimpArgs false
set_option linter.unusedVariables false
namespace Go.Proofs.YtgncgbngjdcpgaaGreatDoor
open Go.RowKit

abbrev TyRep : Value → Nat → Prop := fun v t => v = .int .i64 (t : Nat)
theorem Fd.fn {w : World} {LV : Value} {ds : List De} (h : Fd w LV ds) : ∃ F cs, LV = .func F #[] cs := by
  obtain ⟨P1, P3, M, g0, cap, ao, S, e, _⟩ := h
  exact ⟨_, _, e⟩
/-- the facts that a look at an expression reads -/
def Rdx (B X a b c : Nat) (va vb vc LV : Value) (W : World) : Prop := W.cell? ⟨B, 0, none⟩ = some LV ∧ W.cell? ⟨X, a, none⟩ = some va ∧ W.cell? ⟨X, b, none⟩ = some vb ∧ W.cell? ⟨X, c, none⟩ = some vc
theorem Rdx.below {B X a b c : Nat} {va vb vc LV : Value} {W W' : World} (h : Rdx B X a b c va vb vc LV W) (hb : Below W.heap.size W W') : Rdx B X a b c va vb vc LV W' :=
  ⟨(hb.cell (cell_lt h.1)).trans h.1, (hb.cell (cell_lt h.2.1)).trans h.2.1, (hb.cell (cell_lt h.2.2.1)).trans h.2.2.1, (hb.cell (cell_lt h.2.2.2)).trans h.2.2.2⟩

set_option maxRecDepth 100000 in
set_option maxHeartbeats 6400000 in
theorem lname_bad {w : World} {LV : Value} {ds : List De} (hl : ds.length ≤ 30) (h : Fd w LV ds) (s : ByteArray) (p : Nat) (X : Nat) (hX : w.heap[X]? = some (.cells #[.int .i64 2, .int .i64 p, .int .i64 0, .int .i64 0, .string s, .string ⟨#[]⟩, .string ⟨#[]⟩, .pointer none, .pointer none] 153 (0, 0))) (er : Int) (q : Nat) (hdc : declC (findC ds) s p = .bad er q) :
    Calls Tryz.prog 155 #[lkV LV, .pointer (some ⟨X, 0, none⟩)] w (Cks w TyRep (kindC (findC ds) (.name p s))) := by
  have HR : Hid (kindC (findC ds) (.name p s) = .bad er q) := hide (by simp only [kindC, hdc, Ck.bind])
  have HB := hide (below_alloc w (.cells #[LV] 122))
  have HN := hide (blk_new w (.cells #[LV] 122))
  have HX1 := hide (Below.blk HB.out hX)
  have HF1 := hide (h.below HB.out)
  obtain ⟨F, cs, rfl⟩ := h.fn
  clear h hX
  go_enter Tryz.func155, Tryz.ntmps155
  go_wp2_with fail
  generalize (w.alloc (.cells #[.func F #[] cs] 122)) = w1 at *
  have HS : Hid (Rdx w.heap.size X 4 1 1 (.string s) (.int .i64 p) (.int .i64 p) (.func F #[] cs) w1) := hide ⟨by rw [blk_cell HN.out]; rfl, by rw [blk_cell HX1.out]; rfl, by rw [blk_cell HX1.out]; rfl, by rw [blk_cell HX1.out]; rfl⟩
  have HBD := hide (show Below w1.heap.size w1 w1.drew from (Below.refl _ _).drew)
  have HLD : Hid (∀ W, Below w1.heap.size w1 W → Calls Tryz.prog 134 #[.agg #[.func F #[] cs], .string s, .int .i64 p] W fun e w' => Thrown er q e w' ∧ Below W.heap.size W w') := hide (fun W hb => (ldecl_at hl (HF1.out.below hb) s p).mono fun e w' h => by
    have h2 := h.2
    rw [hdc] at h2
    exact ⟨h2, h.1⟩)
  clear hdc
  refine wp_region_held_drew (S := Rdx w.heap.size X 4 1 1 (.string s) (.int .i64 p) (.int .i64 p) (.func F #[] cs)) (by kernel_rfl) (HS.out.below HBD.out) (fun _ => ?_)
  refine wpAnyH_take (i := 0) (oi := ⟨some 6, _, _, _, _, _⟩) (v := .agg #[.func F #[] cs]) rfl (by kernel_rfl) (by kernel_rfl) (by kernel_rfl) (fun _ _ _ h => h) (Or.inl ⟨by rfl, fun W hS => by obtain ⟨s0, s1, s2, s3⟩ := hS; go_simp⟩) (HS.out.below HBD.out) ?_
  simp only [Act.put, List.setIfInBounds_toArray, List.set_cons_zero, List.set_cons_succ]
  refine wpAnyH_take (i := 1) (oi := ⟨some 7, _, _, _, _, _⟩) (v := (.pointer (some ⟨X, 0, none⟩))) rfl (by kernel_rfl) (by kernel_rfl) (by kernel_rfl) (fun _ _ _ h => h) (Or.inl ⟨by rfl, fun W hS => by obtain ⟨s0, s1, s2, s3⟩ := hS; go_simp⟩) (HS.out.below HBD.out) ?_
  simp only [Act.put, List.setIfInBounds_toArray, List.set_cons_zero, List.set_cons_succ]
  refine wpAnyH_take (i := 2) (oi := ⟨some 8, _, _, _, _, _⟩) (v := (.pointer (some ⟨X, 0, none⟩))) rfl (by kernel_rfl) (by kernel_rfl) (by kernel_rfl) (fun _ _ _ h => h) (Or.inl ⟨by rfl, fun W hS => by obtain ⟨s0, s1, s2, s3⟩ := hS; go_simp⟩) (HS.out.below HBD.out) ?_
  simp only [Act.put, List.setIfInBounds_toArray, List.set_cons_zero, List.set_cons_succ]
  refine wpAnyH_take (i := 3) (oi := ⟨some 9, _, _, _, _, _⟩) (v := .pointer (some ⟨X, 4, none⟩)) rfl (by kernel_rfl) (by kernel_rfl) (by kernel_rfl) (fun _ _ _ h => h) (Or.inl ⟨by rfl, fun W hS => by obtain ⟨s0, s1, s2, s3⟩ := hS; go_simp⟩) (HS.out.below HBD.out) ?_
  simp only [Act.put, List.setIfInBounds_toArray, List.set_cons_zero, List.set_cons_succ]
  refine wpAnyH_take (i := 4) (oi := ⟨some 10, _, _, _, _, _⟩) (v := .string s) rfl (by kernel_rfl) (by kernel_rfl) (by kernel_rfl) (fun _ _ _ h => h) (Or.inl ⟨by rfl, fun W hS => by obtain ⟨s0, s1, s2, s3⟩ := hS; go_simp⟩) (HS.out.below HBD.out) ?_
  simp only [Act.put, List.setIfInBounds_toArray, List.set_cons_zero, List.set_cons_succ]
  refine wpAnyH_take (i := 5) (oi := ⟨some 11, _, _, _, _, _⟩) (v := (.pointer (some ⟨X, 0, none⟩))) rfl (by kernel_rfl) (by kernel_rfl) (by kernel_rfl) (fun _ _ _ h => h) (Or.inl ⟨by rfl, fun W hS => by obtain ⟨s0, s1, s2, s3⟩ := hS; go_simp⟩) (HS.out.below HBD.out) ?_
  simp only [Act.put, List.setIfInBounds_toArray, List.set_cons_zero, List.set_cons_succ]
  refine wpAnyH_take (i := 6) (oi := ⟨some 12, _, _, _, _, _⟩) (v := (.pointer (some ⟨X, 0, none⟩))) rfl (by kernel_rfl) (by kernel_rfl) (by kernel_rfl) (fun _ _ _ h => h) (Or.inl ⟨by rfl, fun W hS => by obtain ⟨s0, s1, s2, s3⟩ := hS; go_simp⟩) (HS.out.below HBD.out) ?_
  simp only [Act.put, List.setIfInBounds_toArray, List.set_cons_zero, List.set_cons_succ]
  refine wpAnyH_take (i := 7) (oi := ⟨some 13, _, _, _, _, _⟩) (v := .pointer (some ⟨X, 1, none⟩)) rfl (by kernel_rfl) (by kernel_rfl) (by kernel_rfl) (fun _ _ _ h => h) (Or.inl ⟨by rfl, fun W hS => by obtain ⟨s0, s1, s2, s3⟩ := hS; go_simp⟩) (HS.out.below HBD.out) ?_
  simp only [Act.put, List.setIfInBounds_toArray, List.set_cons_zero, List.set_cons_succ]
  refine wpAnyH_take (i := 8) (oi := ⟨some 14, _, _, _, _, _⟩) (v := .int .i64 p) rfl (by kernel_rfl) (by kernel_rfl) (by kernel_rfl) (fun _ _ _ h => h) (Or.inl ⟨by rfl, fun W hS => by obtain ⟨s0, s1, s2, s3⟩ := hS; go_simp⟩) (HS.out.below HBD.out) ?_
  simp only [Act.put, List.setIfInBounds_toArray, List.set_cons_zero, List.set_cons_succ]
  refine wpAnyH_ready (rs := [9, 10]) (by kernel_rfl) (by simp) ?_
  refine AllReadyH.cons rfl (fun K hK => ?_) (AllReadyH.cons rfl (fun K hK => ?_) AllReadyH.nil)
  · go_simp
    refine (HLD.out _ HBD.out).mono ?_
    rintro e w3 ⟨⟨A, rfl, hA⟩, hb3⟩
    exact ⟨rfl, Cks.bad HR.out (Below.step HB.out (Below.step HBD.out hb3)) hA⟩
  · go_simp
    have HBE : Hid (Below w1.heap.size w1 (w1.alloc (.cells #[.string ⟨#[]⟩, .int .i64 0, .int .i64 0, .int .i64 0] 60)).drew) := hide ((below_alloc w1 _).drew)
    refine hK.out _ _ (HS.out.below HBE.out) (fun _ => ?_)
    clear hK K
    refine wpAnyH_ready (rs := [9]) (by kernel_rfl) (by simp) ?_
    refine AllReadyH.cons rfl (fun K hK => ?_) AllReadyH.nil
    go_simp
    refine (HLD.out _ HBE.out).mono ?_
    rintro e w3 ⟨⟨A, rfl, hA⟩, hb3⟩
    exact ⟨rfl, Cks.bad HR.out (Below.step HB.out (Below.step HBE.out hb3)) hA⟩

set_option maxRecDepth 100000 in
set_option maxHeartbeats 6400000 in
theorem lname_ok {w : World} {LV : Value} {ds : List De} (hl : ds.length ≤ 30) (h : Fd w LV ds) (s : ByteArray) (p : Nat) (X : Nat) (hX : w.heap[X]? = some (.cells #[.int .i64 2, .int .i64 p, .int .i64 0, .int .i64 0, .string s, .string ⟨#[]⟩, .string ⟨#[]⟩, .pointer none, .pointer none] 153 (0, 0))) (nm : ByteArray) (way ty init : Nat) (hdc : declC (findC ds) s p = .ok ⟨nm, way, ty, init⟩) :
    Calls Tryz.prog 155 #[lkV LV, .pointer (some ⟨X, 0, none⟩)] w (Cks w TyRep (kindC (findC ds) (.name p s))) := by
  have HR : Hid (kindC (findC ds) (.name p s) = if widthN ty = 0 then .bad 1 p else .ok ty) := hide (by simp only [kindC, hdc, Ck.bind])
  have HB := hide (below_alloc w (.cells #[LV] 122))
  have HN := hide (blk_new w (.cells #[LV] 122))
  have HX1 := hide (Below.blk HB.out hX)
  have HF1 := hide (h.below HB.out)
  obtain ⟨F, cs, rfl⟩ := h.fn
  clear h hX
  go_enter Tryz.func155, Tryz.ntmps155
  go_wp2_with fail
  generalize (w.alloc (.cells #[.func F #[] cs] 122)) = w1 at *
  have HS : Hid (Rdx w.heap.size X 4 1 1 (.string s) (.int .i64 p) (.int .i64 p) (.func F #[] cs) w1) := hide ⟨by rw [blk_cell HN.out]; rfl, by rw [blk_cell HX1.out]; rfl, by rw [blk_cell HX1.out]; rfl, by rw [blk_cell HX1.out]; rfl⟩
  have HBD := hide (show Below w1.heap.size w1 w1.drew from (Below.refl _ _).drew)
  have HLD : Hid (∀ W, Below w1.heap.size w1 W → Calls Tryz.prog 134 #[.agg #[.func F #[] cs], .string s, .int .i64 p] W fun e w' => e = .returned (.agg #[.string nm, .int .i64 way, .int .i64 ty, .int .i64 init]) ∧ Below W.heap.size W w') := hide (fun W hb => (ldecl_at hl (HF1.out.below hb) s p).mono fun e w' h => by
    have h2 := h.2
    rw [hdc] at h2
    obtain ⟨v, rfl, rfl⟩ := h2
    exact ⟨rfl, h.1⟩)
  have HWI := hide fun W => width_at ty W
  have HC1 := hide fun (W : World) (hb : Below w1.heap.size w1 W) => (HS.out.below hb).2.2.1
  clear hdc
  refine wp_region_held_drew (S := Rdx w.heap.size X 4 1 1 (.string s) (.int .i64 p) (.int .i64 p) (.func F #[] cs)) (by kernel_rfl) (HS.out.below HBD.out) (fun _ => ?_)
  refine wpAnyH_take (i := 0) (oi := ⟨some 6, _, _, _, _, _⟩) (v := .agg #[.func F #[] cs]) rfl (by kernel_rfl) (by kernel_rfl) (by kernel_rfl) (fun _ _ _ h => h) (Or.inl ⟨by rfl, fun W hS => by obtain ⟨s0, s1, s2, s3⟩ := hS; go_simp⟩) (HS.out.below HBD.out) ?_
  simp only [Act.put, List.setIfInBounds_toArray, List.set_cons_zero, List.set_cons_succ]
  refine wpAnyH_take (i := 1) (oi := ⟨some 7, _, _, _, _, _⟩) (v := (.pointer (some ⟨X, 0, none⟩))) rfl (by kernel_rfl) (by kernel_rfl) (by kernel_rfl) (fun _ _ _ h => h) (Or.inl ⟨by rfl, fun W hS => by obtain ⟨s0, s1, s2, s3⟩ := hS; go_simp⟩) (HS.out.below HBD.out) ?_
  simp only [Act.put, List.setIfInBounds_toArray, List.set_cons_zero, List.set_cons_succ]
  refine wpAnyH_take (i := 2) (oi := ⟨some 8, _, _, _, _, _⟩) (v := (.pointer (some ⟨X, 0, none⟩))) rfl (by kernel_rfl) (by kernel_rfl) (by kernel_rfl) (fun _ _ _ h => h) (Or.inl ⟨by rfl, fun W hS => by obtain ⟨s0, s1, s2, s3⟩ := hS; go_simp⟩) (HS.out.below HBD.out) ?_
  simp only [Act.put, List.setIfInBounds_toArray, List.set_cons_zero, List.set_cons_succ]
  refine wpAnyH_take (i := 3) (oi := ⟨some 9, _, _, _, _, _⟩) (v := .pointer (some ⟨X, 4, none⟩)) rfl (by kernel_rfl) (by kernel_rfl) (by kernel_rfl) (fun _ _ _ h => h) (Or.inl ⟨by rfl, fun W hS => by obtain ⟨s0, s1, s2, s3⟩ := hS; go_simp⟩) (HS.out.below HBD.out) ?_
  simp only [Act.put, List.setIfInBounds_toArray, List.set_cons_zero, List.set_cons_succ]
  refine wpAnyH_take (i := 4) (oi := ⟨some 10, _, _, _, _, _⟩) (v := .string s) rfl (by kernel_rfl) (by kernel_rfl) (by kernel_rfl) (fun _ _ _ h => h) (Or.inl ⟨by rfl, fun W hS => by obtain ⟨s0, s1, s2, s3⟩ := hS; go_simp⟩) (HS.out.below HBD.out) ?_
  simp only [Act.put, List.setIfInBounds_toArray, List.set_cons_zero, List.set_cons_succ]
  refine wpAnyH_take (i := 5) (oi := ⟨some 11, _, _, _, _, _⟩) (v := (.pointer (some ⟨X, 0, none⟩))) rfl (by kernel_rfl) (by kernel_rfl) (by kernel_rfl) (fun _ _ _ h => h) (Or.inl ⟨by rfl, fun W hS => by obtain ⟨s0, s1, s2, s3⟩ := hS; go_simp⟩) (HS.out.below HBD.out) ?_
  simp only [Act.put, List.setIfInBounds_toArray, List.set_cons_zero, List.set_cons_succ]
  refine wpAnyH_take (i := 6) (oi := ⟨some 12, _, _, _, _, _⟩) (v := (.pointer (some ⟨X, 0, none⟩))) rfl (by kernel_rfl) (by kernel_rfl) (by kernel_rfl) (fun _ _ _ h => h) (Or.inl ⟨by rfl, fun W hS => by obtain ⟨s0, s1, s2, s3⟩ := hS; go_simp⟩) (HS.out.below HBD.out) ?_
  simp only [Act.put, List.setIfInBounds_toArray, List.set_cons_zero, List.set_cons_succ]
  refine wpAnyH_take (i := 7) (oi := ⟨some 13, _, _, _, _, _⟩) (v := .pointer (some ⟨X, 1, none⟩)) rfl (by kernel_rfl) (by kernel_rfl) (by kernel_rfl) (fun _ _ _ h => h) (Or.inl ⟨by rfl, fun W hS => by obtain ⟨s0, s1, s2, s3⟩ := hS; go_simp⟩) (HS.out.below HBD.out) ?_
  simp only [Act.put, List.setIfInBounds_toArray, List.set_cons_zero, List.set_cons_succ]
  refine wpAnyH_take (i := 8) (oi := ⟨some 14, _, _, _, _, _⟩) (v := .int .i64 p) rfl (by kernel_rfl) (by kernel_rfl) (by kernel_rfl) (fun _ _ _ h => h) (Or.inl ⟨by rfl, fun W hS => by obtain ⟨s0, s1, s2, s3⟩ := hS; go_simp⟩) (HS.out.below HBD.out) ?_
  simp only [Act.put, List.setIfInBounds_toArray, List.set_cons_zero, List.set_cons_succ]
  refine wpAnyH_ready (rs := [9, 10]) (by kernel_rfl) (by simp) ?_
  refine AllReadyH.cons rfl (fun K hK => ?_) (AllReadyH.cons rfl (fun K hK => ?_) AllReadyH.nil)
  · go_simp
    refine (HLD.out _ HBD.out).mono ?_
    rintro e w3 ⟨rfl, hb3⟩
    have HB3 := hide (Below.step HBD.out hb3)
    clear hb3
    refine hK.out _ _ (HS.out.below HB3.out) (fun _ => ?_)
    clear hK K
    refine wpAnyH_ready (rs := [10]) (by kernel_rfl) (by simp) ?_
    refine AllReadyH.cons rfl (fun K hK => ?_) AllReadyH.nil
    go_simp
    refine hK.out _ _ (HS.out.below (Below.step HB3.out (below_alloc _ _))) (fun _ => ?_)
    clear hK K
    refine wpAnyH_ready (rs := [11]) (by kernel_rfl) (by simp) ?_
    refine AllReadyH.cons rfl (fun K hK => ?_) AllReadyH.nil
    go_simp
    have HB5 := hide (Below.step HB3.out (below_alloc w3 (.cells #[.string nm, .int .i64 way, .int .i64 ty, .int .i64 init] 60)))
    have HN5 := hide (blk_new w3 (.cells #[.string nm, .int .i64 way, .int .i64 ty, .int .i64 init] 60))
    refine hK.out _ _ (HS.out.below HB5.out) (fun _ => ?_)
    clear hK K
    refine wpAnyH_done (by kernel_rfl) ?_ _
    generalize (w3.alloc (.cells #[.string nm, .int .i64 way, .int .i64 ty, .int .i64 init] 60)) = W5 at *
    have f2 : W5.cell? ⟨w3.heap.size, 2, none⟩ = some (.int .i64 ty) := by rw [blk_cell HN5.out]; rfl
    have f1 : W5.cell? ⟨X, 1, none⟩ = some (.int .i64 p) := HC1.out W5 HB5.out
    go_wp2_with fail
    refine (HWI.out W5).mono ?_
    rintro e w6 ⟨rfl, rfl⟩
    by_cases hw0 : widthN ty = 0
    · have HR2 : Hid (kindC (findC ds) (.name p s) = .bad 1 p) := hide (by rw [HR.out, if_pos hw0])
      rw [hw0]
      go_wp2_with fail
      refine (throw_at 1 p _).mono ?_
      rintro e w7 ⟨⟨A, rfl, hA⟩, hb7⟩
      have HA := hide hA
      have HB7 := hide (Below.step HB.out (Below.step HB5.out hb7))
      clear hA hb7
      go_wp2_with fail
      exact ⟨rfl, Cks.bad HR2.out HB7.out HA.out⟩
    · have HR2 : Hid (kindC (findC ds) (.name p s) = .ok ty) := hide (by rw [HR.out, if_neg hw0])
      have hwi : (((widthN ty : Nat) : Int) == 0) = false := by simp; omega
      generalize widthN ty = wd at *
      go_wp2_with fail
      go_ret
      exact Cks.ok HR2.out (Below.step HB.out HB5.out) rfl
  · go_simp
    have HBE : Hid (Below w1.heap.size w1 (w1.alloc (.cells #[.string ⟨#[]⟩, .int .i64 0, .int .i64 0, .int .i64 0] 60)).drew) := hide ((below_alloc w1 _).drew)
    refine hK.out _ _ (HS.out.below HBE.out) (fun _ => ?_)
    clear hK K
    refine wpAnyH_ready (rs := [9]) (by kernel_rfl) (by simp) ?_
    refine AllReadyH.cons rfl (fun K hK => ?_) AllReadyH.nil
    go_simp
    refine (HLD.out _ HBE.out).mono ?_
    rintro e w3 ⟨rfl, hb3⟩
    have HB3 := hide (Below.step HBE.out hb3)
    have HN3 := hide (Below.blk hb3 (show (w1.alloc (.cells #[.string ⟨#[]⟩, .int .i64 0, .int .i64 0, .int .i64 0] 60)).drew.heap[w1.heap.size]? = some (.cells #[.string ⟨#[]⟩, .int .i64 0, .int .i64 0, .int .i64 0] 60 (0, 0)) from blk_new w1 _))
    clear hb3
    refine hK.out _ _ (HS.out.below HB3.out) (fun _ => ?_)
    clear hK K
    have e0 : w3.cell? ⟨w1.heap.size, 0, none⟩ = some (.string ⟨#[]⟩) := by rw [blk_cell HN3.out]; rfl
    have e1 : w3.cell? ⟨w1.heap.size, 1, none⟩ = some (.int .i64 0) := by rw [blk_cell HN3.out]; rfl
    have e2 : w3.cell? ⟨w1.heap.size, 2, none⟩ = some (.int .i64 0) := by rw [blk_cell HN3.out]; rfl
    have e3 : w3.cell? ⟨w1.heap.size, 3, none⟩ = some (.int .i64 0) := by rw [blk_cell HN3.out]; rfl
    have ef : ∀ i, w3.frozen? ⟨w1.heap.size, i, none⟩ = false := blk_frozen HN3.out
    refine wpAnyH_ready (rs := [11]) (by kernel_rfl) (by simp) ?_
    refine AllReadyH.cons rfl (fun K hK => ?_) AllReadyH.nil
    go_simp
    have HB5 : Hid (Below w1.heap.size w1 ((((w3.setCell ⟨w1.heap.size, 0, none⟩ (.string nm)).setCell ⟨w1.heap.size, 1, none⟩ (.int .i64 way)).setCell ⟨w1.heap.size, 2, none⟩ (.int .i64 ty)).setCell ⟨w1.heap.size, 3, none⟩ (.int .i64 init))) := hide ((((HB3.out.setCell (Nat.le_refl _) _).setCell (Nat.le_refl _) _).setCell (Nat.le_refl _) _).setCell (Nat.le_refl _) _)
    have HN5 : Hid (((((w3.setCell ⟨w1.heap.size, 0, none⟩ (.string nm)).setCell ⟨w1.heap.size, 1, none⟩ (.int .i64 way)).setCell ⟨w1.heap.size, 2, none⟩ (.int .i64 ty)).setCell ⟨w1.heap.size, 3, none⟩ (.int .i64 init)).heap[w1.heap.size]? = some (.cells #[.string nm, .int .i64 way, .int .i64 ty, .int .i64 init] 60 (0, 0))) := hide (by
      rw [blk_set (blk_set (blk_set (blk_set HN3.out 0 (.string nm)) 1 (.int .i64 way)) 2 (.int .i64 ty)) 3 (.int .i64 init)]
      rfl)
    refine hK.out _ _ (HS.out.below HB5.out) (fun _ => ?_)
    clear hK K e0 e1 e2 e3 ef
    refine wpAnyH_done (by kernel_rfl) ?_ _
    generalize ((((w3.setCell ⟨w1.heap.size, 0, none⟩ (.string nm)).setCell ⟨w1.heap.size, 1, none⟩ (.int .i64 way)).setCell ⟨w1.heap.size, 2, none⟩ (.int .i64 ty)).setCell ⟨w1.heap.size, 3, none⟩ (.int .i64 init)) = W5 at *
    have f2 : W5.cell? ⟨w1.heap.size, 2, none⟩ = some (.int .i64 ty) := by rw [blk_cell HN5.out]; rfl
    have f1 : W5.cell? ⟨X, 1, none⟩ = some (.int .i64 p) := HC1.out W5 HB5.out
    go_wp2_with fail
    refine (HWI.out W5).mono ?_
    rintro e w6 ⟨rfl, rfl⟩
    by_cases hw0 : widthN ty = 0
    · have HR2 : Hid (kindC (findC ds) (.name p s) = .bad 1 p) := hide (by rw [HR.out, if_pos hw0])
      rw [hw0]
      go_wp2_with fail
      refine (throw_at 1 p _).mono ?_
      rintro e w7 ⟨⟨A, rfl, hA⟩, hb7⟩
      have HA := hide hA
      have HB7 := hide (Below.step HB.out (Below.step HB5.out hb7))
      clear hA hb7
      go_wp2_with fail
      exact ⟨rfl, Cks.bad HR2.out HB7.out HA.out⟩
    · have HR2 : Hid (kindC (findC ds) (.name p s) = .ok ty) := hide (by rw [HR.out, if_neg hw0])
      have hwi : (((widthN ty : Nat) : Int) == 0) = false := by simp; omega
      generalize widthN ty = wd at *
      go_wp2_with fail
      go_ret
      exact Cks.ok HR2.out (Below.step HB.out HB5.out) rfl
end Go.Proofs.YtgncgbngjdcpgaaGreatDoor
