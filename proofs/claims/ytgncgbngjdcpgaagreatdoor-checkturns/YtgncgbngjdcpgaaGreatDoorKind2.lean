/-
  CONTRACTS of field and two.
-/
import Derived.Test.YtgncgbngjdcpgaaGreatDoorKind
set_option linter.unusedSimpArgs false
set_option linter.unusedVariables false
namespace Go.Proofs.YtgncgbngjdcpgaaGreatDoor
open Go.RowKit

set_option maxRecDepth 100000 in
set_option maxHeartbeats 6400000 in
theorem lfield_bad {w : World} {LV : Value} {ds : List De} (hl : ds.length ≤ 30) (h : Fd w LV ds) (s g : ByteArray) (p : Nat) (X : Nat) (hX : w.heap[X]? = some (.cells #[.int .i64 3, .int .i64 p, .int .i64 0, .int .i64 0, .string s, .string g, .string ⟨#[]⟩, .pointer none, .pointer none] 153 (0, 0))) (er : Int) (q : Nat) (hdc : declC (findC ds) s p = .bad er q) :
    Calls Tryz.prog 156 #[lkV LV, .pointer (some ⟨X, 0, none⟩)] w (Cks w TyRep (kindC (findC ds) (.field p s g))) := by
  have HR : Hid (kindC (findC ds) (.field p s g) = .bad er q) := hide (by simp only [kindC, hdc, Ck.bind])
  have HB := hide (below_alloc w (.cells #[LV] 122))
  have HN := hide (blk_new w (.cells #[LV] 122))
  have HX1 := hide (Below.blk HB.out hX)
  have HF1 := hide (h.below HB.out)
  obtain ⟨F, cs, rfl⟩ := h.fn
  clear h hX
  go_enter Tryz.func156, Tryz.ntmps156
  go_wp2_with fail
  generalize (w.alloc (.cells #[.func F #[] cs] 122)) = w1 at *
  have HS : Hid (Rdx w.heap.size X 4 1 5 (.string s) (.int .i64 p) (.string g) (.func F #[] cs) w1) := hide ⟨by rw [blk_cell HN.out]; rfl, by rw [blk_cell HX1.out]; rfl, by rw [blk_cell HX1.out]; rfl, by rw [blk_cell HX1.out]; rfl⟩
  have HBD := hide (show Below w1.heap.size w1 w1.drew from (Below.refl _ _).drew)
  have HLD : Hid (∀ W, Below w1.heap.size w1 W → Calls Tryz.prog 134 #[.agg #[.func F #[] cs], .string s, .int .i64 p] W fun e w' => Thrown er q e w' ∧ Below W.heap.size W w') := hide (fun W hb => (ldecl_at hl (HF1.out.below hb) s p).mono fun e w' h => by
    have h2 := h.2
    rw [hdc] at h2
    exact ⟨h2, h.1⟩)
  clear hdc
  refine wp_region_held_drew (S := Rdx w.heap.size X 4 1 5 (.string s) (.int .i64 p) (.string g) (.func F #[] cs)) (by kernel_rfl) (HS.out.below HBD.out) (fun _ => ?_)
  refine wpAnyH_take (i := 0) (oi := ⟨some 6, _, _, _, _, _⟩) (v := .agg #[.func F #[] cs]) rfl (by kernel_rfl) (by kernel_rfl) (by kernel_rfl) (fun _ _ _ h => h) (Or.inl ⟨by rfl, fun W hS => by obtain ⟨s0, s1, s2, s3⟩ := hS; go_simp⟩) (HS.out.below HBD.out) ?_
  simp only [Act.put, List.setIfInBounds_toArray, List.set_cons_zero, List.set_cons_succ]
  refine wpAnyH_take (i := 1) (oi := ⟨some 7, _, _, _, _, _⟩) (v := (.pointer (some ⟨X, 0, none⟩))) rfl (by kernel_rfl) (by kernel_rfl) (by kernel_rfl) (fun _ _ _ h => h) (Or.inl ⟨by rfl, fun W hS => by obtain ⟨s0, s1, s2, s3⟩ := hS; go_simp⟩) (HS.out.below HBD.out) ?_
  simp only [Act.put, List.setIfInBounds_toArray, List.set_cons_zero, List.set_cons_succ]
  refine wpAnyH_take (i := 2) (oi := ⟨some 8, _, _, _, _, _⟩) (v := (.pointer (some ⟨X, 0, none⟩))) rfl (by kernel_rfl) (by kernel_rfl) (by kernel_rfl) (fun _ _ _ h => h) (Or.inl ⟨by rfl, fun W hS => by obtain ⟨s0, s1, s2, s3⟩ := hS; go_simp⟩) (HS.out.below HBD.out) ?_
  simp only [Act.put, List.setIfInBounds_toArray, List.set_cons_zero, List.set_cons_succ]
  refine wpAnyH_take (i := 3) (oi := ⟨some 9, _, _, _, _, _⟩) (v := .pointer (some ⟨X, 4, none⟩)) rfl (by kernel_rfl) (by kernel_rfl) (by kernel_rfl) (fun _ _ _ h => h) (Or.inl ⟨by rfl, fun W hS => by obtain ⟨s0, s1, s2, s3⟩ := hS; go_simp⟩) (HS.out.below HBD.out) ?_
  simp only [Act.put, List.setIfInBounds_toArray, List.set_cons_zero, List.set_cons_succ]
  refine wpAnyH_take (i := 4) (oi := ⟨some 10, _, _, _, _, _⟩) (v := .string s) rfl (by kernel_rfl) (by kernel_rfl) (by kernel_rfl) (fun _ _ _ h => h) (Or.inl ⟨by rfl, fun W hS => by obtain ⟨s0, s1, s2, s3⟩ := hS; go_simp⟩) (HS.out.below HBD.out) ?_
  simp only [Act.put, List.setIfInBounds_toArray, List.set_cons_zero, List.set_cons_succ]
  refine wpAnyH_take (i := 5) (oi := ⟨some 11, _, _, _, _, _⟩) (v := (.pointer (some ⟨X, 0, none⟩))) rfl (by kernel_rfl) (by kernel_rfl) (by kernel_rfl) (fun _ _ _ h => h) (Or.inl ⟨by rfl, fun W hS => by obtain ⟨s0, s1, s2, s3⟩ := hS; go_simp⟩) (HS.out.below HBD.out) ?_
  simp only [Act.put, List.setIfInBounds_toArray, List.set_cons_zero, List.set_cons_succ]
  refine wpAnyH_take (i := 6) (oi := ⟨some 12, _, _, _, _, _⟩) (v := (.pointer (some ⟨X, 0, none⟩))) rfl (by kernel_rfl) (by kernel_rfl) (by kernel_rfl) (fun _ _ _ h => h) (Or.inl ⟨by rfl, fun W hS => by obtain ⟨s0, s1, s2, s3⟩ := hS; go_simp⟩) (HS.out.below HBD.out) ?_
  simp only [Act.put, List.setIfInBounds_toArray, List.set_cons_zero, List.set_cons_succ]
  refine wpAnyH_take (i := 7) (oi := ⟨some 13, _, _, _, _, _⟩) (v := .pointer (some ⟨X, 1, none⟩)) rfl (by kernel_rfl) (by kernel_rfl) (by kernel_rfl) (fun _ _ _ h => h) (Or.inl ⟨by rfl, fun W hS => by obtain ⟨s0, s1, s2, s3⟩ := hS; go_simp⟩) (HS.out.below HBD.out) ?_
  simp only [Act.put, List.setIfInBounds_toArray, List.set_cons_zero, List.set_cons_succ]
  refine wpAnyH_take (i := 8) (oi := ⟨some 14, _, _, _, _, _⟩) (v := .int .i64 p) rfl (by kernel_rfl) (by kernel_rfl) (by kernel_rfl) (fun _ _ _ h => h) (Or.inl ⟨by rfl, fun W hS => by obtain ⟨s0, s1, s2, s3⟩ := hS; go_simp⟩) (HS.out.below HBD.out) ?_
  simp only [Act.put, List.setIfInBounds_toArray, List.set_cons_zero, List.set_cons_succ]
  refine wpAnyH_take (i := 11) (oi := ⟨some 17, _, _, _, _, _⟩) (v := (.pointer (some ⟨X, 0, none⟩))) rfl (by kernel_rfl) (by kernel_rfl) (by kernel_rfl) (fun _ _ _ h => h) (Or.inl ⟨by rfl, fun W hS => by obtain ⟨s0, s1, s2, s3⟩ := hS; go_simp⟩) (HS.out.below HBD.out) ?_
  simp only [Act.put, List.setIfInBounds_toArray, List.set_cons_zero, List.set_cons_succ]
  refine wpAnyH_take (i := 12) (oi := ⟨some 18, _, _, _, _, _⟩) (v := (.pointer (some ⟨X, 0, none⟩))) rfl (by kernel_rfl) (by kernel_rfl) (by kernel_rfl) (fun _ _ _ h => h) (Or.inl ⟨by rfl, fun W hS => by obtain ⟨s0, s1, s2, s3⟩ := hS; go_simp⟩) (HS.out.below HBD.out) ?_
  simp only [Act.put, List.setIfInBounds_toArray, List.set_cons_zero, List.set_cons_succ]
  refine wpAnyH_take (i := 13) (oi := ⟨some 19, _, _, _, _, _⟩) (v := .pointer (some ⟨X, 5, none⟩)) rfl (by kernel_rfl) (by kernel_rfl) (by kernel_rfl) (fun _ _ _ h => h) (Or.inl ⟨by rfl, fun W hS => by obtain ⟨s0, s1, s2, s3⟩ := hS; go_simp⟩) (HS.out.below HBD.out) ?_
  simp only [Act.put, List.setIfInBounds_toArray, List.set_cons_zero, List.set_cons_succ]
  refine wpAnyH_take (i := 14) (oi := ⟨some 20, _, _, _, _, _⟩) (v := .string g) rfl (by kernel_rfl) (by kernel_rfl) (by kernel_rfl) (fun _ _ _ h => h) (Or.inl ⟨by rfl, fun W hS => by obtain ⟨s0, s1, s2, s3⟩ := hS; go_simp⟩) (HS.out.below HBD.out) ?_
  simp only [Act.put, List.setIfInBounds_toArray, List.set_cons_zero, List.set_cons_succ]
  refine wpAnyH_ready (rs := [9]) (by kernel_rfl) (by simp) ?_
  refine AllReadyH.cons rfl (fun K hK => ?_) AllReadyH.nil
  go_simp
  refine (HLD.out _ HBD.out).mono ?_
  rintro e w3 ⟨⟨A, rfl, hA⟩, hb3⟩
  exact ⟨rfl, Cks.bad HR.out (Below.step HB.out (Below.step HBD.out hb3)) hA⟩

theorem fld_ty (a b c d : Value) (w : World) : (Instr.field 60 (.agg #[a, b, c, d]) 2).run Tryz.prog w = .ok c w := by kernel_rfl
set_option maxRecDepth 100000 in
set_option maxHeartbeats 6400000 in
theorem lfield_ok {w : World} {LV : Value} {ds : List De} (hl : ds.length ≤ 30) (h : Fd w LV ds) (s g : ByteArray) (p : Nat) (X : Nat) (hX : w.heap[X]? = some (.cells #[.int .i64 3, .int .i64 p, .int .i64 0, .int .i64 0, .string s, .string g, .string ⟨#[]⟩, .pointer none, .pointer none] 153 (0, 0))) (nm : ByteArray) (way ty init : Nat) (hdc : declC (findC ds) s p = .ok ⟨nm, way, ty, init⟩) :
    Calls Tryz.prog 156 #[lkV LV, .pointer (some ⟨X, 0, none⟩)] w (Cks w TyRep (kindC (findC ds) (.field p s g))) := by
  have HR : Hid (kindC (findC ds) (.field p s g) = if fieldN ty g.toList = 0 then .bad 5 p else .ok (fieldN ty g.toList)) := hide (by simp only [kindC, hdc, Ck.bind])
  have hft := fld_ty
  have HB := hide (below_alloc w (.cells #[LV] 122))
  have HN := hide (blk_new w (.cells #[LV] 122))
  have HX1 := hide (Below.blk HB.out hX)
  have HF1 := hide (h.below HB.out)
  obtain ⟨F, cs, rfl⟩ := h.fn
  clear h hX
  go_enter Tryz.func156, Tryz.ntmps156
  go_wp2_with fail
  generalize (w.alloc (.cells #[.func F #[] cs] 122)) = w1 at *
  have HS : Hid (Rdx w.heap.size X 4 1 5 (.string s) (.int .i64 p) (.string g) (.func F #[] cs) w1) := hide ⟨by rw [blk_cell HN.out]; rfl, by rw [blk_cell HX1.out]; rfl, by rw [blk_cell HX1.out]; rfl, by rw [blk_cell HX1.out]; rfl⟩
  have HBD := hide (show Below w1.heap.size w1 w1.drew from (Below.refl _ _).drew)
  have HLD : Hid (∀ W, Below w1.heap.size w1 W → Calls Tryz.prog 134 #[.agg #[.func F #[] cs], .string s, .int .i64 p] W fun e w' => e = .returned (.agg #[.string nm, .int .i64 way, .int .i64 ty, .int .i64 init]) ∧ Below W.heap.size W w') := hide (fun W hb => (ldecl_at hl (HF1.out.below hb) s p).mono fun e w' h => by
    have h2 := h.2
    rw [hdc] at h2
    obtain ⟨v, rfl, rfl⟩ := h2
    exact ⟨rfl, h.1⟩)
  have HFK := hide fun W => fieldK_at ty g W
  have HC1 := hide fun (W : World) (hb : Below w1.heap.size w1 W) => (HS.out.below hb).2.2.1
  clear hdc
  refine wp_region_held_drew (S := Rdx w.heap.size X 4 1 5 (.string s) (.int .i64 p) (.string g) (.func F #[] cs)) (by kernel_rfl) (HS.out.below HBD.out) (fun _ => ?_)
  refine wpAnyH_take (i := 0) (oi := ⟨some 6, _, _, _, _, _⟩) (v := .agg #[.func F #[] cs]) rfl (by kernel_rfl) (by kernel_rfl) (by kernel_rfl) (fun _ _ _ h => h) (Or.inl ⟨by rfl, fun W hS => by obtain ⟨s0, s1, s2, s3⟩ := hS; go_simp⟩) (HS.out.below HBD.out) ?_
  simp only [Act.put, List.setIfInBounds_toArray, List.set_cons_zero, List.set_cons_succ]
  refine wpAnyH_take (i := 1) (oi := ⟨some 7, _, _, _, _, _⟩) (v := (.pointer (some ⟨X, 0, none⟩))) rfl (by kernel_rfl) (by kernel_rfl) (by kernel_rfl) (fun _ _ _ h => h) (Or.inl ⟨by rfl, fun W hS => by obtain ⟨s0, s1, s2, s3⟩ := hS; go_simp⟩) (HS.out.below HBD.out) ?_
  simp only [Act.put, List.setIfInBounds_toArray, List.set_cons_zero, List.set_cons_succ]
  refine wpAnyH_take (i := 2) (oi := ⟨some 8, _, _, _, _, _⟩) (v := (.pointer (some ⟨X, 0, none⟩))) rfl (by kernel_rfl) (by kernel_rfl) (by kernel_rfl) (fun _ _ _ h => h) (Or.inl ⟨by rfl, fun W hS => by obtain ⟨s0, s1, s2, s3⟩ := hS; go_simp⟩) (HS.out.below HBD.out) ?_
  simp only [Act.put, List.setIfInBounds_toArray, List.set_cons_zero, List.set_cons_succ]
  refine wpAnyH_take (i := 3) (oi := ⟨some 9, _, _, _, _, _⟩) (v := .pointer (some ⟨X, 4, none⟩)) rfl (by kernel_rfl) (by kernel_rfl) (by kernel_rfl) (fun _ _ _ h => h) (Or.inl ⟨by rfl, fun W hS => by obtain ⟨s0, s1, s2, s3⟩ := hS; go_simp⟩) (HS.out.below HBD.out) ?_
  simp only [Act.put, List.setIfInBounds_toArray, List.set_cons_zero, List.set_cons_succ]
  refine wpAnyH_take (i := 4) (oi := ⟨some 10, _, _, _, _, _⟩) (v := .string s) rfl (by kernel_rfl) (by kernel_rfl) (by kernel_rfl) (fun _ _ _ h => h) (Or.inl ⟨by rfl, fun W hS => by obtain ⟨s0, s1, s2, s3⟩ := hS; go_simp⟩) (HS.out.below HBD.out) ?_
  simp only [Act.put, List.setIfInBounds_toArray, List.set_cons_zero, List.set_cons_succ]
  refine wpAnyH_take (i := 5) (oi := ⟨some 11, _, _, _, _, _⟩) (v := (.pointer (some ⟨X, 0, none⟩))) rfl (by kernel_rfl) (by kernel_rfl) (by kernel_rfl) (fun _ _ _ h => h) (Or.inl ⟨by rfl, fun W hS => by obtain ⟨s0, s1, s2, s3⟩ := hS; go_simp⟩) (HS.out.below HBD.out) ?_
  simp only [Act.put, List.setIfInBounds_toArray, List.set_cons_zero, List.set_cons_succ]
  refine wpAnyH_take (i := 6) (oi := ⟨some 12, _, _, _, _, _⟩) (v := (.pointer (some ⟨X, 0, none⟩))) rfl (by kernel_rfl) (by kernel_rfl) (by kernel_rfl) (fun _ _ _ h => h) (Or.inl ⟨by rfl, fun W hS => by obtain ⟨s0, s1, s2, s3⟩ := hS; go_simp⟩) (HS.out.below HBD.out) ?_
  simp only [Act.put, List.setIfInBounds_toArray, List.set_cons_zero, List.set_cons_succ]
  refine wpAnyH_take (i := 7) (oi := ⟨some 13, _, _, _, _, _⟩) (v := .pointer (some ⟨X, 1, none⟩)) rfl (by kernel_rfl) (by kernel_rfl) (by kernel_rfl) (fun _ _ _ h => h) (Or.inl ⟨by rfl, fun W hS => by obtain ⟨s0, s1, s2, s3⟩ := hS; go_simp⟩) (HS.out.below HBD.out) ?_
  simp only [Act.put, List.setIfInBounds_toArray, List.set_cons_zero, List.set_cons_succ]
  refine wpAnyH_take (i := 8) (oi := ⟨some 14, _, _, _, _, _⟩) (v := .int .i64 p) rfl (by kernel_rfl) (by kernel_rfl) (by kernel_rfl) (fun _ _ _ h => h) (Or.inl ⟨by rfl, fun W hS => by obtain ⟨s0, s1, s2, s3⟩ := hS; go_simp⟩) (HS.out.below HBD.out) ?_
  simp only [Act.put, List.setIfInBounds_toArray, List.set_cons_zero, List.set_cons_succ]
  refine wpAnyH_take (i := 11) (oi := ⟨some 17, _, _, _, _, _⟩) (v := (.pointer (some ⟨X, 0, none⟩))) rfl (by kernel_rfl) (by kernel_rfl) (by kernel_rfl) (fun _ _ _ h => h) (Or.inl ⟨by rfl, fun W hS => by obtain ⟨s0, s1, s2, s3⟩ := hS; go_simp⟩) (HS.out.below HBD.out) ?_
  simp only [Act.put, List.setIfInBounds_toArray, List.set_cons_zero, List.set_cons_succ]
  refine wpAnyH_take (i := 12) (oi := ⟨some 18, _, _, _, _, _⟩) (v := (.pointer (some ⟨X, 0, none⟩))) rfl (by kernel_rfl) (by kernel_rfl) (by kernel_rfl) (fun _ _ _ h => h) (Or.inl ⟨by rfl, fun W hS => by obtain ⟨s0, s1, s2, s3⟩ := hS; go_simp⟩) (HS.out.below HBD.out) ?_
  simp only [Act.put, List.setIfInBounds_toArray, List.set_cons_zero, List.set_cons_succ]
  refine wpAnyH_take (i := 13) (oi := ⟨some 19, _, _, _, _, _⟩) (v := .pointer (some ⟨X, 5, none⟩)) rfl (by kernel_rfl) (by kernel_rfl) (by kernel_rfl) (fun _ _ _ h => h) (Or.inl ⟨by rfl, fun W hS => by obtain ⟨s0, s1, s2, s3⟩ := hS; go_simp⟩) (HS.out.below HBD.out) ?_
  simp only [Act.put, List.setIfInBounds_toArray, List.set_cons_zero, List.set_cons_succ]
  refine wpAnyH_take (i := 14) (oi := ⟨some 20, _, _, _, _, _⟩) (v := .string g) rfl (by kernel_rfl) (by kernel_rfl) (by kernel_rfl) (fun _ _ _ h => h) (Or.inl ⟨by rfl, fun W hS => by obtain ⟨s0, s1, s2, s3⟩ := hS; go_simp⟩) (HS.out.below HBD.out) ?_
  simp only [Act.put, List.setIfInBounds_toArray, List.set_cons_zero, List.set_cons_succ]
  refine wpAnyH_ready (rs := [9]) (by kernel_rfl) (by simp) ?_
  refine AllReadyH.cons rfl (fun K hK => ?_) AllReadyH.nil
  go_simp
  refine (HLD.out _ HBD.out).mono ?_
  rintro e w3 ⟨rfl, hb3⟩
  have HB3 := hide (Below.step HBD.out hb3)
  clear hb3
  refine hK.out _ _ (HS.out.below HB3.out) (fun _ => ?_)
  clear hK K
  refine wpAnyH_take (i := 10) (oi := ⟨some 16, _, _, _, _, _⟩) (v := .int .i64 ty) rfl (by kernel_rfl) (by kernel_rfl) (by kernel_rfl) (fun _ _ _ h => h) (Or.inl ⟨by rfl, fun W hS => by obtain ⟨s0, s1, s2, s3⟩ := hS; go_simp⟩) (HS.out.below HB3.out) ?_
  simp only [Act.put, List.setIfInBounds_toArray, List.set_cons_zero, List.set_cons_succ]
  refine wpAnyH_ready (rs := [15]) (by kernel_rfl) (by simp) ?_
  refine AllReadyH.cons rfl (fun K hK => ?_) AllReadyH.nil
  go_simp
  refine (HFK.out _).mono ?_
  rintro e w4 ⟨rfl, rfl⟩
  refine hK.out _ _ (HS.out.below HB3.out) (fun _ => ?_)
  clear hK K
  refine wpAnyH_take (i := 16) (oi := ⟨some 5, _, _, _, _, _⟩) (v := .int .i64 (fieldN ty g.toList : Nat)) rfl (by kernel_rfl) (by kernel_rfl) (by kernel_rfl) (fun _ _ _ h => h) (Or.inl ⟨by rfl, fun W hS => by obtain ⟨s0, s1, s2, s3⟩ := hS; go_simp⟩) (HS.out.below HB3.out) ?_
  simp only [Act.put, List.setIfInBounds_toArray, List.set_cons_zero, List.set_cons_succ]
  refine wpAnyH_done (by kernel_rfl) ?_ _
  have f1 := HC1.out _ HB3.out
  by_cases hw0 : fieldN ty g.toList = 0
  · have HR2 : Hid (kindC (findC ds) (.field p s g) = .bad 5 p) := hide (by rw [HR.out, if_pos hw0])
    rw [hw0]
    go_wp2_with fail
    refine (throw_at 5 p _).mono ?_
    rintro e w7 ⟨⟨A, rfl, hA⟩, hb7⟩
    have HA := hide hA
    have HB7 := hide (Below.step HB.out (Below.step HB3.out hb7))
    clear hA hb7
    go_wp2_with fail
    exact ⟨rfl, Cks.bad HR2.out HB7.out HA.out⟩
  · have HR2 : Hid (kindC (findC ds) (.field p s g) = .ok (fieldN ty g.toList)) := hide (by rw [HR.out, if_neg hw0])
    have hwi : (((fieldN ty g.toList : Nat) : Int) == 0) = false := by simp; omega
    generalize fieldN ty g.toList = wd at *
    go_wp2_with fail
    go_ret
    exact Cks.ok HR2.out (Below.step HB.out HB3.out) rfl

def KindOK (x : Ex) : Prop := ∀ (S : Nat → Prop) (w : World) (v LV : Value) (ds : List De), ds.length ≤ 30 → Fd w LV ds → IsEx S w x v →
  Calls Tryz.prog 136 #[lkV LV, v] w (Cks w TyRep (kindC (findC ds) x))

set_option maxRecDepth 100000 in
set_option maxHeartbeats 6400000 in
theorem ltwo_at {w : World} {LV : Value} {ds : List De} (hl : ds.length ≤ 30) (h : Fd w LV ds) (op : ByteArray) (x y : Ex) (p : Nat) (S : Nat → Prop) (X Q U : Nat) (hX : w.heap[X]? = some (.cells #[.int .i64 5, .int .i64 p, .int .i64 0, .int .i64 0, .string ⟨#[]⟩, .string ⟨#[]⟩, .string op, .pointer (some ⟨Q, 0, none⟩), .pointer (some ⟨U, 0, none⟩)] 153 (0, 0))) (hx : IsEx S w x (.pointer (some ⟨Q, 0, none⟩))) (hy : IsEx S w y (.pointer (some ⟨U, 0, none⟩))) (ihx : KindOK x) (ihy : KindOK y) :
    Calls Tryz.prog 157 #[lkV LV, .pointer (some ⟨X, 0, none⟩)] w (Cks w TyRep (kindC (findC ds) (.bin p op x y))) := by
  have HR : Hid (kindC (findC ds) (.bin p op x y) = (kindC (findC ds) x).bind fun a => (kindC (findC ds) y).bind fun b => if resN op.toList a b = 0 then .bad 1 p else .ok (resN op.toList a b)) := rfl
  have HXX := hide hx
  have HYY := hide hy
  have HB := hide (below_alloc w (.cells #[LV] 122))
  have HN := hide (blk_new w (.cells #[LV] 122))
  have HX1 := hide (Below.blk HB.out hX)
  have HF1 := hide (h.below HB.out)
  obtain ⟨F, cs, rfl⟩ := h.fn
  clear h hX
  go_enter Tryz.func157, Tryz.ntmps157
  go_wp2_with fail
  generalize (w.alloc (.cells #[.func F #[] cs] 122)) = w1 at *
  have HS : Hid (Rdx w.heap.size X 7 8 8 (.pointer (some ⟨Q, 0, none⟩)) (.pointer (some ⟨U, 0, none⟩)) (.pointer (some ⟨U, 0, none⟩)) (.func F #[] cs) w1) := hide ⟨by rw [blk_cell HN.out]; rfl, by rw [blk_cell HX1.out]; rfl, by rw [blk_cell HX1.out]; rfl, by rw [blk_cell HX1.out]; rfl⟩
  have HBD := hide (show Below w1.heap.size w1 w1.drew from (Below.refl _ _).drew)
  have HKX : Hid (∀ W, Below w1.heap.size w1 W → Calls Tryz.prog 136 #[.agg #[.func F #[] cs], .pointer (some ⟨Q, 0, none⟩)] W (Cks W TyRep (kindC (findC ds) x))) := hide (fun W hb => ihx S W _ _ ds hl (HF1.out.below hb) ((HXX.out.below HB.out).below hb))
  have HKY : Hid (∀ W, Below w1.heap.size w1 W → Calls Tryz.prog 136 #[.agg #[.func F #[] cs], .pointer (some ⟨U, 0, none⟩)] W (Cks W TyRep (kindC (findC ds) y))) := hide (fun W hb => ihy S W _ _ ds hl (HF1.out.below hb) ((HYY.out.below HB.out).below hb))
  have HXB := hide fun (W : World) (hb : Below w1.heap.size w1 W) => Below.blk hb HX1.out
  clear hx hy ihx ihy
  refine wp_region_held_drew (S := Rdx w.heap.size X 7 8 8 (.pointer (some ⟨Q, 0, none⟩)) (.pointer (some ⟨U, 0, none⟩)) (.pointer (some ⟨U, 0, none⟩)) (.func F #[] cs)) (by kernel_rfl) (HS.out.below HBD.out) (fun _ => ?_)
  refine wpAnyH_take (i := 0) (oi := ⟨some 8, _, _, _, _, _⟩) (v := .agg #[.func F #[] cs]) rfl (by kernel_rfl) (by kernel_rfl) (by kernel_rfl) (fun _ _ _ h => h) (Or.inl ⟨by rfl, fun W hS => by obtain ⟨s0, s1, s2, s3⟩ := hS; go_simp⟩) (HS.out.below HBD.out) ?_
  simp only [Act.put, List.setIfInBounds_toArray, List.set_cons_zero, List.set_cons_succ]
  refine wpAnyH_take (i := 1) (oi := ⟨some 9, _, _, _, _, _⟩) (v := (.pointer (some ⟨X, 0, none⟩))) rfl (by kernel_rfl) (by kernel_rfl) (by kernel_rfl) (fun _ _ _ h => h) (Or.inl ⟨by rfl, fun W hS => by obtain ⟨s0, s1, s2, s3⟩ := hS; go_simp⟩) (HS.out.below HBD.out) ?_
  simp only [Act.put, List.setIfInBounds_toArray, List.set_cons_zero, List.set_cons_succ]
  refine wpAnyH_take (i := 2) (oi := ⟨some 10, _, _, _, _, _⟩) (v := (.pointer (some ⟨X, 0, none⟩))) rfl (by kernel_rfl) (by kernel_rfl) (by kernel_rfl) (fun _ _ _ h => h) (Or.inl ⟨by rfl, fun W hS => by obtain ⟨s0, s1, s2, s3⟩ := hS; go_simp⟩) (HS.out.below HBD.out) ?_
  simp only [Act.put, List.setIfInBounds_toArray, List.set_cons_zero, List.set_cons_succ]
  refine wpAnyH_take (i := 3) (oi := ⟨some 11, _, _, _, _, _⟩) (v := .pointer (some ⟨X, 7, none⟩)) rfl (by kernel_rfl) (by kernel_rfl) (by kernel_rfl) (fun _ _ _ h => h) (Or.inl ⟨by rfl, fun W hS => by obtain ⟨s0, s1, s2, s3⟩ := hS; go_simp⟩) (HS.out.below HBD.out) ?_
  simp only [Act.put, List.setIfInBounds_toArray, List.set_cons_zero, List.set_cons_succ]
  refine wpAnyH_take (i := 4) (oi := ⟨some 12, _, _, _, _, _⟩) (v := .pointer (some ⟨Q, 0, none⟩)) rfl (by kernel_rfl) (by kernel_rfl) (by kernel_rfl) (fun _ _ _ h => h) (Or.inl ⟨by rfl, fun W hS => by obtain ⟨s0, s1, s2, s3⟩ := hS; go_simp⟩) (HS.out.below HBD.out) ?_
  simp only [Act.put, List.setIfInBounds_toArray, List.set_cons_zero, List.set_cons_succ]
  refine wpAnyH_take (i := 6) (oi := ⟨some 14, _, _, _, _, _⟩) (v := .agg #[.func F #[] cs]) rfl (by kernel_rfl) (by kernel_rfl) (by kernel_rfl) (fun _ _ _ h => h) (Or.inl ⟨by rfl, fun W hS => by obtain ⟨s0, s1, s2, s3⟩ := hS; go_simp⟩) (HS.out.below HBD.out) ?_
  simp only [Act.put, List.setIfInBounds_toArray, List.set_cons_zero, List.set_cons_succ]
  refine wpAnyH_take (i := 7) (oi := ⟨some 15, _, _, _, _, _⟩) (v := (.pointer (some ⟨X, 0, none⟩))) rfl (by kernel_rfl) (by kernel_rfl) (by kernel_rfl) (fun _ _ _ h => h) (Or.inl ⟨by rfl, fun W hS => by obtain ⟨s0, s1, s2, s3⟩ := hS; go_simp⟩) (HS.out.below HBD.out) ?_
  simp only [Act.put, List.setIfInBounds_toArray, List.set_cons_zero, List.set_cons_succ]
  refine wpAnyH_take (i := 8) (oi := ⟨some 16, _, _, _, _, _⟩) (v := (.pointer (some ⟨X, 0, none⟩))) rfl (by kernel_rfl) (by kernel_rfl) (by kernel_rfl) (fun _ _ _ h => h) (Or.inl ⟨by rfl, fun W hS => by obtain ⟨s0, s1, s2, s3⟩ := hS; go_simp⟩) (HS.out.below HBD.out) ?_
  simp only [Act.put, List.setIfInBounds_toArray, List.set_cons_zero, List.set_cons_succ]
  refine wpAnyH_take (i := 9) (oi := ⟨some 17, _, _, _, _, _⟩) (v := .pointer (some ⟨X, 8, none⟩)) rfl (by kernel_rfl) (by kernel_rfl) (by kernel_rfl) (fun _ _ _ h => h) (Or.inl ⟨by rfl, fun W hS => by obtain ⟨s0, s1, s2, s3⟩ := hS; go_simp⟩) (HS.out.below HBD.out) ?_
  simp only [Act.put, List.setIfInBounds_toArray, List.set_cons_zero, List.set_cons_succ]
  refine wpAnyH_take (i := 10) (oi := ⟨some 18, _, _, _, _, _⟩) (v := .pointer (some ⟨U, 0, none⟩)) rfl (by kernel_rfl) (by kernel_rfl) (by kernel_rfl) (fun _ _ _ h => h) (Or.inl ⟨by rfl, fun W hS => by obtain ⟨s0, s1, s2, s3⟩ := hS; go_simp⟩) (HS.out.below HBD.out) ?_
  simp only [Act.put, List.setIfInBounds_toArray, List.set_cons_zero, List.set_cons_succ]
  refine wpAnyH_ready (rs := [5]) (by kernel_rfl) (by simp) ?_
  refine AllReadyH.cons rfl (fun K hK => ?_) AllReadyH.nil
  go_simp
  refine (HKX.out _ HBD.out).mono ?_
  rintro e w3 h3
  rcases h3.cases with ⟨er, q, A, hr, rfl, hA, hb3⟩ | ⟨a, v, hr, rfl, hv, hb3⟩
  · exact ⟨rfl, Cks.bad (by rw [HR.out, hr]; rfl) (Below.step HB.out (Below.step HBD.out hb3)) hA⟩
  have hv : v = .int .i64 (a : Nat) := hv
  subst hv
  have HR3 := hide hr
  have HB3 := hide (Below.step HBD.out hb3)
  clear h3 hr hb3
  refine hK.out _ _ (HS.out.below HB3.out) (fun _ => ?_)
  clear hK K
  refine wpAnyH_ready (rs := [11]) (by kernel_rfl) (by simp) ?_
  refine AllReadyH.cons rfl (fun K hK => ?_) AllReadyH.nil
  go_simp
  refine (HKY.out _ HB3.out).mono ?_
  rintro e w6 h6
  rcases h6.cases with ⟨er, q, A, hr, rfl, hA, hb6⟩ | ⟨b, v, hr, rfl, hv, hb6⟩
  · exact ⟨rfl, Cks.bad (by rw [HR.out, HR3.out]; simp only [Ck.bind, hr]) (Below.step HB.out (Below.step HB3.out hb6)) hA⟩
  have hv : v = .int .i64 (b : Nat) := hv
  subst hv
  have HR6 := hide hr
  have HB6 := hide (Below.step HB3.out hb6)
  clear h6 hr hb6
  refine hK.out _ _ (HS.out.below HB6.out) (fun _ => ?_)
  clear hK K
  refine wpAnyH_take (i := 12) (oi := ⟨some 5, _, _, _, _, _⟩) (v := .int .i64 (a : Nat)) rfl (by kernel_rfl) (by kernel_rfl) (by kernel_rfl) (fun _ _ _ h => h) (Or.inl ⟨by rfl, fun W hS => by obtain ⟨s0, s1, s2, s3⟩ := hS; go_simp⟩) (HS.out.below HB6.out) ?_
  simp only [Act.put, List.setIfInBounds_toArray, List.set_cons_zero, List.set_cons_succ]
  refine wpAnyH_take (i := 13) (oi := ⟨some 6, _, _, _, _, _⟩) (v := .int .i64 (b : Nat)) rfl (by kernel_rfl) (by kernel_rfl) (by kernel_rfl) (fun _ _ _ h => h) (Or.inl ⟨by rfl, fun W hS => by obtain ⟨s0, s1, s2, s3⟩ := hS; go_simp⟩) (HS.out.below HB6.out) ?_
  simp only [Act.put, List.setIfInBounds_toArray, List.set_cons_zero, List.set_cons_succ]
  refine wpAnyH_done (by kernel_rfl) ?_ _
  have HX6 := hide (HXB.out _ HB6.out)
  have f1 : w6.cell? ⟨X, 1, none⟩ = some (.int .i64 p) := by rw [blk_cell HX6.out]; rfl
  have f6 : w6.cell? ⟨X, 6, none⟩ = some (.string op) := by rw [blk_cell HX6.out]; rfl
  have HRS := hide (result_at op a b w6)
  go_wp2_with fail
  refine HRS.out.mono ?_
  rintro e w7 ⟨rfl, rfl⟩
  by_cases hw0 : resN op.toList a b = 0
  · have HR2 : Hid (kindC (findC ds) (.bin p op x y) = .bad 1 p) := hide (by rw [HR.out, HR3.out]; simp only [Ck.bind, HR6.out, if_pos hw0])
    rw [hw0]
    go_wp2_with fail
    refine (throw_at 1 p _).mono ?_
    rintro e w8 ⟨⟨A, rfl, hA⟩, hb7⟩
    have HA := hide hA
    have HB7 := hide (Below.step HB.out (Below.step HB6.out hb7))
    clear hA hb7
    go_wp2_with fail
    exact ⟨rfl, Cks.bad HR2.out HB7.out HA.out⟩
  · have HR2 : Hid (kindC (findC ds) (.bin p op x y) = .ok (resN op.toList a b)) := hide (by rw [HR.out, HR3.out]; simp only [Ck.bind, HR6.out, if_neg hw0])
    have hwi : (((resN op.toList a b : Nat) : Int) == 0) = false := by simp; omega
    generalize resN op.toList a b = wd at *
    go_wp2_with fail
    go_ret
    exact Cks.ok HR2.out (Below.step HB.out HB6.out) rfl
end Go.Proofs.YtgncgbngjdcpgaaGreatDoor
