/-
  CONTRACT of kind.
-/
import Derived.Test.YtgncgbngjdcpgaaGreatDoorKind2
set_option linter.unusedSimpArgs false
set_option linter.unusedVariables false
namespace Go.Proofs.YtgncgbngjdcpgaaGreatDoor
open Go.RowKit

set_option maxRecDepth 100000 in
set_option maxHeartbeats 6400000 in
theorem kind_num (p n ty : Nat) : KindOK (.num p n ty) := by
  intro S w v LV ds hl h hx
  obtain ⟨X, rfl, hSX, hX⟩ := hx
  have HB := hide (below_alloc w (.cells #[LV] 122))
  have HN := hide (blk_new w (.cells #[LV] 122))
  have HX1 := hide (Below.blk HB.out hX)
  have HF1 := hide (h.below HB.out)
  have hq : ∀ (A : Addr) (w : World), (binOp .eql 96 (.pointer (some A)) (.pointer none)).run Tryz.prog w = .ok (.bool false) w := fun _ _ => rfl
  obtain ⟨F, cs, rfl⟩ := h.fn
  clear h hX
  go_enter Tryz.func136, Tryz.ntmps136
  have x0 : (w.alloc (.cells #[.func F #[] cs] 122)).cell? ⟨X, 0, none⟩ = some (.int .i64 1) := by rw [blk_cell HX1.out]; rfl
  have x3 : (w.alloc (.cells #[.func F #[] cs] 122)).cell? ⟨w.heap.size, 0, none⟩ = some (.func F #[] cs) := by rw [blk_cell HN.out]; rfl
  have x2 : (w.alloc (.cells #[.func F #[] cs] 122)).cell? ⟨X, 3, none⟩ = some (.int .i64 ty) := by rw [blk_cell HX1.out]; rfl
  go_wp2_with fail
  go_ret
  exact Cks.ok rfl HB.out rfl

theorem lname_at {w : World} {LV : Value} {ds : List De} (hl : ds.length ≤ 30) (h : Fd w LV ds) (p : Nat) (s : ByteArray) (X : Nat) (hX : w.heap[X]? = some (.cells #[.int .i64 2, .int .i64 p, .int .i64 0, .int .i64 0, .string s, .string ⟨#[]⟩, .string ⟨#[]⟩, .pointer none, .pointer none] 153 (0, 0))) :
    Calls Tryz.prog 155 #[lkV LV, .pointer (some ⟨X, 0, none⟩)] w (Cks w TyRep (kindC (findC ds) (.name p s))) := by
  cases hdc : declC (findC ds) s p with
  | bad er q => exact lname_bad hl h s p X hX er q hdc
  | ok d => exact lname_ok hl h s p X hX d.name d.way d.ty d.init hdc

set_option maxRecDepth 100000 in
set_option maxHeartbeats 6400000 in
theorem kind_name (p : Nat) (s : ByteArray) : KindOK (.name p s) := by
  intro S w v LV ds hl h hx
  obtain ⟨X, rfl, hSX, hX⟩ := hx
  have HB := hide (below_alloc w (.cells #[LV] 122))
  have HN := hide (blk_new w (.cells #[LV] 122))
  have HX1 := hide (Below.blk HB.out hX)
  have HF1 := hide (h.below HB.out)
  have hq : ∀ (A : Addr) (w : World), (binOp .eql 96 (.pointer (some A)) (.pointer none)).run Tryz.prog w = .ok (.bool false) w := fun _ _ => rfl
  obtain ⟨F, cs, rfl⟩ := h.fn
  clear h hX
  have HC := hide (lname_at hl HF1.out p s X HX1.out)
  go_enter Tryz.func136, Tryz.ntmps136
  have x0 : (w.alloc (.cells #[.func F #[] cs] 122)).cell? ⟨X, 0, none⟩ = some (.int .i64 2) := by rw [blk_cell HX1.out]; rfl
  have x3 : (w.alloc (.cells #[.func F #[] cs] 122)).cell? ⟨w.heap.size, 0, none⟩ = some (.func F #[] cs) := by rw [blk_cell HN.out]; rfl
  go_wp2_with fail
  refine HC.out.mono ?_
  rintro e w3 h3
  rcases h3.cases with ⟨er, q, A, hr, rfl, hA, hb3⟩ | ⟨a, v, hr, rfl, hv, hb3⟩
  · have HR := hide hr
    have HA := hide hA
    have HB3 := hide (Below.step HB.out hb3)
    clear h3 hr hA hb3
    go_wp2_with fail
    exact ⟨rfl, Cks.bad (HR.out) HB3.out HA.out⟩
  · have hv : v = .int .i64 (a : Nat) := hv
    subst hv
    have HR := hide hr
    have HB3 := hide (Below.step HB.out hb3)
    clear h3 hr hb3
    go_wp2_with fail
    go_ret
    exact Cks.ok (HR.out) HB3.out rfl

theorem lfield_at {w : World} {LV : Value} {ds : List De} (hl : ds.length ≤ 30) (h : Fd w LV ds) (p : Nat) (s g : ByteArray) (X : Nat) (hX : w.heap[X]? = some (.cells #[.int .i64 3, .int .i64 p, .int .i64 0, .int .i64 0, .string s, .string g, .string ⟨#[]⟩, .pointer none, .pointer none] 153 (0, 0))) :
    Calls Tryz.prog 156 #[lkV LV, .pointer (some ⟨X, 0, none⟩)] w (Cks w TyRep (kindC (findC ds) (.field p s g))) := by
  cases hdc : declC (findC ds) s p with
  | bad er q => exact lfield_bad hl h s g p X hX er q hdc
  | ok d => exact lfield_ok hl h s g p X hX d.name d.way d.ty d.init hdc

set_option maxRecDepth 100000 in
set_option maxHeartbeats 6400000 in
theorem kind_field (p : Nat) (s g : ByteArray) : KindOK (.field p s g) := by
  intro S w v LV ds hl h hx
  obtain ⟨X, rfl, hSX, hX⟩ := hx
  have HB := hide (below_alloc w (.cells #[LV] 122))
  have HN := hide (blk_new w (.cells #[LV] 122))
  have HX1 := hide (Below.blk HB.out hX)
  have HF1 := hide (h.below HB.out)
  have hq : ∀ (A : Addr) (w : World), (binOp .eql 96 (.pointer (some A)) (.pointer none)).run Tryz.prog w = .ok (.bool false) w := fun _ _ => rfl
  obtain ⟨F, cs, rfl⟩ := h.fn
  clear h hX
  have HC := hide (lfield_at hl HF1.out p s g X HX1.out)
  go_enter Tryz.func136, Tryz.ntmps136
  have x0 : (w.alloc (.cells #[.func F #[] cs] 122)).cell? ⟨X, 0, none⟩ = some (.int .i64 3) := by rw [blk_cell HX1.out]; rfl
  have x3 : (w.alloc (.cells #[.func F #[] cs] 122)).cell? ⟨w.heap.size, 0, none⟩ = some (.func F #[] cs) := by rw [blk_cell HN.out]; rfl
  go_wp2_with fail
  refine HC.out.mono ?_
  rintro e w3 h3
  rcases h3.cases with ⟨er, q, A, hr, rfl, hA, hb3⟩ | ⟨a, v, hr, rfl, hv, hb3⟩
  · have HR := hide hr
    have HA := hide hA
    have HB3 := hide (Below.step HB.out hb3)
    clear h3 hr hA hb3
    go_wp2_with fail
    exact ⟨rfl, Cks.bad (HR.out) HB3.out HA.out⟩
  · have hv : v = .int .i64 (a : Nat) := hv
    subst hv
    have HR := hide hr
    have HB3 := hide (Below.step HB.out hb3)
    clear h3 hr hb3
    go_wp2_with fail
    go_ret
    exact Cks.ok (HR.out) HB3.out rfl

set_option maxRecDepth 100000 in
set_option maxHeartbeats 6400000 in
theorem kind_not (p : Nat) (x : Ex) (ih : KindOK x) : KindOK (.not p x) := by
  intro S w v LV ds hl h hx
  obtain ⟨X, a, rfl, hSX, hX, hxa⟩ := hx
  obtain ⟨Q, rfl⟩ := hxa.ptr
  have HXA := hide hxa
  have HB := hide (below_alloc w (.cells #[LV] 122))
  have HN := hide (blk_new w (.cells #[LV] 122))
  have HX1 := hide (Below.blk HB.out hX)
  have HF1 := hide (h.below HB.out)
  have hq : ∀ (A : Addr) (w : World), (binOp .eql 96 (.pointer (some A)) (.pointer none)).run Tryz.prog w = .ok (.bool false) w := fun _ _ => rfl
  obtain ⟨F, cs, rfl⟩ := h.fn
  clear h hX
  have HC : Hid (∀ W, Below (w.alloc (.cells #[.func F #[] cs] 122)).heap.size (w.alloc (.cells #[.func F #[] cs] 122)) W → Calls Tryz.prog 136 #[.agg #[.func F #[] cs], .pointer (some ⟨Q, 0, none⟩)] W (Cks W TyRep (kindC (findC ds) x))) := hide (fun W hb => ih S W _ _ ds hl (HF1.out.below hb) ((HXA.out.below HB.out).below hb))
  clear ih hxa
  go_enter Tryz.func136, Tryz.ntmps136
  have x0 : (w.alloc (.cells #[.func F #[] cs] 122)).cell? ⟨X, 0, none⟩ = some (.int .i64 4) := by rw [blk_cell HX1.out]; rfl
  have x3 : (w.alloc (.cells #[.func F #[] cs] 122)).cell? ⟨w.heap.size, 0, none⟩ = some (.func F #[] cs) := by rw [blk_cell HN.out]; rfl
  go_wp2_with fail
  generalize (w.alloc (.cells #[.func F #[] cs] 122)) = w1 at *
  have HS : Hid (Rdx w.heap.size X 7 7 7 (.pointer (some ⟨Q, 0, none⟩)) (.pointer (some ⟨Q, 0, none⟩)) (.pointer (some ⟨Q, 0, none⟩)) (.func F #[] cs) w1) := hide ⟨by rw [blk_cell HN.out]; rfl, by rw [blk_cell HX1.out]; rfl, by rw [blk_cell HX1.out]; rfl, by rw [blk_cell HX1.out]; rfl⟩
  have HBD := hide (show Below w1.heap.size w1 w1.drew from (Below.refl _ _).drew)
  refine wp_region_held_drew (S := Rdx w.heap.size X 7 7 7 (.pointer (some ⟨Q, 0, none⟩)) (.pointer (some ⟨Q, 0, none⟩)) (.pointer (some ⟨Q, 0, none⟩)) (.func F #[] cs)) (by kernel_rfl) (HS.out.below HBD.out) (fun _ => ?_)
  refine wpAnyH_take (i := 0) (oi := ⟨some 29, _, _, _, _, _⟩) (v := .agg #[.func F #[] cs]) rfl (by kernel_rfl) (by kernel_rfl) (by kernel_rfl) (fun _ _ _ h => h) (Or.inl ⟨by rfl, fun W hS => by obtain ⟨s0, s1, s2, s3⟩ := hS; go_simp⟩) (HS.out.below HBD.out) ?_
  simp only [Act.put, List.setIfInBounds_toArray, List.set_cons_zero, List.set_cons_succ]
  refine wpAnyH_take (i := 1) (oi := ⟨some 30, _, _, _, _, _⟩) (v := (.pointer (some ⟨X, 0, none⟩))) rfl (by kernel_rfl) (by kernel_rfl) (by kernel_rfl) (fun _ _ _ h => h) (Or.inl ⟨by rfl, fun W hS => by obtain ⟨s0, s1, s2, s3⟩ := hS; go_simp⟩) (HS.out.below HBD.out) ?_
  simp only [Act.put, List.setIfInBounds_toArray, List.set_cons_zero, List.set_cons_succ]
  refine wpAnyH_take (i := 2) (oi := ⟨some 31, _, _, _, _, _⟩) (v := (.pointer (some ⟨X, 0, none⟩))) rfl (by kernel_rfl) (by kernel_rfl) (by kernel_rfl) (fun _ _ _ h => h) (Or.inl ⟨by rfl, fun W hS => by obtain ⟨s0, s1, s2, s3⟩ := hS; go_simp⟩) (HS.out.below HBD.out) ?_
  simp only [Act.put, List.setIfInBounds_toArray, List.set_cons_zero, List.set_cons_succ]
  refine wpAnyH_take (i := 3) (oi := ⟨some 32, _, _, _, _, _⟩) (v := .pointer (some ⟨X, 7, none⟩)) rfl (by kernel_rfl) (by kernel_rfl) (by kernel_rfl) (fun _ _ _ h => h) (Or.inl ⟨by rfl, fun W hS => by obtain ⟨s0, s1, s2, s3⟩ := hS; go_simp⟩) (HS.out.below HBD.out) ?_
  simp only [Act.put, List.setIfInBounds_toArray, List.set_cons_zero, List.set_cons_succ]
  refine wpAnyH_take (i := 4) (oi := ⟨some 33, _, _, _, _, _⟩) (v := .pointer (some ⟨Q, 0, none⟩)) rfl (by kernel_rfl) (by kernel_rfl) (by kernel_rfl) (fun _ _ _ h => h) (Or.inl ⟨by rfl, fun W hS => by obtain ⟨s0, s1, s2, s3⟩ := hS; go_simp⟩) (HS.out.below HBD.out) ?_
  simp only [Act.put, List.setIfInBounds_toArray, List.set_cons_zero, List.set_cons_succ]
  refine wpAnyH_ready (rs := [5]) (by kernel_rfl) (by simp) ?_
  refine AllReadyH.cons rfl (fun K hK => ?_) AllReadyH.nil
  go_simp
  refine (HC.out _ HBD.out).mono ?_
  rintro e w3 h3
  rcases h3.cases with ⟨er, q, A, hr, rfl, hA, hb3⟩ | ⟨a, v, hr, rfl, hv, hb3⟩
  · exact ⟨rfl, Cks.bad (show kindC (findC ds) x = _ from hr) (Below.step HB.out (Below.step HBD.out hb3)) hA⟩
  have hv : v = .int .i64 (a : Nat) := hv
  subst hv
  have HR3 := hide hr
  have HB3 := hide (Below.step HBD.out hb3)
  clear h3 hr hb3
  refine hK.out _ _ (HS.out.below HB3.out) (fun _ => ?_)
  clear hK K
  refine wpAnyH_take (i := 6) (oi := ⟨some 4, _, _, _, _, _⟩) (v := .int .i64 (a : Nat)) rfl (by kernel_rfl) (by kernel_rfl) (by kernel_rfl) (fun _ _ _ h => h) (Or.inl ⟨by rfl, fun W hS => by obtain ⟨s0, s1, s2, s3⟩ := hS; go_simp⟩) (HS.out.below HB3.out) ?_
  simp only [Act.put, List.setIfInBounds_toArray, List.set_cons_zero, List.set_cons_succ]
  refine wpAnyH_done (by kernel_rfl) ?_ _
  go_wp2_with fail
  go_ret
  exact Cks.ok (show kindC (findC ds) x = _ from HR3.out) (Below.step HB.out HB3.out) rfl

set_option maxRecDepth 100000 in
set_option maxHeartbeats 6400000 in
theorem kind_bin (p : Nat) (op : ByteArray) (x y : Ex) (ihx : KindOK x) (ihy : KindOK y) : KindOK (.bin p op x y) := by
  intro S w v LV ds hl h hx
  obtain ⟨X, a, c, rfl, hSX, hX, hxa, hyc⟩ := hx
  obtain ⟨Q, rfl⟩ := hxa.ptr
  obtain ⟨U, rfl⟩ := hyc.ptr
  have HXA := hide hxa
  have HYC := hide hyc
  have HB := hide (below_alloc w (.cells #[LV] 122))
  have HN := hide (blk_new w (.cells #[LV] 122))
  have HX1 := hide (Below.blk HB.out hX)
  have HF1 := hide (h.below HB.out)
  have hq : ∀ (A : Addr) (w : World), (binOp .eql 96 (.pointer (some A)) (.pointer none)).run Tryz.prog w = .ok (.bool false) w := fun _ _ => rfl
  obtain ⟨F, cs, rfl⟩ := h.fn
  clear h hX
  have HC := hide (ltwo_at hl HF1.out op x y p S X Q U HX1.out (HXA.out.below HB.out) (HYC.out.below HB.out) ihx ihy)
  clear hxa hyc ihx ihy
  go_enter Tryz.func136, Tryz.ntmps136
  have x0 : (w.alloc (.cells #[.func F #[] cs] 122)).cell? ⟨X, 0, none⟩ = some (.int .i64 5) := by rw [blk_cell HX1.out]; rfl
  have x3 : (w.alloc (.cells #[.func F #[] cs] 122)).cell? ⟨w.heap.size, 0, none⟩ = some (.func F #[] cs) := by rw [blk_cell HN.out]; rfl
  go_wp2_with fail
  refine HC.out.mono ?_
  rintro e w3 h3
  rcases h3.cases with ⟨er, q, A, hr, rfl, hA, hb3⟩ | ⟨a, v, hr, rfl, hv, hb3⟩
  · have HR := hide hr
    have HA := hide hA
    have HB3 := hide (Below.step HB.out hb3)
    clear h3 hr hA hb3
    go_wp2_with fail
    exact ⟨rfl, Cks.bad (HR.out) HB3.out HA.out⟩
  · have hv : v = .int .i64 (a : Nat) := hv
    subst hv
    have HR := hide hr
    have HB3 := hide (Below.step HB.out hb3)
    clear h3 hr hb3
    go_wp2_with fail
    go_ret
    exact Cks.ok (HR.out) HB3.out rfl

theorem kind_all : ∀ (x : Ex), KindOK x
  | .num p n ty => kind_num p n ty
  | .name p s => kind_name p s
  | .field p s g => kind_field p s g
  | .not p x => kind_not p x (kind_all x)
  | .bin p op x y => kind_bin p op x y (kind_all x) (kind_all y)
end Go.Proofs.YtgncgbngjdcpgaaGreatDoor
