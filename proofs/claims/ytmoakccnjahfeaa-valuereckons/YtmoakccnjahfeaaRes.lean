/-
  CONTRACT of the document's own answer for Result (package rungworkref): for every text of at most 20 bytes and every two numbers it returns what value.Result returns.
-/
import Derived.Test.YtmoakccnjahfeaaHas
namespace Go.Proofs.Ytmoakccnjahfeaa
open Go.RowKit

theorem hide' {p : Prop} (h : p) : Hid p := h
theorem alloc_below (w : World) (o : Obj) : Below w.heap.size w (w.alloc o) := (Below.refl _ _).alloc (Nat.le_refl _) o
theorem max_alloc {w : World} {m : Int} (o : Obj) (hm : w.cell? ⟨0, 0, none⟩ = some (.int .i64 m)) : (w.alloc o).cell? ⟨0, 0, none⟩ = some (.int .i64 m) := by
  rw [World.cell?_alloc_past _ _ _ (cell_lt hm)]; exact hm
theorem other_W (op : ByteArray) (h1 : (op.toList == [97, 110, 100]) = false) (h2 : (op.toList == [111, 114]) = false) (h3 : (op.toList == [120, 111, 114]) = false) : hasB (⟨#[32, 97, 110, 100, 32, 111, 114, 32, 120, 111, 114, 32]⟩ : ByteArray).data.toList op.data.toList = false := by
  rw [ByteArray.toList_eq, beq_eq_false_iff_ne] at *
  exact hasB_other [[97, 110, 100], [111, 114], [120, 111, 114]] (by decide) _ (by simp [h1, h2, h3])
theorem other_S (op : ByteArray) (h1 : (op.toList == [61]) = false) (h2 : (op.toList == [60, 62]) = false) : hasB (⟨#[32, 61, 32, 60, 62, 32]⟩ : ByteArray).data.toList op.data.toList = false := by
  rw [ByteArray.toList_eq, beq_eq_false_iff_ne] at *
  exact hasB_other [[61], [60, 62]] (by decide) _ (by simp [h1, h2])
theorem other_Y (op : ByteArray) (h1 : (op.toList == [60]) = false) (h2 : (op.toList == [60, 61]) = false) (h3 : (op.toList == [62]) = false) (h4 : (op.toList == [62, 61]) = false) : hasB (⟨#[32, 60, 32, 60, 61, 32, 62, 32, 62, 61, 32]⟩ : ByteArray).data.toList op.data.toList = false := by
  rw [ByteArray.toList_eq, beq_eq_false_iff_ne] at *
  exact hasB_other [[60], [60, 61], [62], [62, 61]] (by decide) _ (by simp [h1, h2, h3, h4])

set_option maxHeartbeats 1600000 in
theorem rres1_and (m : Int) (w : World) (hm : w.cell? ⟨0, 0, none⟩ = some (.int .i64 m)) :
    Calls Try.prog 16 #[.string ⟨#[97, 110, 100]⟩, .int .i64 1, .int .i64 1] w fun e w' => e = .returned (.int .i64 (resI [97, 110, 100] 1 1)) ∧ Below w.heap.size w w' := by
    have hop : (w.alloc (.cells #[.string ⟨#[97, 110, 100]⟩] 9)).cell? ⟨w.heap.size, 0, none⟩ = some (.string ⟨#[97, 110, 100]⟩) := by simp
    have hm' := max_alloc (.cells #[.string ⟨#[97, 110, 100]⟩] 9) hm
    have hbel := alloc_below w (.cells #[.string ⟨#[97, 110, 100]⟩] 9)
    have h20 : (⟨#[97, 110, 100]⟩ : ByteArray).size ≤ 20 := by decide
    go_enter Try.func16, Try.ntmps16
    go_wp2_with (go_at_call 7; refine (rwidth_any _ _).mono ?_; rintro e w' ⟨rfl, rfl⟩)
    refine (has_at ⟨#[32, 97, 110, 100, 32, 111, 114, 32, 120, 111, 114, 32]⟩ _ m true _ _ hop hm' h20 (by decide) (by decide)).mono ?_; rintro e w' ⟨rfl, rfl⟩
    go_wp2_with fail
    go_ret
    exact ⟨rfl, hbel⟩
set_option maxHeartbeats 1600000 in
theorem rres1_or (m : Int) (w : World) (hm : w.cell? ⟨0, 0, none⟩ = some (.int .i64 m)) :
    Calls Try.prog 16 #[.string ⟨#[111, 114]⟩, .int .i64 1, .int .i64 1] w fun e w' => e = .returned (.int .i64 (resI [111, 114] 1 1)) ∧ Below w.heap.size w w' := by
    have hop : (w.alloc (.cells #[.string ⟨#[111, 114]⟩] 9)).cell? ⟨w.heap.size, 0, none⟩ = some (.string ⟨#[111, 114]⟩) := by simp
    have hm' := max_alloc (.cells #[.string ⟨#[111, 114]⟩] 9) hm
    have hbel := alloc_below w (.cells #[.string ⟨#[111, 114]⟩] 9)
    have h20 : (⟨#[111, 114]⟩ : ByteArray).size ≤ 20 := by decide
    go_enter Try.func16, Try.ntmps16
    go_wp2_with (go_at_call 7; refine (rwidth_any _ _).mono ?_; rintro e w' ⟨rfl, rfl⟩)
    refine (has_at ⟨#[32, 97, 110, 100, 32, 111, 114, 32, 120, 111, 114, 32]⟩ _ m true _ _ hop hm' h20 (by decide) (by decide)).mono ?_; rintro e w' ⟨rfl, rfl⟩
    go_wp2_with fail
    go_ret
    exact ⟨rfl, hbel⟩
set_option maxHeartbeats 1600000 in
theorem rres1_xor (m : Int) (w : World) (hm : w.cell? ⟨0, 0, none⟩ = some (.int .i64 m)) :
    Calls Try.prog 16 #[.string ⟨#[120, 111, 114]⟩, .int .i64 1, .int .i64 1] w fun e w' => e = .returned (.int .i64 (resI [120, 111, 114] 1 1)) ∧ Below w.heap.size w w' := by
    have hop : (w.alloc (.cells #[.string ⟨#[120, 111, 114]⟩] 9)).cell? ⟨w.heap.size, 0, none⟩ = some (.string ⟨#[120, 111, 114]⟩) := by simp
    have hm' := max_alloc (.cells #[.string ⟨#[120, 111, 114]⟩] 9) hm
    have hbel := alloc_below w (.cells #[.string ⟨#[120, 111, 114]⟩] 9)
    have h20 : (⟨#[120, 111, 114]⟩ : ByteArray).size ≤ 20 := by decide
    go_enter Try.func16, Try.ntmps16
    go_wp2_with (go_at_call 7; refine (rwidth_any _ _).mono ?_; rintro e w' ⟨rfl, rfl⟩)
    refine (has_at ⟨#[32, 97, 110, 100, 32, 111, 114, 32, 120, 111, 114, 32]⟩ _ m true _ _ hop hm' h20 (by decide) (by decide)).mono ?_; rintro e w' ⟨rfl, rfl⟩
    go_wp2_with fail
    go_ret
    exact ⟨rfl, hbel⟩
set_option maxHeartbeats 1600000 in
theorem rres1_eq (m : Int) (w : World) (hm : w.cell? ⟨0, 0, none⟩ = some (.int .i64 m)) :
    Calls Try.prog 16 #[.string ⟨#[61]⟩, .int .i64 1, .int .i64 1] w fun e w' => e = .returned (.int .i64 (resI [61] 1 1)) ∧ Below w.heap.size w w' := by
    have hop : (w.alloc (.cells #[.string ⟨#[61]⟩] 9)).cell? ⟨w.heap.size, 0, none⟩ = some (.string ⟨#[61]⟩) := by simp
    have hm' := max_alloc (.cells #[.string ⟨#[61]⟩] 9) hm
    have hbel := alloc_below w (.cells #[.string ⟨#[61]⟩] 9)
    have h20 : (⟨#[61]⟩ : ByteArray).size ≤ 20 := by decide
    go_enter Try.func16, Try.ntmps16
    go_wp2_with (go_at_call 7; refine (rwidth_any _ _).mono ?_; rintro e w' ⟨rfl, rfl⟩)
    refine (has_at ⟨#[32, 97, 110, 100, 32, 111, 114, 32, 120, 111, 114, 32]⟩ _ m false _ _ hop hm' h20 (by decide) (by decide)).mono ?_; rintro e w' ⟨rfl, rfl⟩
    go_wp2_with fail
    refine (has_at ⟨#[32, 61, 32, 60, 62, 32]⟩ _ m true _ _ hop hm' h20 (by decide) (by decide)).mono ?_; rintro e w' ⟨rfl, rfl⟩
    go_wp2_with fail
    go_ret
    exact ⟨rfl, hbel⟩
set_option maxHeartbeats 1600000 in
theorem rres1_ne (m : Int) (w : World) (hm : w.cell? ⟨0, 0, none⟩ = some (.int .i64 m)) :
    Calls Try.prog 16 #[.string ⟨#[60, 62]⟩, .int .i64 1, .int .i64 1] w fun e w' => e = .returned (.int .i64 (resI [60, 62] 1 1)) ∧ Below w.heap.size w w' := by
    have hop : (w.alloc (.cells #[.string ⟨#[60, 62]⟩] 9)).cell? ⟨w.heap.size, 0, none⟩ = some (.string ⟨#[60, 62]⟩) := by simp
    have hm' := max_alloc (.cells #[.string ⟨#[60, 62]⟩] 9) hm
    have hbel := alloc_below w (.cells #[.string ⟨#[60, 62]⟩] 9)
    have h20 : (⟨#[60, 62]⟩ : ByteArray).size ≤ 20 := by decide
    go_enter Try.func16, Try.ntmps16
    go_wp2_with (go_at_call 7; refine (rwidth_any _ _).mono ?_; rintro e w' ⟨rfl, rfl⟩)
    refine (has_at ⟨#[32, 97, 110, 100, 32, 111, 114, 32, 120, 111, 114, 32]⟩ _ m false _ _ hop hm' h20 (by decide) (by decide)).mono ?_; rintro e w' ⟨rfl, rfl⟩
    go_wp2_with fail
    refine (has_at ⟨#[32, 61, 32, 60, 62, 32]⟩ _ m true _ _ hop hm' h20 (by decide) (by decide)).mono ?_; rintro e w' ⟨rfl, rfl⟩
    go_wp2_with fail
    go_ret
    exact ⟨rfl, hbel⟩
set_option maxHeartbeats 1600000 in
theorem rres1_lt (m : Int) (w : World) (hm : w.cell? ⟨0, 0, none⟩ = some (.int .i64 m)) :
    Calls Try.prog 16 #[.string ⟨#[60]⟩, .int .i64 1, .int .i64 1] w fun e w' => e = .returned (.int .i64 (resI [60] 1 1)) ∧ Below w.heap.size w w' := by
    have hop : (w.alloc (.cells #[.string ⟨#[60]⟩] 9)).cell? ⟨w.heap.size, 0, none⟩ = some (.string ⟨#[60]⟩) := by simp
    have hm' := max_alloc (.cells #[.string ⟨#[60]⟩] 9) hm
    have hbel := alloc_below w (.cells #[.string ⟨#[60]⟩] 9)
    have h20 : (⟨#[60]⟩ : ByteArray).size ≤ 20 := by decide
    go_enter Try.func16, Try.ntmps16
    go_wp2_with (go_at_call 7; refine (rwidth_any _ _).mono ?_; rintro e w' ⟨rfl, rfl⟩)
    refine (has_at ⟨#[32, 97, 110, 100, 32, 111, 114, 32, 120, 111, 114, 32]⟩ _ m false _ _ hop hm' h20 (by decide) (by decide)).mono ?_; rintro e w' ⟨rfl, rfl⟩
    go_wp2_with fail
    refine (has_at ⟨#[32, 61, 32, 60, 62, 32]⟩ _ m false _ _ hop hm' h20 (by decide) (by decide)).mono ?_; rintro e w' ⟨rfl, rfl⟩
    go_wp2_with fail
    go_ret
    exact ⟨rfl, hbel⟩
set_option maxHeartbeats 1600000 in
theorem rres1_le (m : Int) (w : World) (hm : w.cell? ⟨0, 0, none⟩ = some (.int .i64 m)) :
    Calls Try.prog 16 #[.string ⟨#[60, 61]⟩, .int .i64 1, .int .i64 1] w fun e w' => e = .returned (.int .i64 (resI [60, 61] 1 1)) ∧ Below w.heap.size w w' := by
    have hop : (w.alloc (.cells #[.string ⟨#[60, 61]⟩] 9)).cell? ⟨w.heap.size, 0, none⟩ = some (.string ⟨#[60, 61]⟩) := by simp
    have hm' := max_alloc (.cells #[.string ⟨#[60, 61]⟩] 9) hm
    have hbel := alloc_below w (.cells #[.string ⟨#[60, 61]⟩] 9)
    have h20 : (⟨#[60, 61]⟩ : ByteArray).size ≤ 20 := by decide
    go_enter Try.func16, Try.ntmps16
    go_wp2_with (go_at_call 7; refine (rwidth_any _ _).mono ?_; rintro e w' ⟨rfl, rfl⟩)
    refine (has_at ⟨#[32, 97, 110, 100, 32, 111, 114, 32, 120, 111, 114, 32]⟩ _ m false _ _ hop hm' h20 (by decide) (by decide)).mono ?_; rintro e w' ⟨rfl, rfl⟩
    go_wp2_with fail
    refine (has_at ⟨#[32, 61, 32, 60, 62, 32]⟩ _ m false _ _ hop hm' h20 (by decide) (by decide)).mono ?_; rintro e w' ⟨rfl, rfl⟩
    go_wp2_with fail
    go_ret
    exact ⟨rfl, hbel⟩
set_option maxHeartbeats 1600000 in
theorem rres1_gt (m : Int) (w : World) (hm : w.cell? ⟨0, 0, none⟩ = some (.int .i64 m)) :
    Calls Try.prog 16 #[.string ⟨#[62]⟩, .int .i64 1, .int .i64 1] w fun e w' => e = .returned (.int .i64 (resI [62] 1 1)) ∧ Below w.heap.size w w' := by
    have hop : (w.alloc (.cells #[.string ⟨#[62]⟩] 9)).cell? ⟨w.heap.size, 0, none⟩ = some (.string ⟨#[62]⟩) := by simp
    have hm' := max_alloc (.cells #[.string ⟨#[62]⟩] 9) hm
    have hbel := alloc_below w (.cells #[.string ⟨#[62]⟩] 9)
    have h20 : (⟨#[62]⟩ : ByteArray).size ≤ 20 := by decide
    go_enter Try.func16, Try.ntmps16
    go_wp2_with (go_at_call 7; refine (rwidth_any _ _).mono ?_; rintro e w' ⟨rfl, rfl⟩)
    refine (has_at ⟨#[32, 97, 110, 100, 32, 111, 114, 32, 120, 111, 114, 32]⟩ _ m false _ _ hop hm' h20 (by decide) (by decide)).mono ?_; rintro e w' ⟨rfl, rfl⟩
    go_wp2_with fail
    refine (has_at ⟨#[32, 61, 32, 60, 62, 32]⟩ _ m false _ _ hop hm' h20 (by decide) (by decide)).mono ?_; rintro e w' ⟨rfl, rfl⟩
    go_wp2_with fail
    go_ret
    exact ⟨rfl, hbel⟩
set_option maxHeartbeats 1600000 in
theorem rres1_ge (m : Int) (w : World) (hm : w.cell? ⟨0, 0, none⟩ = some (.int .i64 m)) :
    Calls Try.prog 16 #[.string ⟨#[62, 61]⟩, .int .i64 1, .int .i64 1] w fun e w' => e = .returned (.int .i64 (resI [62, 61] 1 1)) ∧ Below w.heap.size w w' := by
    have hop : (w.alloc (.cells #[.string ⟨#[62, 61]⟩] 9)).cell? ⟨w.heap.size, 0, none⟩ = some (.string ⟨#[62, 61]⟩) := by simp
    have hm' := max_alloc (.cells #[.string ⟨#[62, 61]⟩] 9) hm
    have hbel := alloc_below w (.cells #[.string ⟨#[62, 61]⟩] 9)
    have h20 : (⟨#[62, 61]⟩ : ByteArray).size ≤ 20 := by decide
    go_enter Try.func16, Try.ntmps16
    go_wp2_with (go_at_call 7; refine (rwidth_any _ _).mono ?_; rintro e w' ⟨rfl, rfl⟩)
    refine (has_at ⟨#[32, 97, 110, 100, 32, 111, 114, 32, 120, 111, 114, 32]⟩ _ m false _ _ hop hm' h20 (by decide) (by decide)).mono ?_; rintro e w' ⟨rfl, rfl⟩
    go_wp2_with fail
    refine (has_at ⟨#[32, 61, 32, 60, 62, 32]⟩ _ m false _ _ hop hm' h20 (by decide) (by decide)).mono ?_; rintro e w' ⟨rfl, rfl⟩
    go_wp2_with fail
    go_ret
    exact ⟨rfl, hbel⟩
set_option maxHeartbeats 1600000 in
theorem rres1_add (m : Int) (w : World) (hm : w.cell? ⟨0, 0, none⟩ = some (.int .i64 m)) :
    Calls Try.prog 16 #[.string ⟨#[43]⟩, .int .i64 1, .int .i64 1] w fun e w' => e = .returned (.int .i64 (resI [43] 1 1)) ∧ Below w.heap.size w w' := by
    have hop : (w.alloc (.cells #[.string ⟨#[43]⟩] 9)).cell? ⟨w.heap.size, 0, none⟩ = some (.string ⟨#[43]⟩) := by simp
    have hm' := max_alloc (.cells #[.string ⟨#[43]⟩] 9) hm
    have hbel := alloc_below w (.cells #[.string ⟨#[43]⟩] 9)
    have h20 : (⟨#[43]⟩ : ByteArray).size ≤ 20 := by decide
    go_enter Try.func16, Try.ntmps16
    go_wp2_with (go_at_call 7; refine (rwidth_any _ _).mono ?_; rintro e w' ⟨rfl, rfl⟩)
    refine (has_at ⟨#[32, 97, 110, 100, 32, 111, 114, 32, 120, 111, 114, 32]⟩ _ m false _ _ hop hm' h20 (by decide) (by decide)).mono ?_; rintro e w' ⟨rfl, rfl⟩
    go_wp2_with fail
    refine (has_at ⟨#[32, 61, 32, 60, 62, 32]⟩ _ m false _ _ hop hm' h20 (by decide) (by decide)).mono ?_; rintro e w' ⟨rfl, rfl⟩
    go_wp2_with fail
    go_ret
    exact ⟨rfl, hbel⟩
set_option maxHeartbeats 1600000 in
theorem rres1_sub (m : Int) (w : World) (hm : w.cell? ⟨0, 0, none⟩ = some (.int .i64 m)) :
    Calls Try.prog 16 #[.string ⟨#[45]⟩, .int .i64 1, .int .i64 1] w fun e w' => e = .returned (.int .i64 (resI [45] 1 1)) ∧ Below w.heap.size w w' := by
    have hop : (w.alloc (.cells #[.string ⟨#[45]⟩] 9)).cell? ⟨w.heap.size, 0, none⟩ = some (.string ⟨#[45]⟩) := by simp
    have hm' := max_alloc (.cells #[.string ⟨#[45]⟩] 9) hm
    have hbel := alloc_below w (.cells #[.string ⟨#[45]⟩] 9)
    have h20 : (⟨#[45]⟩ : ByteArray).size ≤ 20 := by decide
    go_enter Try.func16, Try.ntmps16
    go_wp2_with (go_at_call 7; refine (rwidth_any _ _).mono ?_; rintro e w' ⟨rfl, rfl⟩)
    refine (has_at ⟨#[32, 97, 110, 100, 32, 111, 114, 32, 120, 111, 114, 32]⟩ _ m false _ _ hop hm' h20 (by decide) (by decide)).mono ?_; rintro e w' ⟨rfl, rfl⟩
    go_wp2_with fail
    refine (has_at ⟨#[32, 61, 32, 60, 62, 32]⟩ _ m false _ _ hop hm' h20 (by decide) (by decide)).mono ?_; rintro e w' ⟨rfl, rfl⟩
    go_wp2_with fail
    go_ret
    exact ⟨rfl, hbel⟩
set_option maxHeartbeats 1600000 in
theorem rres1_other (op : ByteArray) (m : Int) (w : World) (hm : w.cell? ⟨0, 0, none⟩ = some (.int .i64 m)) (h20 : op.size ≤ 20)
    (h1 : (op.toList == [97, 110, 100]) = false) (h2 : (op.toList == [111, 114]) = false) (h3 : (op.toList == [120, 111, 114]) = false) (h4 : (op.toList == [61]) = false) (h5 : (op.toList == [60, 62]) = false) (h6 : (op.toList == [60]) = false) (h7 : (op.toList == [60, 61]) = false) (h8 : (op.toList == [62]) = false) (h9 : (op.toList == [62, 61]) = false) (h10 : (op.toList == [43]) = false) (h11 : (op.toList == [45]) = false) :
    Calls Try.prog 16 #[.string op, .int .i64 1, .int .i64 1] w fun e w' => e = .returned (.int .i64 (resI op.data.toList 1 1)) ∧ Below w.heap.size w w' := by
    rw [resI_other op 1 1 h1 h2 h3 h4 h5 h6 h7 h8 h9 h10 h11]
    have HW := hide' (other_W op h1 h2 h3)
    have HS := hide' (other_S op h4 h5)
    have HY := hide' (other_Y op h6 h7 h8 h9)
    clear h1 h2 h3 h4 h5 h6 h7 h8 h9
    have hop : (w.alloc (.cells #[.string op] 9)).cell? ⟨w.heap.size, 0, none⟩ = some (.string op) := by simp
    have hm' := max_alloc (.cells #[.string op] 9) hm
    have hbel := alloc_below w (.cells #[.string op] 9)
    go_enter Try.func16, Try.ntmps16
    go_wp2_with (go_at_call 7; refine (rwidth_any _ _).mono ?_; rintro e w' ⟨rfl, rfl⟩)
    refine (has_at ⟨#[32, 97, 110, 100, 32, 111, 114, 32, 120, 111, 114, 32]⟩ _ m false _ _ hop hm' h20 (by decide) HW.out).mono ?_; rintro e w' ⟨rfl, rfl⟩
    go_wp2_with fail
    refine (has_at ⟨#[32, 61, 32, 60, 62, 32]⟩ _ m false _ _ hop hm' h20 (by decide) HS.out).mono ?_; rintro e w' ⟨rfl, rfl⟩
    go_wp2_with fail
    go_ret
    exact ⟨rfl, hbel⟩
set_option maxHeartbeats 1600000 in
theorem rres2_and (m : Int) (w : World) (hm : w.cell? ⟨0, 0, none⟩ = some (.int .i64 m)) :
    Calls Try.prog 16 #[.string ⟨#[97, 110, 100]⟩, .int .i64 2, .int .i64 2] w fun e w' => e = .returned (.int .i64 (resI [97, 110, 100] 2 2)) ∧ Below w.heap.size w w' := by
    have hop : (w.alloc (.cells #[.string ⟨#[97, 110, 100]⟩] 9)).cell? ⟨w.heap.size, 0, none⟩ = some (.string ⟨#[97, 110, 100]⟩) := by simp
    have hm' := max_alloc (.cells #[.string ⟨#[97, 110, 100]⟩] 9) hm
    have hbel := alloc_below w (.cells #[.string ⟨#[97, 110, 100]⟩] 9)
    have h20 : (⟨#[97, 110, 100]⟩ : ByteArray).size ≤ 20 := by decide
    go_enter Try.func16, Try.ntmps16
    go_wp2_with (go_at_call 7; refine (rwidth_any _ _).mono ?_; rintro e w' ⟨rfl, rfl⟩)
    refine (has_at ⟨#[32, 97, 110, 100, 32, 111, 114, 32, 120, 111, 114, 32]⟩ _ m true _ _ hop hm' h20 (by decide) (by decide)).mono ?_; rintro e w' ⟨rfl, rfl⟩
    go_wp2_with fail
    go_ret
    exact ⟨rfl, hbel⟩
set_option maxHeartbeats 1600000 in
theorem rres2_or (m : Int) (w : World) (hm : w.cell? ⟨0, 0, none⟩ = some (.int .i64 m)) :
    Calls Try.prog 16 #[.string ⟨#[111, 114]⟩, .int .i64 2, .int .i64 2] w fun e w' => e = .returned (.int .i64 (resI [111, 114] 2 2)) ∧ Below w.heap.size w w' := by
    have hop : (w.alloc (.cells #[.string ⟨#[111, 114]⟩] 9)).cell? ⟨w.heap.size, 0, none⟩ = some (.string ⟨#[111, 114]⟩) := by simp
    have hm' := max_alloc (.cells #[.string ⟨#[111, 114]⟩] 9) hm
    have hbel := alloc_below w (.cells #[.string ⟨#[111, 114]⟩] 9)
    have h20 : (⟨#[111, 114]⟩ : ByteArray).size ≤ 20 := by decide
    go_enter Try.func16, Try.ntmps16
    go_wp2_with (go_at_call 7; refine (rwidth_any _ _).mono ?_; rintro e w' ⟨rfl, rfl⟩)
    refine (has_at ⟨#[32, 97, 110, 100, 32, 111, 114, 32, 120, 111, 114, 32]⟩ _ m true _ _ hop hm' h20 (by decide) (by decide)).mono ?_; rintro e w' ⟨rfl, rfl⟩
    go_wp2_with fail
    go_ret
    exact ⟨rfl, hbel⟩
set_option maxHeartbeats 1600000 in
theorem rres2_xor (m : Int) (w : World) (hm : w.cell? ⟨0, 0, none⟩ = some (.int .i64 m)) :
    Calls Try.prog 16 #[.string ⟨#[120, 111, 114]⟩, .int .i64 2, .int .i64 2] w fun e w' => e = .returned (.int .i64 (resI [120, 111, 114] 2 2)) ∧ Below w.heap.size w w' := by
    have hop : (w.alloc (.cells #[.string ⟨#[120, 111, 114]⟩] 9)).cell? ⟨w.heap.size, 0, none⟩ = some (.string ⟨#[120, 111, 114]⟩) := by simp
    have hm' := max_alloc (.cells #[.string ⟨#[120, 111, 114]⟩] 9) hm
    have hbel := alloc_below w (.cells #[.string ⟨#[120, 111, 114]⟩] 9)
    have h20 : (⟨#[120, 111, 114]⟩ : ByteArray).size ≤ 20 := by decide
    go_enter Try.func16, Try.ntmps16
    go_wp2_with (go_at_call 7; refine (rwidth_any _ _).mono ?_; rintro e w' ⟨rfl, rfl⟩)
    refine (has_at ⟨#[32, 97, 110, 100, 32, 111, 114, 32, 120, 111, 114, 32]⟩ _ m true _ _ hop hm' h20 (by decide) (by decide)).mono ?_; rintro e w' ⟨rfl, rfl⟩
    go_wp2_with fail
    go_ret
    exact ⟨rfl, hbel⟩
set_option maxHeartbeats 1600000 in
theorem rres2_eq (m : Int) (w : World) (hm : w.cell? ⟨0, 0, none⟩ = some (.int .i64 m)) :
    Calls Try.prog 16 #[.string ⟨#[61]⟩, .int .i64 2, .int .i64 2] w fun e w' => e = .returned (.int .i64 (resI [61] 2 2)) ∧ Below w.heap.size w w' := by
    have hop : (w.alloc (.cells #[.string ⟨#[61]⟩] 9)).cell? ⟨w.heap.size, 0, none⟩ = some (.string ⟨#[61]⟩) := by simp
    have hm' := max_alloc (.cells #[.string ⟨#[61]⟩] 9) hm
    have hbel := alloc_below w (.cells #[.string ⟨#[61]⟩] 9)
    have h20 : (⟨#[61]⟩ : ByteArray).size ≤ 20 := by decide
    go_enter Try.func16, Try.ntmps16
    go_wp2_with (go_at_call 7; refine (rwidth_any _ _).mono ?_; rintro e w' ⟨rfl, rfl⟩)
    refine (has_at ⟨#[32, 97, 110, 100, 32, 111, 114, 32, 120, 111, 114, 32]⟩ _ m false _ _ hop hm' h20 (by decide) (by decide)).mono ?_; rintro e w' ⟨rfl, rfl⟩
    go_wp2_with fail
    refine (has_at ⟨#[32, 61, 32, 60, 62, 32]⟩ _ m true _ _ hop hm' h20 (by decide) (by decide)).mono ?_; rintro e w' ⟨rfl, rfl⟩
    go_wp2_with fail
    go_ret
    exact ⟨rfl, hbel⟩
set_option maxHeartbeats 1600000 in
theorem rres2_ne (m : Int) (w : World) (hm : w.cell? ⟨0, 0, none⟩ = some (.int .i64 m)) :
    Calls Try.prog 16 #[.string ⟨#[60, 62]⟩, .int .i64 2, .int .i64 2] w fun e w' => e = .returned (.int .i64 (resI [60, 62] 2 2)) ∧ Below w.heap.size w w' := by
    have hop : (w.alloc (.cells #[.string ⟨#[60, 62]⟩] 9)).cell? ⟨w.heap.size, 0, none⟩ = some (.string ⟨#[60, 62]⟩) := by simp
    have hm' := max_alloc (.cells #[.string ⟨#[60, 62]⟩] 9) hm
    have hbel := alloc_below w (.cells #[.string ⟨#[60, 62]⟩] 9)
    have h20 : (⟨#[60, 62]⟩ : ByteArray).size ≤ 20 := by decide
    go_enter Try.func16, Try.ntmps16
    go_wp2_with (go_at_call 7; refine (rwidth_any _ _).mono ?_; rintro e w' ⟨rfl, rfl⟩)
    refine (has_at ⟨#[32, 97, 110, 100, 32, 111, 114, 32, 120, 111, 114, 32]⟩ _ m false _ _ hop hm' h20 (by decide) (by decide)).mono ?_; rintro e w' ⟨rfl, rfl⟩
    go_wp2_with fail
    refine (has_at ⟨#[32, 61, 32, 60, 62, 32]⟩ _ m true _ _ hop hm' h20 (by decide) (by decide)).mono ?_; rintro e w' ⟨rfl, rfl⟩
    go_wp2_with fail
    go_ret
    exact ⟨rfl, hbel⟩
set_option maxHeartbeats 1600000 in
theorem rres2_lt (m : Int) (w : World) (hm : w.cell? ⟨0, 0, none⟩ = some (.int .i64 m)) :
    Calls Try.prog 16 #[.string ⟨#[60]⟩, .int .i64 2, .int .i64 2] w fun e w' => e = .returned (.int .i64 (resI [60] 2 2)) ∧ Below w.heap.size w w' := by
    have hop : (w.alloc (.cells #[.string ⟨#[60]⟩] 9)).cell? ⟨w.heap.size, 0, none⟩ = some (.string ⟨#[60]⟩) := by simp
    have hm' := max_alloc (.cells #[.string ⟨#[60]⟩] 9) hm
    have hbel := alloc_below w (.cells #[.string ⟨#[60]⟩] 9)
    have h20 : (⟨#[60]⟩ : ByteArray).size ≤ 20 := by decide
    go_enter Try.func16, Try.ntmps16
    go_wp2_with (go_at_call 7; refine (rwidth_any _ _).mono ?_; rintro e w' ⟨rfl, rfl⟩)
    refine (has_at ⟨#[32, 97, 110, 100, 32, 111, 114, 32, 120, 111, 114, 32]⟩ _ m false _ _ hop hm' h20 (by decide) (by decide)).mono ?_; rintro e w' ⟨rfl, rfl⟩
    go_wp2_with fail
    refine (has_at ⟨#[32, 61, 32, 60, 62, 32]⟩ _ m false _ _ hop hm' h20 (by decide) (by decide)).mono ?_; rintro e w' ⟨rfl, rfl⟩
    go_wp2_with fail
    refine (has_at ⟨#[32, 60, 32, 60, 61, 32, 62, 32, 62, 61, 32]⟩ _ m true _ _ hop hm' h20 (by decide) (by decide)).mono ?_; rintro e w' ⟨rfl, rfl⟩
    go_wp2_with fail
    go_ret
    exact ⟨rfl, hbel⟩
set_option maxHeartbeats 1600000 in
theorem rres2_le (m : Int) (w : World) (hm : w.cell? ⟨0, 0, none⟩ = some (.int .i64 m)) :
    Calls Try.prog 16 #[.string ⟨#[60, 61]⟩, .int .i64 2, .int .i64 2] w fun e w' => e = .returned (.int .i64 (resI [60, 61] 2 2)) ∧ Below w.heap.size w w' := by
    have hop : (w.alloc (.cells #[.string ⟨#[60, 61]⟩] 9)).cell? ⟨w.heap.size, 0, none⟩ = some (.string ⟨#[60, 61]⟩) := by simp
    have hm' := max_alloc (.cells #[.string ⟨#[60, 61]⟩] 9) hm
    have hbel := alloc_below w (.cells #[.string ⟨#[60, 61]⟩] 9)
    have h20 : (⟨#[60, 61]⟩ : ByteArray).size ≤ 20 := by decide
    go_enter Try.func16, Try.ntmps16
    go_wp2_with (go_at_call 7; refine (rwidth_any _ _).mono ?_; rintro e w' ⟨rfl, rfl⟩)
    refine (has_at ⟨#[32, 97, 110, 100, 32, 111, 114, 32, 120, 111, 114, 32]⟩ _ m false _ _ hop hm' h20 (by decide) (by decide)).mono ?_; rintro e w' ⟨rfl, rfl⟩
    go_wp2_with fail
    refine (has_at ⟨#[32, 61, 32, 60, 62, 32]⟩ _ m false _ _ hop hm' h20 (by decide) (by decide)).mono ?_; rintro e w' ⟨rfl, rfl⟩
    go_wp2_with fail
    refine (has_at ⟨#[32, 60, 32, 60, 61, 32, 62, 32, 62, 61, 32]⟩ _ m true _ _ hop hm' h20 (by decide) (by decide)).mono ?_; rintro e w' ⟨rfl, rfl⟩
    go_wp2_with fail
    go_ret
    exact ⟨rfl, hbel⟩
set_option maxHeartbeats 1600000 in
theorem rres2_gt (m : Int) (w : World) (hm : w.cell? ⟨0, 0, none⟩ = some (.int .i64 m)) :
    Calls Try.prog 16 #[.string ⟨#[62]⟩, .int .i64 2, .int .i64 2] w fun e w' => e = .returned (.int .i64 (resI [62] 2 2)) ∧ Below w.heap.size w w' := by
    have hop : (w.alloc (.cells #[.string ⟨#[62]⟩] 9)).cell? ⟨w.heap.size, 0, none⟩ = some (.string ⟨#[62]⟩) := by simp
    have hm' := max_alloc (.cells #[.string ⟨#[62]⟩] 9) hm
    have hbel := alloc_below w (.cells #[.string ⟨#[62]⟩] 9)
    have h20 : (⟨#[62]⟩ : ByteArray).size ≤ 20 := by decide
    go_enter Try.func16, Try.ntmps16
    go_wp2_with (go_at_call 7; refine (rwidth_any _ _).mono ?_; rintro e w' ⟨rfl, rfl⟩)
    refine (has_at ⟨#[32, 97, 110, 100, 32, 111, 114, 32, 120, 111, 114, 32]⟩ _ m false _ _ hop hm' h20 (by decide) (by decide)).mono ?_; rintro e w' ⟨rfl, rfl⟩
    go_wp2_with fail
    refine (has_at ⟨#[32, 61, 32, 60, 62, 32]⟩ _ m false _ _ hop hm' h20 (by decide) (by decide)).mono ?_; rintro e w' ⟨rfl, rfl⟩
    go_wp2_with fail
    refine (has_at ⟨#[32, 60, 32, 60, 61, 32, 62, 32, 62, 61, 32]⟩ _ m true _ _ hop hm' h20 (by decide) (by decide)).mono ?_; rintro e w' ⟨rfl, rfl⟩
    go_wp2_with fail
    go_ret
    exact ⟨rfl, hbel⟩
set_option maxHeartbeats 1600000 in
theorem rres2_ge (m : Int) (w : World) (hm : w.cell? ⟨0, 0, none⟩ = some (.int .i64 m)) :
    Calls Try.prog 16 #[.string ⟨#[62, 61]⟩, .int .i64 2, .int .i64 2] w fun e w' => e = .returned (.int .i64 (resI [62, 61] 2 2)) ∧ Below w.heap.size w w' := by
    have hop : (w.alloc (.cells #[.string ⟨#[62, 61]⟩] 9)).cell? ⟨w.heap.size, 0, none⟩ = some (.string ⟨#[62, 61]⟩) := by simp
    have hm' := max_alloc (.cells #[.string ⟨#[62, 61]⟩] 9) hm
    have hbel := alloc_below w (.cells #[.string ⟨#[62, 61]⟩] 9)
    have h20 : (⟨#[62, 61]⟩ : ByteArray).size ≤ 20 := by decide
    go_enter Try.func16, Try.ntmps16
    go_wp2_with (go_at_call 7; refine (rwidth_any _ _).mono ?_; rintro e w' ⟨rfl, rfl⟩)
    refine (has_at ⟨#[32, 97, 110, 100, 32, 111, 114, 32, 120, 111, 114, 32]⟩ _ m false _ _ hop hm' h20 (by decide) (by decide)).mono ?_; rintro e w' ⟨rfl, rfl⟩
    go_wp2_with fail
    refine (has_at ⟨#[32, 61, 32, 60, 62, 32]⟩ _ m false _ _ hop hm' h20 (by decide) (by decide)).mono ?_; rintro e w' ⟨rfl, rfl⟩
    go_wp2_with fail
    refine (has_at ⟨#[32, 60, 32, 60, 61, 32, 62, 32, 62, 61, 32]⟩ _ m true _ _ hop hm' h20 (by decide) (by decide)).mono ?_; rintro e w' ⟨rfl, rfl⟩
    go_wp2_with fail
    go_ret
    exact ⟨rfl, hbel⟩
set_option maxHeartbeats 1600000 in
theorem rres2_add (m : Int) (w : World) (hm : w.cell? ⟨0, 0, none⟩ = some (.int .i64 m)) :
    Calls Try.prog 16 #[.string ⟨#[43]⟩, .int .i64 2, .int .i64 2] w fun e w' => e = .returned (.int .i64 (resI [43] 2 2)) ∧ Below w.heap.size w w' := by
    have hop : (w.alloc (.cells #[.string ⟨#[43]⟩] 9)).cell? ⟨w.heap.size, 0, none⟩ = some (.string ⟨#[43]⟩) := by simp
    have hm' := max_alloc (.cells #[.string ⟨#[43]⟩] 9) hm
    have hbel := alloc_below w (.cells #[.string ⟨#[43]⟩] 9)
    have h20 : (⟨#[43]⟩ : ByteArray).size ≤ 20 := by decide
    go_enter Try.func16, Try.ntmps16
    go_wp2_with (go_at_call 7; refine (rwidth_any _ _).mono ?_; rintro e w' ⟨rfl, rfl⟩)
    refine (has_at ⟨#[32, 97, 110, 100, 32, 111, 114, 32, 120, 111, 114, 32]⟩ _ m false _ _ hop hm' h20 (by decide) (by decide)).mono ?_; rintro e w' ⟨rfl, rfl⟩
    go_wp2_with fail
    refine (has_at ⟨#[32, 61, 32, 60, 62, 32]⟩ _ m false _ _ hop hm' h20 (by decide) (by decide)).mono ?_; rintro e w' ⟨rfl, rfl⟩
    go_wp2_with fail
    refine (has_at ⟨#[32, 60, 32, 60, 61, 32, 62, 32, 62, 61, 32]⟩ _ m false _ _ hop hm' h20 (by decide) (by decide)).mono ?_; rintro e w' ⟨rfl, rfl⟩
    go_wp2_with fail
    go_ret
    exact ⟨rfl, hbel⟩
set_option maxHeartbeats 1600000 in
theorem rres2_sub (m : Int) (w : World) (hm : w.cell? ⟨0, 0, none⟩ = some (.int .i64 m)) :
    Calls Try.prog 16 #[.string ⟨#[45]⟩, .int .i64 2, .int .i64 2] w fun e w' => e = .returned (.int .i64 (resI [45] 2 2)) ∧ Below w.heap.size w w' := by
    have hop : (w.alloc (.cells #[.string ⟨#[45]⟩] 9)).cell? ⟨w.heap.size, 0, none⟩ = some (.string ⟨#[45]⟩) := by simp
    have hm' := max_alloc (.cells #[.string ⟨#[45]⟩] 9) hm
    have hbel := alloc_below w (.cells #[.string ⟨#[45]⟩] 9)
    have h20 : (⟨#[45]⟩ : ByteArray).size ≤ 20 := by decide
    go_enter Try.func16, Try.ntmps16
    go_wp2_with (go_at_call 7; refine (rwidth_any _ _).mono ?_; rintro e w' ⟨rfl, rfl⟩)
    refine (has_at ⟨#[32, 97, 110, 100, 32, 111, 114, 32, 120, 111, 114, 32]⟩ _ m false _ _ hop hm' h20 (by decide) (by decide)).mono ?_; rintro e w' ⟨rfl, rfl⟩
    go_wp2_with fail
    refine (has_at ⟨#[32, 61, 32, 60, 62, 32]⟩ _ m false _ _ hop hm' h20 (by decide) (by decide)).mono ?_; rintro e w' ⟨rfl, rfl⟩
    go_wp2_with fail
    refine (has_at ⟨#[32, 60, 32, 60, 61, 32, 62, 32, 62, 61, 32]⟩ _ m false _ _ hop hm' h20 (by decide) (by decide)).mono ?_; rintro e w' ⟨rfl, rfl⟩
    go_wp2_with fail
    go_ret
    exact ⟨rfl, hbel⟩
set_option maxHeartbeats 1600000 in
theorem rres2_other (op : ByteArray) (m : Int) (w : World) (hm : w.cell? ⟨0, 0, none⟩ = some (.int .i64 m)) (h20 : op.size ≤ 20)
    (h1 : (op.toList == [97, 110, 100]) = false) (h2 : (op.toList == [111, 114]) = false) (h3 : (op.toList == [120, 111, 114]) = false) (h4 : (op.toList == [61]) = false) (h5 : (op.toList == [60, 62]) = false) (h6 : (op.toList == [60]) = false) (h7 : (op.toList == [60, 61]) = false) (h8 : (op.toList == [62]) = false) (h9 : (op.toList == [62, 61]) = false) (h10 : (op.toList == [43]) = false) (h11 : (op.toList == [45]) = false) :
    Calls Try.prog 16 #[.string op, .int .i64 2, .int .i64 2] w fun e w' => e = .returned (.int .i64 (resI op.data.toList 2 2)) ∧ Below w.heap.size w w' := by
    rw [resI_other op 2 2 h1 h2 h3 h4 h5 h6 h7 h8 h9 h10 h11]
    have HW := hide' (other_W op h1 h2 h3)
    have HS := hide' (other_S op h4 h5)
    have HY := hide' (other_Y op h6 h7 h8 h9)
    clear h1 h2 h3 h4 h5 h6 h7 h8 h9
    have hop : (w.alloc (.cells #[.string op] 9)).cell? ⟨w.heap.size, 0, none⟩ = some (.string op) := by simp
    have hm' := max_alloc (.cells #[.string op] 9) hm
    have hbel := alloc_below w (.cells #[.string op] 9)
    go_enter Try.func16, Try.ntmps16
    go_wp2_with (go_at_call 7; refine (rwidth_any _ _).mono ?_; rintro e w' ⟨rfl, rfl⟩)
    refine (has_at ⟨#[32, 97, 110, 100, 32, 111, 114, 32, 120, 111, 114, 32]⟩ _ m false _ _ hop hm' h20 (by decide) HW.out).mono ?_; rintro e w' ⟨rfl, rfl⟩
    go_wp2_with fail
    refine (has_at ⟨#[32, 61, 32, 60, 62, 32]⟩ _ m false _ _ hop hm' h20 (by decide) HS.out).mono ?_; rintro e w' ⟨rfl, rfl⟩
    go_wp2_with fail
    refine (has_at ⟨#[32, 60, 32, 60, 61, 32, 62, 32, 62, 61, 32]⟩ _ m false _ _ hop hm' h20 (by decide) HY.out).mono ?_; rintro e w' ⟨rfl, rfl⟩
    go_wp2_with fail
    go_ret
    exact ⟨rfl, hbel⟩
set_option maxHeartbeats 1600000 in
theorem rres_ne (op : ByteArray) (a b : Int) (w : World) (hab : a ≠ b) :
    Calls Try.prog 16 #[.string op, .int .i64 a, .int .i64 b] w fun e w' => e = .returned (.int .i64 (resI op.data.toList a b)) ∧ Below w.heap.size w w' := by
  rw [resI_ne _ a b hab]
  have hne : (a != b) = true := by simp [hab]
  clear hab
  have hbel := alloc_below w (.cells #[.string op] 9)
  go_enter Try.func16, Try.ntmps16
  go_wp2_with fail
  go_ret
  exact ⟨rfl, hbel⟩
set_option maxHeartbeats 1600000 in
theorem rres_none (op : ByteArray) (a : Int) (w : World) (e1 : (a == 1) = false) (e2 : (a == 2) = false) :
    Calls Try.prog 16 #[.string op, .int .i64 a, .int .i64 a] w fun e w' => e = .returned (.int .i64 (resI op.data.toList a a)) ∧ Below w.heap.size w w' := by
  rw [resI_none _ a a e1 e2]
  have hbel := alloc_below w (.cells #[.string op] 9)
  have hw : wid a = 0 := by simp at e1 e2; simp [wid, e1, e2]
  have HQ : Hid (∀ W, Calls Try.prog 7 #[.int .i64 a] W fun e w' => e = .returned (.int .i64 0) ∧ w' = W) := fun W => by have := rwidth_any a W; rw [hw] at this; exact this
  clear hw e1 e2
  go_enter Try.func16, Try.ntmps16
  go_wp2_with fail
  refine (HQ.out _).mono ?_; rintro e w' ⟨rfl, rfl⟩
  go_wp2_with fail
  go_ret
  exact ⟨rfl, hbel⟩
theorem rresult_any (op : ByteArray) (a b m : Int) (w : World) (hm : w.cell? ⟨0, 0, none⟩ = some (.int .i64 m)) (h20 : op.size ≤ 20) :
    Calls Try.prog 16 #[.string op, .int .i64 a, .int .i64 b] w fun e w' => e = .returned (.int .i64 (resI op.data.toList a b)) ∧ Below w.heap.size w w' := by
  by_cases hab : a = b
  · subst hab
    rcases mod_cases a with ⟨rfl, _⟩ | ⟨rfl, _⟩ | ⟨e1, e2, _⟩
    · rcases op_cases op with hk | ⟨h1, h2, h3, h4, h5, h6, h7, h8, h9, h10, h11⟩
      · rcases hk with rfl | rfl | rfl | rfl | rfl | rfl | rfl | rfl | rfl | rfl | rfl
        · exact rres1_and m w hm
        · exact rres1_or m w hm
        · exact rres1_xor m w hm
        · exact rres1_eq m w hm
        · exact rres1_ne m w hm
        · exact rres1_lt m w hm
        · exact rres1_le m w hm
        · exact rres1_gt m w hm
        · exact rres1_ge m w hm
        · exact rres1_add m w hm
        · exact rres1_sub m w hm
      · exact rres1_other op m w hm h20 h1 h2 h3 h4 h5 h6 h7 h8 h9 h10 h11
    · rcases op_cases op with hk | ⟨h1, h2, h3, h4, h5, h6, h7, h8, h9, h10, h11⟩
      · rcases hk with rfl | rfl | rfl | rfl | rfl | rfl | rfl | rfl | rfl | rfl | rfl
        · exact rres2_and m w hm
        · exact rres2_or m w hm
        · exact rres2_xor m w hm
        · exact rres2_eq m w hm
        · exact rres2_ne m w hm
        · exact rres2_lt m w hm
        · exact rres2_le m w hm
        · exact rres2_gt m w hm
        · exact rres2_ge m w hm
        · exact rres2_add m w hm
        · exact rres2_sub m w hm
      · exact rres2_other op m w hm h20 h1 h2 h3 h4 h5 h6 h7 h8 h9 h10 h11
    · exact rres_none op a w e1 e2
  · exact rres_ne op a b w hab
end Go.Proofs.Ytmoakccnjahfeaa
