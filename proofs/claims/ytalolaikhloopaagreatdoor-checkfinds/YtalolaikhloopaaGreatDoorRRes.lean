/-
 CONTRACT of Result of the reference: of which type two of a mark of programs are.
-/
import Derived.Test.YtalolaikhloopaaGreatDoorJRName
import Derived.Test.YtalolaikhloopaaGreatDoorJChk
namespace Go.Proofs.YtalolaikhloopaaGreatDoor
open Go.RowKit
set_option linter.unusedSimpArgs false
set_option linter.unusedVariables false

theorem contains_one {t : List UInt8} (ht : ∀ c ∈ t, c ≠ 32) : Lib.contains t [32] = false := by
 have h := contains_skip t [] [] ht
 rw [List.append_nil] at h
 rw [h]; rfl

def ops11 : List (List UInt8) := [[111, 114], [120, 111, 114], [97, 110, 100], [61], [60, 62], [60], [60, 61], [62], [62, 61], [43], [45]]
theorem op_mem {l : List UInt8} (h : 1 ≤ levelN l) : l ∈ ops11 := by
 unfold levelN at h
 simp only [ops11, List.mem_cons, List.not_mem_nil, or_false]
 split at h
 ·rename_i e; rw [beq_iff_eq] at e; exact .inl e
 split at h
 ·rename_i e; rw [beq_iff_eq] at e; exact .inr (.inl e)
 split at h
 ·rename_i e; rw [beq_iff_eq] at e; exact .inr (.inr (.inl e))
 split at h
 ·rename_i e
  simp only [Bool.or_eq_true, beq_iff_eq] at e
  rcases e with ((((e | e) | e) | e) | e) | e <;> simp [e]
 split at h
 ·rename_i e
  simp only [Bool.or_eq_true, beq_iff_eq] at e
  rcases e with e | e <;> simp [e]
 ·omega
theorem op_form : ∀ l ∈ ops11, l ≠ [] ∧ (∀ c ∈ l, c ≠ 32) ∧ l.length ≤ 3 := by decide

set_option maxRecDepth 100000 in
set_option maxHeartbeats 3200000 in
theorem rhas_at (W : List (List UInt8)) (hW : ∀ v ∈ W, ∀ c ∈ v, c ≠ 32) (s : ByteArray) (hs : s.data.toList = hay W) (hz : s.size ≤ 100) (op : ByteArray) (hop : op.data.toList ∈ ops11) (B : Nat) (r : Bool) (hr : W.contains op.toList = r) (w : World) (hc : w.cell? ⟨B, 0, none⟩ = some (.string op)) (hv : RVars w) :
  Calls Tryz.prog 263 #[.string s, .pointer (some ⟨B, 0, none⟩)] w fun e w' => e = .returned (.bool r) ∧ w' = w := by
 obtain ⟨m, hm⟩ := hv.max
 obtain ⟨h0, h32, h3⟩ := op_form _ hop
 have hsz : op.size ≤ 3 := by rw [show op.size = op.data.toList.length from (Array.length_toList).symm]; exact h3
 have he : op.toList.isEmpty = false := by
  rw [ByteArray.toList_eq]
  cases h : op.data.toList with
  | nil => exact absurd h h0
  | cons a t => rfl
 have HC1 := hide (Tryz.strings_Contains op ⟨#[32]⟩ m w (by omega) hm)
 have HC2 := hide (Tryz.strings_Contains s (⟨#[32]⟩ ++ op ++ ⟨#[32]⟩) m w (by omega) hm)
 have H1 : Hid (Lib.contains op.data.toList (⟨#[32]⟩ : ByteArray).data.toList = false) := hide (contains_one h32)
 have H2 : Hid (Lib.contains s.data.toList (⟨#[32]⟩ ++ op ++ ⟨#[32]⟩ : ByteArray).data.toList = r) := hide (by rw [hs, bare_list, contains_hay W op.data.toList hW h32, ← ByteArray.toList_eq]; exact hr)
 clear hop h0 h32 h3 hs hr hW hm hv
 go_enter Tryz.func263, Tryz.ntmps263
 go_wp2_with fail
 refine HC1.out.mono ?_
 rintro e w1 ⟨rfl, rfl⟩
 rw [H1.out]
 go_wp2_with fail
 refine HC2.out.mono ?_
 rintro e w1 ⟨rfl, rfl⟩
 rw [H2.out]
 go_wp2_with fail
 go_ret
 exact ⟨rfl, rfl⟩

def wW : List (List UInt8) := [[97, 110, 100], [111, 114], [120, 111, 114]]
def wS : List (List UInt8) := [[61], [60, 62]]
def wB : List (List UInt8) := [[60], [60, 61], [62], [62, 61]]

theorem rwords_at (op : ByteArray) (hop : op.data.toList ∈ ops11) (B : Nat) (r : Bool) (hr : wW.contains op.toList = r) (w : World) (hc : w.cell? ⟨B, 0, none⟩ = some (.string op)) (hv : RVars w) :
  Calls Tryz.prog 263 #[.string ⟨#[32, 97, 110, 100, 32, 111, 114, 32, 120, 111, 114, 32]⟩, .pointer (some ⟨B, 0, none⟩)] w fun e w' => e = .returned (.bool r) ∧ w' = w :=
 rhas_at wW (by decide) _ rfl (by decide) op hop B r hr w hc hv
theorem rsames_at (op : ByteArray) (hop : op.data.toList ∈ ops11) (B : Nat) (r : Bool) (hr : wS.contains op.toList = r) (w : World) (hc : w.cell? ⟨B, 0, none⟩ = some (.string op)) (hv : RVars w) :
  Calls Tryz.prog 263 #[.string ⟨#[32, 61, 32, 60, 62, 32]⟩, .pointer (some ⟨B, 0, none⟩)] w fun e w' => e = .returned (.bool r) ∧ w' = w :=
 rhas_at wS (by decide) _ rfl (by decide) op hop B r hr w hc hv
theorem rbytes_at (op : ByteArray) (hop : op.data.toList ∈ ops11) (B : Nat) (r : Bool) (hr : wB.contains op.toList = r) (w : World) (hc : w.cell? ⟨B, 0, none⟩ = some (.string op)) (hv : RVars w) :
  Calls Tryz.prog 263 #[.string ⟨#[32, 60, 32, 60, 61, 32, 62, 32, 62, 61, 32]⟩, .pointer (some ⟨B, 0, none⟩)] w fun e w' => e = .returned (.bool r) ∧ w' = w :=
 rhas_at wB (by decide) _ rfl (by decide) op hop B r hr w hc hv

theorem resN_W (l : List UInt8) (a : Nat) (ha : widthN a ≠ 0) (h : wW.contains l = true) : resN l a a = a := by
 have : (l == [97, 110, 100] || l == [111, 114] || l == [120, 111, 114]) = true := by simpa [wW, Bool.or_assoc] using h
 simp only [resN, ne_eq, not_true_eq_false, ha, or_self, if_false, this, if_true]
theorem resN_S (l : List UInt8) (a : Nat) (ha : widthN a ≠ 0) (h1 : wW.contains l = false) (h : wS.contains l = true) : resN l a a = 1 := by
 have e1 : (l == [97, 110, 100] || l == [111, 114] || l == [120, 111, 114]) = false := by simpa [wW, Bool.or_assoc, and_assoc] using h1
 have e2 : (l == [61] || l == [60, 62]) = true := by simpa [wS] using h
 simp only [resN, ne_eq, not_true_eq_false, ha, or_self, if_false, e1, e2, if_true, Bool.false_eq_true]
theorem resN_1 (l : List UInt8) (h1 : wW.contains l = false) (h : wS.contains l = false) : resN l 1 1 = 0 := by
 have e1 : (l == [97, 110, 100] || l == [111, 114] || l == [120, 111, 114]) = false := by simpa [wW, Bool.or_assoc, and_assoc] using h1
 have e2 : (l == [61] || l == [60, 62]) = false := by simpa [wS] using h
 unfold resN
 rw [if_neg (by decide), e1, e2]
 rfl
theorem resN_2 (l : List UInt8) (h1 : wW.contains l = false) (h : wS.contains l = false) (r : Bool) (h3 : wB.contains l = r) : resN l 2 2 = if r then 1 else if l == [43] || l == [45] then 2 else 0 := by
 have e1 : (l == [97, 110, 100] || l == [111, 114] || l == [120, 111, 114]) = false := by simpa [wW, Bool.or_assoc, and_assoc] using h1
 have e2 : (l == [61] || l == [60, 62]) = false := by simpa [wS] using h
 have e3 : (l == [60] || l == [60, 61] || l == [62] || l == [62, 61]) = r := by rw [← h3]; simp only [wB, List.contains_cons, List.contains_nil, Bool.or_false, Bool.or_assoc]
 unfold resN
 rw [if_neg (by decide), e1, e2, e3]
 rfl
theorem strObj (w : World) (op : ByteArray) : (w.alloc (.cells #[.string op] 9)).cell? ⟨w.heap.size, 0, none⟩ = some (.string op) := by rw [blk_cell (blk_new w _)]; rfl

set_option maxRecDepth 100000 in
set_option maxHeartbeats 3200000 in
theorem rresult_ne (op : ByteArray) (a b : Nat) (hab : a ≠ b) (w : World) :
  Calls Tryz.prog 235 #[.string op, .int .i64 a, .int .i64 b] w fun e w' => e = .returned (.int .i64 0) ∧ Below w.heap.size w w' := by
 have hne : ((a : Int) != (b : Int)) = true := by simp; omega
 have HB := hide (below_alloc w (.cells #[.string op] 9))
 clear hab
 go_enter Tryz.func235, Tryz.ntmps235
 go_wp2_with fail
 go_ret
 exact ⟨rfl, HB.out⟩

set_option maxRecDepth 100000 in
set_option maxHeartbeats 3200000 in
theorem rresult_none (op : ByteArray) (a : Nat) (ha : widthN a = 0) (w : World) :
  Calls Tryz.prog 235 #[.string op, .int .i64 a, .int .i64 a] w fun e w' => e = .returned (.int .i64 0) ∧ Below w.heap.size w w' := by
 have HB := hide (below_alloc w (.cells #[.string op] 9))
 have HW := hide (rwidth_at a (w.alloc (.cells #[.string op] 9)))
 rw [ha] at HW
 clear ha
 go_enter Tryz.func235, Tryz.ntmps235
 go_wp2_with fail
 refine HW.out.mono ?_
 rintro e w1 ⟨rfl, rfl⟩
 go_wp2_with fail
 go_ret
 exact ⟨rfl, HB.out⟩

set_option maxRecDepth 100000 in
set_option maxHeartbeats 3200000 in
theorem rresult_W (op : ByteArray) (hop : op.data.toList ∈ ops11) (a wd : Nat) (h12 : a = 1 ∨ a = 2) (h1 : wW.contains op.toList = true) (w : World) (hv : RVars w) :
  Calls Tryz.prog 235 #[.string op, .int .i64 a, .int .i64 a] w fun e w' => e = .returned (.int .i64 a) ∧ Below w.heap.size w w' := by
 have hb := below_alloc w (.cells #[.string op] 9)
 have HB := hide hb
 have HW := hide (rwidth_at a (w.alloc (.cells #[.string op] 9)))
 have H1 := hide (rwords_at op hop w.heap.size true h1 _ (strObj w op) (hv.below hb))
 have hq : (((widthN a : Nat) : Int) == 0) = false := by rcases h12 with rfl | rfl <;> rfl
 generalize widthN a = wa at *
 clear hop h1 hv hb
 go_enter Tryz.func235, Tryz.ntmps235
 go_wp2_with fail
 refine HW.out.mono ?_
 rintro e w1 ⟨rfl, rfl⟩
 go_wp2_with fail
 refine H1.out.mono ?_
 rintro e w1 ⟨rfl, rfl⟩
 go_wp2_with fail
 go_ret
 exact ⟨rfl, HB.out⟩

set_option maxRecDepth 100000 in
set_option maxHeartbeats 3200000 in
theorem rresult_S (op : ByteArray) (hop : op.data.toList ∈ ops11) (a wd : Nat) (h12 : a = 1 ∨ a = 2) (h1 : wW.contains op.toList = false) (h2 : wS.contains op.toList = true) (w : World) (hv : RVars w) :
  Calls Tryz.prog 235 #[.string op, .int .i64 a, .int .i64 a] w fun e w' => e = .returned (.int .i64 1) ∧ Below w.heap.size w w' := by
 have hb := below_alloc w (.cells #[.string op] 9)
 have HB := hide hb
 have HW := hide (rwidth_at a (w.alloc (.cells #[.string op] 9)))
 have H1 := hide (rwords_at op hop w.heap.size false h1 _ (strObj w op) (hv.below hb))
 have H2 := hide (rsames_at op hop w.heap.size true h2 _ (strObj w op) (hv.below hb))
 have hq : (((widthN a : Nat) : Int) == 0) = false := by rcases h12 with rfl | rfl <;> rfl
 generalize widthN a = wa at *
 clear hop h1 h2 hv hb
 go_enter Tryz.func235, Tryz.ntmps235
 go_wp2_with fail
 refine HW.out.mono ?_
 rintro e w1 ⟨rfl, rfl⟩
 go_wp2_with fail
 refine H1.out.mono ?_
 rintro e w1 ⟨rfl, rfl⟩
 go_wp2_with fail
 refine H2.out.mono ?_
 rintro e w1 ⟨rfl, rfl⟩
 go_wp2_with fail
 go_ret
 exact ⟨rfl, HB.out⟩

set_option maxRecDepth 100000 in
set_option maxHeartbeats 3200000 in
theorem rresult_1 (op : ByteArray) (hop : op.data.toList ∈ ops11) (h1 : wW.contains op.toList = false) (h2 : wS.contains op.toList = false) (w : World) (hv : RVars w) :
  Calls Tryz.prog 235 #[.string op, .int .i64 1, .int .i64 1] w fun e w' => e = .returned (.int .i64 0) ∧ Below w.heap.size w w' := by
 have hb := below_alloc w (.cells #[.string op] 9)
 have HB := hide hb
 have HW := hide (rwidth_at 1 (w.alloc (.cells #[.string op] 9)))
 have H1 := hide (rwords_at op hop w.heap.size false h1 _ (strObj w op) (hv.below hb))
 have H2 := hide (rsames_at op hop w.heap.size false h2 _ (strObj w op) (hv.below hb))
 clear hop h1 h2 hv hb
 go_enter Tryz.func235, Tryz.ntmps235
 go_wp2_with fail
 refine HW.out.mono ?_
 rintro e w1 ⟨rfl, rfl⟩
 go_wp2_with fail
 refine H1.out.mono ?_
 rintro e w1 ⟨rfl, rfl⟩
 go_wp2_with fail
 refine H2.out.mono ?_
 rintro e w1 ⟨rfl, rfl⟩
 go_wp2_with fail
 go_ret
 exact ⟨rfl, HB.out⟩

set_option maxRecDepth 100000 in
set_option maxHeartbeats 3200000 in
theorem rresult_2 (op : ByteArray) (hop : op.data.toList ∈ ops11) (h1 : wW.contains op.toList = false) (h2 : wS.contains op.toList = false) (r p m : Bool) (h3 : wB.contains op.toList = r) (hp : (op.toList == [43]) = p) (hm : (op.toList == [45]) = m) (w : World) (hv : RVars w) :
  Calls Tryz.prog 235 #[.string op, .int .i64 2, .int .i64 2] w fun e w' => e = .returned (.int .i64 (if r then 1 else if p || m then 2 else 0)) ∧ Below w.heap.size w w' := by
 have hb := below_alloc w (.cells #[.string op] 9)
 have HB := hide hb
 have hc := strObj w op
 have HW := hide (rwidth_at 2 (w.alloc (.cells #[.string op] 9)))
 have H1 := hide (rwords_at op hop w.heap.size false h1 _ (strObj w op) (hv.below hb))
 have H2 := hide (rsames_at op hop w.heap.size false h2 _ (strObj w op) (hv.below hb))
 have H3 := hide (rbytes_at op hop w.heap.size r h3 _ (strObj w op) (hv.below hb))
 clear hop h1 h2 h3 hv hb
 cases r with
 | true =>
  clear hp hm
  go_enter Tryz.func235, Tryz.ntmps235
  go_wp2_with fail
  refine HW.out.mono ?_
  rintro e w1 ⟨rfl, rfl⟩
  go_wp2_with fail
  refine H1.out.mono ?_
  rintro e w1 ⟨rfl, rfl⟩
  go_wp2_with fail
  refine H2.out.mono ?_
  rintro e w1 ⟨rfl, rfl⟩
  go_wp2_with fail
  refine H3.out.mono ?_
  rintro e w1 ⟨rfl, rfl⟩
  go_wp2_with fail
  go_ret
  exact ⟨rfl, HB.out⟩
 | false =>
  cases p with
  | true =>
   clear hm
   go_enter Tryz.func235, Tryz.ntmps235
   go_wp2_with fail
   refine HW.out.mono ?_
   rintro e w1 ⟨rfl, rfl⟩
   go_wp2_with fail
   refine H1.out.mono ?_
   rintro e w1 ⟨rfl, rfl⟩
   go_wp2_with fail
   refine H2.out.mono ?_
   rintro e w1 ⟨rfl, rfl⟩
   go_wp2_with fail
   refine H3.out.mono ?_
   rintro e w1 ⟨rfl, rfl⟩
   go_wp2_with fail
   go_ret
   exact ⟨rfl, HB.out⟩
  | false =>
   cases m with
   | true =>
    go_enter Tryz.func235, Tryz.ntmps235
    go_wp2_with fail
    refine HW.out.mono ?_
    rintro e w1 ⟨rfl, rfl⟩
    go_wp2_with fail
    refine H1.out.mono ?_
    rintro e w1 ⟨rfl, rfl⟩
    go_wp2_with fail
    refine H2.out.mono ?_
    rintro e w1 ⟨rfl, rfl⟩
    go_wp2_with fail
    refine H3.out.mono ?_
    rintro e w1 ⟨rfl, rfl⟩
    go_wp2_with fail
    go_ret
    exact ⟨rfl, HB.out⟩
   | false =>
    go_enter Tryz.func235, Tryz.ntmps235
    go_wp2_with fail
    refine HW.out.mono ?_
    rintro e w1 ⟨rfl, rfl⟩
    go_wp2_with fail
    refine H1.out.mono ?_
    rintro e w1 ⟨rfl, rfl⟩
    go_wp2_with fail
    refine H2.out.mono ?_
    rintro e w1 ⟨rfl, rfl⟩
    go_wp2_with fail
    refine H3.out.mono ?_
    rintro e w1 ⟨rfl, rfl⟩
    go_wp2_with fail
    go_ret
    exact ⟨rfl, HB.out⟩

/-- Result of the reference, at a mark -/
theorem rresult_at (op : ByteArray) (hlev : 1 ≤ levelN op.toList) (a b : Nat) (w : World) (hv : RVars w) :
  Calls Tryz.prog 235 #[.string op, .int .i64 a, .int .i64 b] w fun e w' => e = .returned (.int .i64 (resN op.toList a b : Nat)) ∧ Below w.heap.size w w' := by
 have hop : op.data.toList ∈ ops11 := by rw [← ByteArray.toList_eq]; exact op_mem hlev
 by_cases hab : a = b
 ·subst hab
  by_cases h0 : widthN a = 0
  ·have : resN op.toList a a = 0 := by simp [resN, h0]
   rw [this]
   exact rresult_none op a h0 w
  ·have h12 : a = 1 ∨ a = 2 := by
    unfold widthN at h0
    split at h0
    ·exact .inl ‹_›
    ·split at h0
     ·exact .inr ‹_›
     ·exact absurd rfl h0
   cases h1 : wW.contains op.toList with
   | true => rw [resN_W _ _ h0 h1]; exact rresult_W op hop a 0 h12 h1 w hv
   | false =>
    cases h2 : wS.contains op.toList with
    | true => rw [resN_S _ _ h0 h1 h2]; exact rresult_S op hop a 0 h12 h1 h2 w hv
    | false =>
     rcases h12 with rfl | rfl
     ·rw [resN_1 _ h1 h2]; exact rresult_1 op hop h1 h2 w hv
     ·rw [resN_2 _ h1 h2 _ rfl]
      refine (rresult_2 op hop h1 h2 _ _ _ rfl rfl rfl w hv).mono ?_
      rintro e w' ⟨rfl, hb⟩
      refine ⟨?_, hb⟩
      congr 2
      split
      ·rfl
      ·split <;> rfl
 ·have : resN op.toList a b = 0 := by simp [resN, hab]
  rw [this]
  exact rresult_ne op a b hab w
end Go.Proofs.YtalolaikhloopaaGreatDoor
