/-
  CONTRACT of the reference's Text: how it writes expressions.
-/
import Derived.BigQuiet
import Derived.Lib.QuietBelow
import Derived.Test.YtlbgdoajaplabaaGreatDoorRTwo
import Derived.Test.YtlbgdoajaplabaaGreatDoorText
set_option linter.unusedSimpArgs false
set_option linter.unusedVariables false
namespace Go.Proofs.YtlbgdoajaplabaaGreatDoor
open Go.RowKit

/-- the bytes of a list -/
def bts (l : List UInt8) : ByteArray := ⟨l.toArray⟩
theorem bts_size (l : List UInt8) : (bts l).size = l.length := by simp [bts, ByteArray.size]
theorem bts_append (a b : List UInt8) : bts a ++ bts b = bts (a ++ b) := by
  apply ByteArray.ext
  rw [ByteArray.data_append]
  simp [bts]
theorem bts_of (s : ByteArray) : bts s.data.toList = s := by cases s; simp [bts]
theorem bts_toList (l : List UInt8) : (bts l).data.toList = l := by simp [bts]
theorem cat_at {a b : ByteArray} (n : Nat) (ha : a.size + b.size ≤ n) (hn : n ≤ 100000000) (w : World) : (Op.stringOp .add a b).run Tryz.prog w = .ok (.string (a ++ b)) w := run_string_add_sum w a b (by omega)

def marksZ (lv : Nat) : ByteArray := bts (hay (marksW lv))
theorem rmarks_is (lv : Nat) (hl : lv ≤ 4) (w : World) : Calls Tryz.prog 83 #[.int .i64 lv] w fun e w' => e = .returned (.string (marksZ lv)) ∧ w' = w := by
  refine (rmarks_at lv hl w).mono ?_
  rintro e w' ⟨⟨s, rfl, hs⟩, rfl⟩
  refine ⟨?_, rfl⟩
  rw [← bts_of s, hs]
  rfl
theorem op_blank {op : ByteArray} (h : 1 ≤ levelN op.toList) : ∀ c ∈ op.data.toList, c ≠ 32 := by
  rw [← ByteArray.toList_eq]
  generalize op.toList = l at *
  unfold levelN at h
  repeat' split at h
  · rename_i e; rw [beq_iff_eq] at e; subst e; decide
  · rename_i e; rw [beq_iff_eq] at e; subst e; decide
  · rename_i e; rw [beq_iff_eq] at e; subst e; decide
  · rename_i e
    simp only [Bool.or_eq_true, beq_iff_eq] at e
    rcases e with ((((e | e) | e) | e) | e) | e <;> subst e <;> decide
  · rename_i e
    simp only [Bool.or_eq_true, beq_iff_eq] at e
    rcases e with e | e <;> subst e <;> decide
  · omega

theorem drewN_b (w : World) (k : Nat) : Below w.heap.size w (w.drewN k) := ⟨rfl, rfl, rfl, Nat.le_refl _, fun _ _ => rfl⟩
theorem ba_ext {a b : ByteArray} (h : a.data.toList = b.data.toList) : a = b := by
  apply ByteArray.ext
  exact Array.toList_inj.1 h
theorem ba_app (a b : ByteArray) : (a ++ b).data.toList = a.data.toList ++ b.data.toList := by rw [ByteArray.data_append, Array.toList_append]

/-- what the reference's Text comes to -/
def RTextOK (x : Ex) : Prop := ∀ (S : Nat → Prop) (w : World) (v : Value) (least : Nat), IsEx S w x v → (∀ c, S c → c < w.heap.size) → least ≤ 5 → (textP x (least + 1)).length ≤ 1000000 → Tab w → RVars w → 12 ≤ w.heap.size →
  Calls Tryz.prog 62 #[v, .int .i64 least] w fun e w' => e = .returned (.string (bts (textP x (least + 1)))) ∧ Below w.heap.size w w'

theorem rtx0 (a b : Value) (w : World) : (Instr.index 139 (.agg #[a, b]) (.int .i64 0)).run Tryz.prog w = .ok a w := by kernel_rfl
theorem rtx1 (a b : Value) (w : World) : (Instr.index 139 (.agg #[a, b]) (.int .i64 1)).run Tryz.prog w = .ok b w := by kernel_rfl

set_option maxRecDepth 100000 in
set_option maxHeartbeats 3200000 in
theorem rt_num (p n ty : Nat) (hg : GoodEx (.num p n ty)) : RTextOK (.num p n ty) := by
  intro S w v least hx hS hl hlen ht hv h14
  obtain ⟨X, rfl, hSX, hX⟩ := hx
  have c0 : w.cell? ⟨X, 0, none⟩ = some (.int .i64 1) := by rw [blk_cell hX]; rfl
  have c2 : w.cell? ⟨X, 2, none⟩ = some (.int .i64 n) := by rw [blk_cell hX]; rfl
  have c3 : w.cell? ⟨X, 3, none⟩ = some (.int .i64 ty) := by rw [blk_cell hX]; rfl
  have HT := hide ht
  have HTX : Hid (textP (.num p n ty) (least + 1) = valP ty n) := rfl
  clear hS hSX hX hlen hv ht
  rcases hg with ⟨rfl, hn⟩ | ⟨rfl, hn⟩
  · have i0 := rtx0
    have i1 := rtx1
    rcases (show n = 0 ∨ n = 1 by omega) with rfl | rfl
    · go_enter Tryz.func62, Tryz.ntmps62
      go_wp2_with fail
      go_ret
      rw [HTX.out]
      exact ⟨rfl, Below.refl _ _⟩
    · go_enter Tryz.func62, Tryz.ntmps62
      go_wp2_with fail
      go_ret
      rw [HTX.out]
      exact ⟨rfl, Below.refl _ _⟩
  · have HV : Hid (valP 2 n = Lib.itoa (n : Int)) := by
      show _ = _
      have : ¬ (n : Int) < 0 := by omega
      simp [valP, Lib.itoa, this]
    have HI := hide (Tryz.strconv_Itoa (n : Int) (by omega) (by omega) w HT.out)
    go_enter Tryz.func62, Tryz.ntmps62
    go_wp2_with fail
    refine HI.out.mono ?_
    rintro e w1 ⟨rfl, q, os, rfl⟩
    go_wp2_with fail
    go_ret
    rw [HTX.out, HV.out]
    exact ⟨rfl, below_grow _ _ _⟩

set_option maxRecDepth 100000 in
set_option maxHeartbeats 3200000 in
theorem rt_name (p : Nat) (s : ByteArray) : RTextOK (.name p s) := by
  intro S w v least hx hS hl hlen ht hv h14
  obtain ⟨X, rfl, hSX, hX⟩ := hx
  have c0 : w.cell? ⟨X, 0, none⟩ = some (.int .i64 2) := by rw [blk_cell hX]; rfl
  have c4 : w.cell? ⟨X, 4, none⟩ = some (.string s) := by rw [blk_cell hX]; rfl
  have HTX : Hid (bts (textP (.name p s) (least + 1)) = s) := bts_of s
  clear hS hSX hX hlen hv ht
  go_enter Tryz.func62, Tryz.ntmps62
  go_wp2_with fail
  go_ret
  rw [HTX.out]
  exact ⟨rfl, Below.refl _ _⟩

set_option maxRecDepth 100000 in
set_option maxHeartbeats 3200000 in
theorem rt_field (p : Nat) (s g : ByteArray) (hs1 : s.size ≤ 1000000) (hg1 : g.size ≤ 1000000) : RTextOK (.field p s g) := by
  intro S w v least hx hS hl hlen ht hv h14
  obtain ⟨X, rfl, hSX, hX⟩ := hx
  have c0 : w.cell? ⟨X, 0, none⟩ = some (.int .i64 3) := by rw [blk_cell hX]; rfl
  have c4 : w.cell? ⟨X, 4, none⟩ = some (.string s) := by rw [blk_cell hX]; rfl
  have c5 : w.cell? ⟨X, 5, none⟩ = some (.string g) := by rw [blk_cell hX]; rfl
  have hsz : (s ++ ⟨#[46]⟩ : ByteArray).size = s.size + 1 := by rw [ByteArray.size_append]; rfl
  have hcat1 : ∀ w, (Op.stringOp .add s ⟨#[46]⟩).run Tryz.prog w = .ok (.string (s ++ ⟨#[46]⟩)) w := fun w => cat_at (s.size + 1) (Nat.le_refl _) (by omega) w
  have hcat2 : ∀ w, (Op.stringOp .add (s ++ ⟨#[46]⟩) g).run Tryz.prog w = .ok (.string (s ++ ⟨#[46]⟩ ++ g)) w := fun w => cat_at (s.size + 1 + g.size) (by rw [hsz]; exact Nat.le_refl _) (by omega) w
  clear hsz
  have HTX : Hid (bts (textP (.field p s g) (least + 1)) = s ++ ⟨#[46]⟩ ++ g) := by
    show bts (s.data.toList ++ [46] ++ g.data.toList) = _
    rw [← bts_append, ← bts_append, bts_of, bts_of]; rfl
  clear hS hSX hX hlen hv ht
  go_enter Tryz.func62, Tryz.ntmps62
  go_wp2_with fail
  go_quiet (fail)
  go_wp2_with fail
  go_ret
  rw [HTX.out]
  exact ⟨rfl, drewN_b _ _⟩

set_option maxRecDepth 100000 in
set_option maxHeartbeats 3200000 in
theorem rt_not (p : Nat) (x : Ex) (ih : RTextOK x) : RTextOK (.not p x) := by
  intro S w v least hx hS hl hlen ht hv h14
  obtain ⟨X, a, rfl, hSX, hX, hxa⟩ := hx
  obtain ⟨Q, rfl⟩ := hxa.ptr
  have c0 : w.cell? ⟨X, 0, none⟩ = some (.int .i64 4) := by rw [blk_cell hX]; rfl
  have c7 : w.cell? ⟨X, 7, none⟩ = some (.pointer (some ⟨Q, 0, none⟩)) := by rw [blk_cell hX]; rfl
  have hlx : (textP x 6).length ≤ 1000000 := by simp [textP] at hlen; omega
  have IH := hide (ih S w _ 5 hxa hS (Nat.le_refl _) hlx ht hv h14)
  have hcat : ∀ w, (Op.stringOp .add ⟨#[110, 111, 116, 32]⟩ (bts (textP x 6))).run Tryz.prog w = .ok (.string (⟨#[110, 111, 116, 32]⟩ ++ bts (textP x 6))) w := fun w => cat_at (4 + 1000000) (by rw [bts_size]; show 4 + _ ≤ _; omega) (by omega) w
  have HTX : Hid (bts (textP (.not p x) (least + 1)) = ⟨#[110, 111, 116, 32]⟩ ++ bts (textP x 6)) := (bts_append [110, 111, 116, 32] (textP x 6)).symm
  clear hS hSX hX hlen hv ht hxa ih
  go_enter Tryz.func62, Tryz.ntmps62
  go_wp2_with fail
  refine IH.out.mono ?_
  rintro e w1 ⟨rfl, h1⟩
  have H1 := hide h1
  clear h1
  go_wp2_with fail
  go_ret
  rw [HTX.out]
  exact ⟨rfl, H1.out⟩

theorem bin_text (p : Nat) (op : ByteArray) (x y : Ex) (lv n : Nat) (h : levelN op.toList = lv + 1) :
    bts (textP (.bin p op x y) (n + 1)) = if lv < n then ⟨#[40]⟩ ++ (bts (textP x (lv + 1)) ++ ⟨#[32]⟩ ++ op ++ ⟨#[32]⟩ ++ bts (textP y (lv + 1 + 1))) ++ ⟨#[41]⟩ else bts (textP x (lv + 1)) ++ ⟨#[32]⟩ ++ op ++ ⟨#[32]⟩ ++ bts (textP y (lv + 1 + 1)) := by
  have h2 : (lv + 1 < n + 1) ↔ lv < n := by omega
  apply ba_ext
  rw [bts_toList]
  simp only [textP, h, h2]
  by_cases hl : lv < n
  · simp only [hl, if_true, ba_app, bts_toList]
    simp
  · simp only [hl, if_false, ba_app, bts_toList]
    simp

set_option maxRecDepth 100000 in
set_option maxHeartbeats 6400000 in
theorem rt_bin (p : Nat) (op : ByteArray) (x y : Ex) (h1 : 1 ≤ levelN op.toList) (ihx : RTextOK x) (ihy : RTextOK y) : RTextOK (.bin p op x y) := by
  intro S w v least hx hS hl hlen ht hv h14
  obtain ⟨X, a, c, rfl, hSX, hX, hxa, hyc⟩ := hx
  obtain ⟨Q, rfl⟩ := hxa.ptr
  obtain ⟨U, rfl⟩ := hyc.ptr
  have c0 : w.cell? ⟨X, 0, none⟩ = some (.int .i64 5) := by rw [blk_cell hX]; rfl
  have c6 : w.cell? ⟨X, 6, none⟩ = some (.string op) := by rw [blk_cell hX]; rfl
  have c7 : w.cell? ⟨X, 7, none⟩ = some (.pointer (some ⟨Q, 0, none⟩)) := by rw [blk_cell hX]; rfl
  have c8 : w.cell? ⟨X, 8, none⟩ = some (.pointer (some ⟨U, 0, none⟩)) := by rw [blk_cell hX]; rfl
  have C0 := hide c0
  have C6 := hide c6
  have C7 := hide c7
  have C8 := hide c8
  have hos := op_small h1
  have hl5 : levelN op.toList ≤ 5 := level_le _
  have HBK := hide (op_blank h1)
  obtain ⟨lv, hlv⟩ : ∃ lv, levelN op.toList = lv + 1 := ⟨levelN op.toList - 1, by omega⟩
  have hlv4 : lv ≤ 4 := by omega
  have HLV := hide hlv
  have HEQ := hide (bin_text p op x y lv least hlv)
  have hlx : (textP x (lv + 1)).length + (textP y (lv + 1 + 1)).length ≤ 1000000 := by
    simp only [textP, hlv, List.length_append] at hlen
    omega
  have HX : Hid (∀ w', Below w.heap.size w w' → Calls Tryz.prog 62 #[.pointer (some ⟨Q, 0, none⟩), .int .i64 lv] w' fun e w'' => e = .returned (.string (bts (textP x (lv + 1)))) ∧ Below w'.heap.size w' w'') :=
    fun w' hb => ihx S w' _ lv (hxa.same fun c h1 _ => hb.block c (hS c h1)) (fun c h => Nat.lt_of_lt_of_le (hS c h) hb.size) (by omega) (by omega) (ht.below hb h14) (hv.below hb) (Nat.le_trans h14 hb.size)
  have HY : Hid (∀ w', Below w.heap.size w w' → Calls Tryz.prog 62 #[.pointer (some ⟨U, 0, none⟩), .int .i64 ((lv : Int) + 1)] w' fun e w'' => e = .returned (.string (bts (textP y (lv + 1 + 1)))) ∧ Below w'.heap.size w' w'') :=
    fun w' hb => ihy S w' _ (lv + 1) (hyc.same fun c h1 _ => hb.block c (hS c h1)) (fun c h => Nat.lt_of_lt_of_le (hS c h) hb.size) (by omega) (by omega) (ht.below hb h14) (hv.below hb) (Nat.le_trans h14 hb.size)
  have HR := hide hv
  have hzx := bts_size (textP x (lv + 1))
  have hzy := bts_size (textP y (lv + 1 + 1))
  generalize bts (textP x (lv + 1)) = TX at *
  generalize bts (textP y (lv + 1 + 1)) = TY at *
  have e32 : (⟨#[32]⟩ : ByteArray).size = 1 := rfl
  have e40 : (⟨#[40]⟩ : ByteArray).size = 1 := rfl
  have e41 : (⟨#[41]⟩ : ByteArray).size = 1 := rfl
  have k1 : ∀ w, (Op.stringOp .add ⟨#[32]⟩ op).run Tryz.prog w = .ok (.string (⟨#[32]⟩ ++ op)) w := fun w => cat_at 100 (by rw [e32]; omega) (by omega) w
  have k2 : ∀ w, (Op.stringOp .add (⟨#[32]⟩ ++ op) ⟨#[32]⟩).run Tryz.prog w = .ok (.string (⟨#[32]⟩ ++ op ++ ⟨#[32]⟩)) w := fun w => cat_at 100 (by rw [ByteArray.size_append, e32]; omega) (by omega) w
  have k3 : ∀ w, (Op.stringOp .add TX ⟨#[32]⟩).run Tryz.prog w = .ok (.string (TX ++ ⟨#[32]⟩)) w := fun w => cat_at 2000000 (by rw [e32]; omega) (by omega) w
  have k4 : ∀ w, (Op.stringOp .add (TX ++ ⟨#[32]⟩) op).run Tryz.prog w = .ok (.string (TX ++ ⟨#[32]⟩ ++ op)) w := fun w => cat_at 2000000 (by rw [ByteArray.size_append, e32]; omega) (by omega) w
  have k5 : ∀ w, (Op.stringOp .add (TX ++ ⟨#[32]⟩ ++ op) ⟨#[32]⟩).run Tryz.prog w = .ok (.string (TX ++ ⟨#[32]⟩ ++ op ++ ⟨#[32]⟩)) w := fun w => cat_at 2000000 (by rw [ByteArray.size_append, ByteArray.size_append, e32]; omega) (by omega) w
  have k6 : ∀ w, (Op.stringOp .add (TX ++ ⟨#[32]⟩ ++ op ++ ⟨#[32]⟩) TY).run Tryz.prog w = .ok (.string (TX ++ ⟨#[32]⟩ ++ op ++ ⟨#[32]⟩ ++ TY)) w := fun w => cat_at 2000000 (by rw [ByteArray.size_append, ByteArray.size_append, ByteArray.size_append, e32]; omega) (by omega) w
  have hz : (TX ++ ⟨#[32]⟩ ++ op ++ ⟨#[32]⟩ ++ TY).size ≤ 2000000 := by rw [ByteArray.size_append, ByteArray.size_append, ByteArray.size_append, ByteArray.size_append, e32]; omega
  have K3 := hide k3
  have K4 := hide k4
  have K5 := hide k5
  have K6 := hide k6
  have K7 : Hid (∀ w, (Op.stringOp .add ⟨#[40]⟩ (TX ++ ⟨#[32]⟩ ++ op ++ ⟨#[32]⟩ ++ TY)).run Tryz.prog w = .ok (.string (⟨#[40]⟩ ++ (TX ++ ⟨#[32]⟩ ++ op ++ ⟨#[32]⟩ ++ TY))) w) := fun w => cat_at 3000000 (by rw [e40]; omega) (by omega) w
  have K8 : Hid (∀ w, (Op.stringOp .add (⟨#[40]⟩ ++ (TX ++ ⟨#[32]⟩ ++ op ++ ⟨#[32]⟩ ++ TY)) ⟨#[41]⟩).run Tryz.prog w = .ok (.string (⟨#[40]⟩ ++ (TX ++ ⟨#[32]⟩ ++ op ++ ⟨#[32]⟩ ++ TY) ++ ⟨#[41]⟩)) w) := fun w => cat_at 3000000 (by rw [ByteArray.size_append, e40, e41]; omega) (by omega) w
  clear k3 k4 k5 k6 hz e32 e40 e41 hzx hzy hlx hS hSX hX hlen hv ht hxa hyc ihx ihy hlv hl5 h1
  go_enter Tryz.func62, Tryz.ntmps62
  go_wp2_with fail
  go_loopw [5] (fun a wr => ∃ j : Nat, a = .int .i64 j ∧ j ≤ lv ∧ Hid (Below w.heap.size w wr)) (fun a _ => 6 - (intOf a).toNat)
  case atStart => exact ⟨0, rfl, Nat.zero_le _, hide (Below.refl _ _)⟩
  case round =>
    obtain ⟨j, rfl, hj, hb⟩ := hrel
    have hxw : wr.cell? ⟨X, 6, none⟩ = some (.string op) := (World.cell?_of_block (hb.out.block X (cell_lt C6.out))).trans C6.out
    have HM : Hid (∀ n, Calls Tryz.prog 83 #[.int .i64 j] (wr.drewN n) fun e w' => e = .returned (.string (marksZ j)) ∧ w' = wr.drewN n) := fun n => rmarks_is j (by omega) _
    have HC : Hid (∀ n, Calls Tryz.prog 28 #[.string (marksZ j), .string (⟨#[32]⟩ ++ op ++ ⟨#[32]⟩)] (wr.drewN n) fun e w' => e = .returned (.bool (levelN op.toList == j + 1)) ∧ w' = wr.drewN n) :=
      fun n => rmark_in j (by omega) op HBK.out _ ((HR.out.below hb.out).below (drewN_b wr n)).max _ (bts_toList _)
    rw [HLV.out] at HC
    clear c0 c6 c7 c8
    by_cases hq : j = lv
    · subst hq
      have hqq : (j + 1 == j + 1) = true := by simp
      rw [hqq] at HC
      clear hqq
      go_wp2_with fail
      go_quiet (first | (go_at_call 83; exact Calls.quiet_of_same (HM.out _)) | (go_at_call 28; exact Calls.quiet_of_same (HC.out _)))
      have HB3 := hide (hb.out.trans ((drewN_b wr nq).mono hb.out.size))
      clear HM HC hxw k1 k2
      go_wp2_with fail
      generalize wr.drewN nq = w3 at *
      have q6 := cell_regrown ((World.cell?_of_block (HB3.out.block X (cell_lt C6.out))).trans C6.out)
      have q7 := cell_regrown ((World.cell?_of_block (HB3.out.block X (cell_lt C7.out))).trans C7.out)
      have q8 := cell_regrown ((World.cell?_of_block (HB3.out.block X (cell_lt C8.out))).trans C8.out)
      have HCX : Hid (∀ d os, Calls Tryz.prog 62 #[.pointer (some ⟨Q, 0, none⟩), .int .i64 j] (Sort.grow (redrawn w3 d) os) fun e w'' => e = .returned (.string TX) ∧ ∃ p : Regrown, w'' = Sort.grow (redrawn w3 p.d) p.os) := fun d os => Calls.regrown_of (HX.out _ (HB3.out.trans ((below_regrown w3 d os).mono HB3.out.size)))
      have HCY : Hid (∀ d os, Calls Tryz.prog 62 #[.pointer (some ⟨U, 0, none⟩), .int .i64 (IntKind.i64.wrap ((j : Int) + 1))] (Sort.grow (redrawn w3 d) os) fun e w'' => e = .returned (.string TY) ∧ ∃ p : Regrown, w'' = Sort.grow (redrawn w3 p.d) p.os) := fun d os => by
        rw [wrap_small (by omega) (by omega)]
        exact Calls.regrown_of (HY.out _ (HB3.out.trans ((below_regrown w3 d os).mono HB3.out.size)))
      have k3 := K3.out
      have k4 := K4.out
      have k5 := K5.out
      have k6 := K6.out
      refine wp_region_quiet_below (by kernel_rfl) (by kernel_rfl) ?_
      repeat (quiet_step (first | with_reducible exact HCX.out _ _ | with_reducible exact HCY.out _ _))
      refine wpQuiet_nil ?_
      intro _ hw'
      obtain ⟨⟨dq, osq⟩, hw''⟩ := hw'
      subst hw''
      have HB4 := hide (HB3.out.trans ((below_regrown w3 dq osq).mono HB3.out.size))
      clear q6 q7 q8 k3 k4 k5 k6
      by_cases hll : j < least
      · have hli : (j : Int) < (least : Int) := by omega
        have k7 := K7.out
        have k8 := K8.out
        go_wp2_with fail
        go_ret
        rw [HEQ.out, if_pos hll]
        exact ⟨rfl, HB4.out⟩
      · have hli : ¬ (j : Int) < (least : Int) := by omega
        go_wp2_with fail
        go_ret
        rw [HEQ.out, if_neg hll]
        exact ⟨rfl, HB4.out⟩
    · have hqq : (lv + 1 == j + 1) = false := by simp; omega
      rw [hqq] at HC
      clear hqq
      go_wp2_with fail
      go_quiet (first | (go_at_call 83; exact Calls.quiet_of_same (HM.out _)) | (go_at_call 28; exact Calls.quiet_of_same (HC.out _)))
      have HB3 := hide (hb.out.trans ((drewN_b wr nq).mono hb.out.size))
      clear HM HC hxw k1 k2
      go_wp2_with fail
      refine ⟨⟨j + 1, by go_num, by omega, HB3⟩, by simp [intOf]; omega⟩

theorem rtext_all : ∀ (x : Ex), GoodEx x → RTextOK x
  | .num p n ty, h => rt_num p n ty h
  | .name p s, h => rt_name p s
  | .field p s g, h => rt_field p s g (by have := h.1.2.1; omega) (by have := h.2.2.1; omega)
  | .not p x, h => rt_not p x (rtext_all x h)
  | .bin p op x y, h => rt_bin p op x y h.1 (rtext_all x h.2.1) (rtext_all y h.2.2)
end Go.Proofs.YtlbgdoajaplabaaGreatDoor
