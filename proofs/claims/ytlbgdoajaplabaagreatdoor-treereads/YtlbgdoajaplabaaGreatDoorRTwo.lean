/-
  CONTRACTS of one and expr of the reference's reader: expressions of marks of two.
-/
import Derived.Test.YtlbgdoajaplabaaGreatDoorROne
namespace Go.Proofs.YtlbgdoajaplabaaGreatDoor
open Go.RowKit
set_option linter.unusedSimpArgs false
set_option linter.unusedVariables false

theorem rok_bad {w : World} {R T : Nat} {ts : List Tok} {er : Int} {p : Nat} (h : Rst w R T ts (.bad er p)) :
    Calls Tryz.prog 20 #[.pointer (some ⟨R, 0, none⟩)] w fun e w' => e = .returned (.bool false) ∧ Below w.heap.size w w' := rok_at h

theorem digit_ne {ts : List Tok} (hf : FitR ts) {k : Nat} (hk : k < ts.length) (h : (tk ts k).kind = 2) (a : UInt8) (l : List UInt8) (ha : 57 < a.toNat) : (tx ts k == a :: l) = false := by
  rw [beq_eq_false_iff_ne]
  intro e
  have e : (tk ts k).text.toList = a :: l := e
  rw [ByteArray.toList_eq] at e
  have := hf.fit.digits k hk h a (by rw [e]; exact List.mem_cons_self)
  omega

theorem rone_ok (f : Nat) (i1 : ROneOK f) (i2 : RTwoOK f) : ROneOK (f + 1) := by
  intro w R T ts deep k h h9 hout
  by_cases hd : 8 < deep
  · exact rone_deep f h hd h9
  have hd : deep ≤ 8 := by omega
  cases hn : (tx ts k == [110, 111, 116]) with
  | true => exact rone_not f i1 h hd hn hout
  | false =>
  cases hp : (tx ts k == [40]) with
  | true => exact rone_par f i2 h hd hn hp hout
  | false =>
  by_cases hk : (tk ts k).kind = 2
  · exact rone_num f h hd hn hp (digit_ne h.fit h.lt hk _ _ (by decide)) (digit_ne h.fit h.lt hk _ _ (by decide)) hk hout
  cases ht : (tx ts k == [116, 114, 117, 101]) with
  | true => exact rone_true f h hd hn hp hk ht hout
  | false =>
  cases hf : (tx ts k == [102, 97, 108, 115, 101]) with
  | true => exact rone_false f h hd hn hp hk ht hf hout
  | false => exact rone_name f h hd hn hp hk ht hf hout

/-- how much is left: nothing where something was wrong -/
def msr (R : Nat) (w : World) : Nat :=
  match w.cell? ⟨R, 2, none⟩ with
  | some (.int _ p) => if p = -1 then (match w.cell? ⟨R, 0, none⟩ with | some (.slice _ n _) => n + 1 | _ => 0) else 0
  | _ => 0
theorem msr_good {w : World} {R T k : Nat} {ts : List Tok} (h : Rr w R T ts k 0 (-1)) : msr R w = ts.length - k + 1 := by
  obtain ⟨n, c, h0, _, hn, r0, _, _, _, _, hm⟩ := h.cells
  have r2 : w.cell? ⟨R, 2, none⟩ = some (.int .i64 (-1)) := by rw [blk_cell hm]; rfl
  simp only [msr, r2, r0, if_true]
  omega
theorem msr_bad {w : World} {R T p : Nat} {er : Int} {ts : List Tok} (h : Rst w R T ts (.bad er p)) : msr R w = 0 := by
  obtain ⟨k, h⟩ := h
  obtain ⟨n, c, h0, _, hn, r0, _, _, _, _, hm⟩ := h.cells
  have r2 : w.cell? ⟨R, 2, none⟩ = some (.int .i64 p) := by rw [blk_cell hm]; rfl
  simp only [msr, r2]
  rw [if_neg (by omega)]

set_option maxRecDepth 100000 in
set_option maxHeartbeats 3200000 in
theorem rtwo_five (f : Nat) (ih : ROneOK f) {w : World} {R T : Nat} {ts : List Tok} {deep k : Nat} (h : Rr w R T ts k 0 (-1)) (hd9 : deep ≤ 9) (hout : twoP ts (f + 1) 6 deep k ≠ .out) :
    Calls Tryz.prog 73 #[.pointer (some ⟨R, 0, none⟩), .int .i64 5, .int .i64 deep] w (Rfs w R T ts (fun w' v x => IsEx (From w.heap.size) w' x v) isP (twoP ts (f + 1) 6 deep k)) := by
  have HE : Hid (twoP ts (f + 1) 6 deep k = oneP ts f deep k) := hide (by simp only [twoP, if_true])
  have HO := hide (HE.out ▸ hout)
  have HR := hide h
  have IH := hide ih
  clear h ih hout
  go_enter Tryz.func73, Tryz.ntmps73
  go_wp2_with fail
  refine (IH.out w R T ts deep k HR.out hd9 HO.out).mono ?_
  rintro e w1 ⟨hk1, hs1, v1, rfl, ⟨o1, rfl⟩, hp1⟩
  have HS1 := hide hs1
  have HP1 := hide hp1
  have HK1 := hide hk1
  clear hk1 hs1 hp1
  go_wp2_with fail
  go_ret
  rw [HE.out]
  exact ⟨HK1.out, HS1.out, _, rfl, ⟨_, rfl⟩, HP1.out⟩

/-- what is read of the next token -/
def RS3 (R T : Nat) (ts : List Tok) (k n c : Nat) (w : World) : Prop :=
  w.cell? ⟨R, 0, none⟩ = some (.slice (some ⟨T, k * 3, none⟩) n c) ∧ w.cell? ⟨T, k * 3, none⟩ = some (.int .i64 (rk (tk ts k) : Nat)) ∧ w.cell? ⟨T, k * 3 + 1, none⟩ = some (.string (tk ts k).text)
theorem marks_blank (lv : Nat) (hl : lv ≤ 4) : ∀ w ∈ marksW lv, ∀ c ∈ w, c ≠ 32 := by
  rcases (show lv = 0 ∨ lv = 1 ∨ lv = 2 ∨ lv = 3 ∨ lv = 4 by omega) with rfl | rfl | rfl | rfl | rfl <;> decide
/-- is it a mark of this level? -/
theorem rmark_in (lv : Nat) (hl : lv ≤ 4) (t : ByteArray) (ht : ∀ c ∈ t.data.toList, c ≠ 32) (w : World) (hm : ∃ m : Int, w.cell? ⟨6, 0, none⟩ = some (.int .i64 m)) (s : ByteArray) (hs : s.data.toList = hay (marksW lv)) :
    Calls Tryz.prog 28 #[.string s, .string (⟨#[32]⟩ ++ t ++ ⟨#[32]⟩)] w fun e w' => e = .returned (.bool (levelN t.toList == lv + 1)) ∧ w' = w := by
  obtain ⟨m, hm⟩ := hm
  have hz : s.size < 4294967281 := by
    have : s.size = s.data.toList.length := by rw [Array.length_toList]; rfl
    rw [this, hs]
    rcases (show lv = 0 ∨ lv = 1 ∨ lv = 2 ∨ lv = 3 ∨ lv = 4 by omega) with rfl | rfl | rfl | rfl | rfl <;> decide
  refine (Tryz.strings_Contains s _ m w hz hm).mono ?_
  rintro e w' ⟨rfl, rfl⟩
  refine ⟨ret_bool ?_, rfl⟩
  rw [hs, bare_list, contains_hay (marksW lv) t.data.toList (marks_blank lv hl) ht, marks_level lv hl, ByteArray.toList_eq]

/-- what the loop over marks holds to -/
def RLp (w : World) (R T : Nat) (ts : List Tok) (f lv deep pos : Nat) (whole : Res Ex) (o : Option Addr) (wr : World) : Prop :=
  (∃ (g : Nat) (y : Ex) (k2 : Nat), g ≤ f ∧ IsEx (From w.heap.size) wr y (.pointer o) ∧ Rr wr R T ts k2 0 (-1) ∧ whole = loopP ts g lv deep pos y k2 ∧ loopP ts g lv deep pos y k2 ≠ .out) ∨
  (∃ (er : Int) (p : Nat), whole = .bad er p ∧ Rst wr R T ts (.bad er p))

set_option maxRecDepth 100000 in
set_option maxHeartbeats 6400000 in
theorem rtwo_low (f : Nat) (ih : ∀ g, g ≤ f → RTwoOK g) {w : World} {R T : Nat} {ts : List Tok} {lv deep k : Nat} (h : Rr w R T ts k 0 (-1)) (hl4 : lv ≤ 4) (hd9 : deep ≤ 9) (hout : twoP ts (f + 1) (lv + 1) deep k ≠ .out) :
    Calls Tryz.prog 73 #[.pointer (some ⟨R, 0, none⟩), .int .i64 lv, .int .i64 deep] w (Rfs w R T ts (fun w' v x => IsEx (From w.heap.size) w' x v) isP (twoP ts (f + 1) (lv + 1) deep k)) := by
  have HE : Hid (twoP ts (f + 1) (lv + 1) deep k = (twoP ts f (lv + 1 + 1) deep k).bind fun x k' => loopP ts f (lv + 1) deep (tk ts k).pos x k') := hide (by simp only [twoP, if_neg (show ¬ lv + 1 = 6 by omega)])
  have HO : Hid (twoP ts f (lv + 1 + 1) deep k ≠ .out) := fun e => hout (by rw [HE.out, e]; rfl)
  have HOL : Hid (∀ x k', twoP ts f (lv + 1 + 1) deep k = .ok x k' → loopP ts f (lv + 1) deep (tk ts k).pos x k' ≠ .out) := fun x k' e e2 => hout (by rw [HE.out, e]; exact e2)
  generalize hwh : twoP ts (f + 1) (lv + 1) deep k = whole at *
  clear hwh
  have HR := hide h
  have IH := hide ih
  have hl6 : ((lv : Int) == 5) = false := by simp; omega
  have hlt := h.Rlt
  have hwr : IntKind.i64.wrap ((lv : Int) + 1) = (lv : Int) + 1 := wrap_small (by omega) (by omega)
  obtain ⟨n, c, h0, _, _, r0, _, _, c2, _, _⟩ := h.cells
  clear h ih hout
  go_enter Tryz.func73, Tryz.ntmps73
  go_wp2_with fail
  rw [show ((lv : Int) + 1) = ((lv + 1 : Nat) : Int) by omega]
  refine (IH.out f (Nat.le_refl _) w R T ts (lv + 1) deep k HR.out (by omega) hd9 HO.out).mono ?_
  rintro e w1 ⟨hk1, hs1, v1, rfl, ⟨o1, rfl⟩, hp1⟩
  have HS1 := hide hs1
  have HP1 := hide hp1
  have HK1 := hide hk1
  clear hk1 hs1 hp1
  generalize hpos : (tk ts k).pos = pos at *
  have HL : Hid (RLp w R T ts f (lv + 1) deep pos whole o1 w1) := by
    cases hr : twoP ts f (lv + 1 + 1) deep k with
    | out => exact absurd hr HO.out
    | bad er p =>
      rw [hr] at HS1 HE
      exact .inr ⟨er, p, HE.out, HS1.out⟩
    | ok x k1 =>
      rw [hr] at HS1
      exact .inl ⟨f, x, k1, Nat.le_refl _, HP1.out x k1 hr, HS1.out, by rw [HE.out, hr]; rfl, HOL.out x k1 hr⟩
  clear HS1 HP1 HO HOL
  clear HE hpos r0 c2
  go_wp2_with fail
  go_loopw [8, 9] (fun x _ wr => ∃ o, x = .pointer o ∧ Hid (Kept R w wr) ∧ Hid (RLp w R T ts f (lv + 1) deep pos whole o wr)) (fun _ _ wr => msr R wr)
  case atStart => exact ⟨o1, rfl, HK1, HL⟩
  case round =>
    obtain ⟨o, rfl, hkr, hlr⟩ := hrel
    clear HK1 HL
    rcases hlr.out with ⟨g, y, k2, hg, hy, hd2, he2, ho2⟩ | ⟨er, q, hbad, hst⟩
    · have HY := hide hy
      have HD := hide hd2
      have HE2 := hide he2
      have HO2 := hide ho2
      have HG := hide hg
      have hsz := hd2.fit.fit.small k2 hd2.lt
      have HMS := hide (msr_good hd2)
      obtain ⟨n, c, h0, hnc, hnk, r0, c0, c1, _, _, _⟩ := (hd2.below (below_drew wr)).cells
      have HS0 : Hid (RS3 R T ts k2 n c wr.drew) := hide ⟨r0, c0, c1⟩
      have HSB : Hid (∀ W, Below wr.drew.heap.size wr.drew W → RS3 R T ts k2 n c W) := hide fun W hb => ⟨(World.cell?_of_block (hb.block _ (cell_lt r0))).trans r0, (World.cell?_of_block (hb.block _ (cell_lt c0))).trans c0, (World.cell?_of_block (hb.block _ (cell_lt c1))).trans c1⟩
      have hend := rk_end hd2.fit k2
      have HEND : Hid ((tk ts k2).kind = 0 → (tk ts k2).text.toList = []) := hide (hd2.fit.fit.none k2 hd2.lt)
      have HBL := hide (hd2.fit.blank k2)
      clear r0 c0 c1 hlr hy hd2 he2 ho2
      by_cases hk0 : (tk ts k2).kind = 0
      · have hlv : levelN (tx ts k2) ≠ lv + 1 := by
          have : levelN (tx ts k2) = 0 := level_zero (HEND.out hk0)
          omega
        have HW : Hid (whole = .ok y k2) := hide (by
          have ho := HO2.out
          rw [HE2.out]
          cases g with
          | zero => exact absurd (by simp only [loopP]) ho
          | succ g => simp only [loopP, if_neg hlv])
        have hk4 : (((rk (tk ts k2) : Nat) : Int) != 4) = false := by rw [bne, hend]; simp [hk0]
        clear hend hlv
        go_wp2_with fail
        refine wp_region_held_drew (S := RS3 R T ts k2 n c) (by kernel_rfl) HS0.out (fun _ => ?_)
        refine wpAnyH_take (i := 0) (oi := ⟨some 27, _, _, _, _, _⟩) (v := .pointer (some ⟨R, 0, none⟩)) rfl (by kernel_rfl) (by kernel_rfl) (by kernel_rfl) (fun _ _ _ h => h) (Or.inl ⟨by rfl, fun W hS => by (obtain ⟨s0, s1, s2⟩ := hS; go_simp)⟩) HS0.out ?_
        simp only [Act.put, List.setIfInBounds_toArray, List.set_cons_zero, List.set_cons_succ]
        refine wpAnyH_ready (rs := [1]) (by kernel_rfl) (by simp) ?_
        refine AllReadyH.cons rfl (fun K hK => ?_) AllReadyH.nil
        go_simp
        refine (rok_good (HD.out.below (below_drew wr))).mono ?_
        rintro e w3 ⟨rfl, hb3⟩
        have HB3 := hide hb3
        clear hb3
        refine hK.out _ _ (HSB.out _ HB3.out) (fun _ => ?_)
        clear hK K
        refine wpAnyH_take (i := 2) (oi := ⟨some 29, _, _, _, _, _⟩) (v := .bool true) rfl (by kernel_rfl) (by kernel_rfl) (by kernel_rfl) (fun _ _ _ h => h) (Or.inl ⟨by rfl, fun W hS => by (obtain ⟨s0, s1, s2⟩ := hS; go_simp)⟩) (HSB.out _ HB3.out) ?_
        simp only [Act.put, List.setIfInBounds_toArray, List.set_cons_zero, List.set_cons_succ]
        refine wpAnyH_take (i := 3) (oi := ⟨some 30, _, _, _, _, _⟩) (v := .pointer (some ⟨R, 0, none⟩)) rfl (by kernel_rfl) (by kernel_rfl) (by kernel_rfl) (fun _ _ _ h => h) (Or.inl ⟨by rfl, fun W hS => by (obtain ⟨s0, s1, s2⟩ := hS; go_simp)⟩) (HSB.out _ HB3.out) ?_
        simp only [Act.put, List.setIfInBounds_toArray, List.set_cons_zero, List.set_cons_succ]
        refine wpAnyH_take (i := 4) (oi := ⟨some 31, _, _, _, _, _⟩) (v := .pointer (some ⟨R, 0, none⟩)) rfl (by kernel_rfl) (by kernel_rfl) (by kernel_rfl) (fun _ _ _ h => h) (Or.inl ⟨by rfl, fun W hS => by (obtain ⟨s0, s1, s2⟩ := hS; go_simp)⟩) (HSB.out _ HB3.out) ?_
        simp only [Act.put, List.setIfInBounds_toArray, List.set_cons_zero, List.set_cons_succ]
        refine wpAnyH_take (i := 5) (oi := ⟨some 32, _, _, _, _, _⟩) (v := .pointer (some ⟨R, 0, none⟩)) rfl (by kernel_rfl) (by kernel_rfl) (by kernel_rfl) (fun _ _ _ h => h) (Or.inl ⟨by rfl, fun W hS => by (obtain ⟨s0, s1, s2⟩ := hS; go_simp)⟩) (HSB.out _ HB3.out) ?_
        simp only [Act.put, List.setIfInBounds_toArray, List.set_cons_zero, List.set_cons_succ]
        refine wpAnyH_take (i := 6) (oi := ⟨some 33, _, _, _, _, _⟩) (v := .slice (some ⟨T, k2 * 3, none⟩) n c) rfl (by kernel_rfl) (by kernel_rfl) (by kernel_rfl) (fun _ _ _ h => h) (Or.inl ⟨by rfl, fun W hS => by (obtain ⟨s0, s1, s2⟩ := hS; go_simp)⟩) (HSB.out _ HB3.out) ?_
        simp only [Act.put, List.setIfInBounds_toArray, List.set_cons_zero, List.set_cons_succ]
        refine wpAnyH_take (i := 7) (oi := ⟨some 34, _, _, _, _, _⟩) (v := .pointer (some ⟨T, k2 * 3, none⟩)) rfl (by kernel_rfl) (by kernel_rfl) (by kernel_rfl) (fun _ _ _ h => h) (Or.inl ⟨by rfl, fun W hS => by (obtain ⟨s0, s1, s2⟩ := hS; go_simp)⟩) (HSB.out _ HB3.out) ?_
        simp only [Act.put, List.setIfInBounds_toArray, List.set_cons_zero, List.set_cons_succ]
        refine wpAnyH_take (i := 8) (oi := ⟨some 35, _, _, _, _, _⟩) (v := .pointer (some ⟨T, k2 * 3, none⟩)) rfl (by kernel_rfl) (by kernel_rfl) (by kernel_rfl) (fun _ _ _ h => h) (Or.inl ⟨by rfl, fun W hS => by (obtain ⟨s0, s1, s2⟩ := hS; go_simp)⟩) (HSB.out _ HB3.out) ?_
        simp only [Act.put, List.setIfInBounds_toArray, List.set_cons_zero, List.set_cons_succ]
        refine wpAnyH_take (i := 9) (oi := ⟨some 36, _, _, _, _, _⟩) (v := .int .i64 (rk (tk ts k2) : Nat)) rfl (by kernel_rfl) (by kernel_rfl) (by kernel_rfl) (fun _ _ _ h => h) (Or.inl ⟨by rfl, fun W hS => by (obtain ⟨s0, s1, s2⟩ := hS; go_simp)⟩) (HSB.out _ HB3.out) ?_
        simp only [Act.put, List.setIfInBounds_toArray, List.set_cons_zero, List.set_cons_succ]
        refine wpAnyH_take (i := 10) (oi := ⟨some 37, _, _, _, _, _⟩) (v := .bool false) rfl (by kernel_rfl) (by kernel_rfl) (by kernel_rfl) (fun _ _ _ h => h) (Or.inl ⟨by rfl, fun W hS => by (obtain ⟨s0, s1, s2⟩ := hS; go_simp)⟩) (HSB.out _ HB3.out) ?_
        simp only [Act.put, List.setIfInBounds_toArray, List.set_cons_zero, List.set_cons_succ]
        refine wpAnyH_take (i := 11) (oi := ⟨some 38, _, _, _, _, _⟩) (v := .bool false) rfl (by kernel_rfl) (by kernel_rfl) (by kernel_rfl) (fun _ _ _ h => h) (Or.inl ⟨by rfl, fun W hS => by (obtain ⟨s0, s1, s2⟩ := hS; go_simp)⟩) (HSB.out _ HB3.out) ?_
        simp only [Act.put, List.setIfInBounds_toArray, List.set_cons_zero, List.set_cons_succ]
        refine wpAnyH_take (i := 12) (oi := ⟨some 39, _, _, _, _, _⟩) (v := .bool false) rfl (by kernel_rfl) (by kernel_rfl) (by kernel_rfl) (fun _ _ _ h => h) (Or.inl ⟨by rfl, fun W hS => by (obtain ⟨s0, s1, s2⟩ := hS; go_simp)⟩) (HSB.out _ HB3.out) ?_
        simp only [Act.put, List.setIfInBounds_toArray, List.set_cons_zero, List.set_cons_succ]
        refine wpAnyH_take (i := 13) (oi := ⟨some 40, _, _, _, _, _⟩) (v := undef) rfl (by kernel_rfl) (by kernel_rfl) (by kernel_rfl) (fun _ _ _ h => h) (Or.inr ⟨by rfl, rfl⟩) (HSB.out _ HB3.out) ?_
        simp only [Act.put, List.setIfInBounds_toArray, List.set_cons_zero, List.set_cons_succ]
        refine wpAnyH_take (i := 14) (oi := ⟨some 41, _, _, _, _, _⟩) (v := undef) rfl (by kernel_rfl) (by kernel_rfl) (by kernel_rfl) (fun _ _ _ h => h) (Or.inr ⟨by rfl, rfl⟩) (HSB.out _ HB3.out) ?_
        simp only [Act.put, List.setIfInBounds_toArray, List.set_cons_zero, List.set_cons_succ]
        refine wpAnyH_take (i := 15) (oi := ⟨some 42, _, _, _, _, _⟩) (v := undef) rfl (by kernel_rfl) (by kernel_rfl) (by kernel_rfl) (fun _ _ _ h => h) (Or.inr ⟨by rfl, rfl⟩) (HSB.out _ HB3.out) ?_
        simp only [Act.put, List.setIfInBounds_toArray, List.set_cons_zero, List.set_cons_succ]
        refine wpAnyH_take (i := 16) (oi := ⟨some 43, _, _, _, _, _⟩) (v := undef) rfl (by kernel_rfl) (by kernel_rfl) (by kernel_rfl) (fun _ _ _ h => h) (Or.inr ⟨by rfl, rfl⟩) (HSB.out _ HB3.out) ?_
        simp only [Act.put, List.setIfInBounds_toArray, List.set_cons_zero, List.set_cons_succ]
        refine wpAnyH_take (i := 17) (oi := ⟨some 44, _, _, _, _, _⟩) (v := undef) rfl (by kernel_rfl) (by kernel_rfl) (by kernel_rfl) (fun _ _ _ h => h) (Or.inr ⟨by rfl, rfl⟩) (HSB.out _ HB3.out) ?_
        simp only [Act.put, List.setIfInBounds_toArray, List.set_cons_zero, List.set_cons_succ]
        refine wpAnyH_take (i := 18) (oi := ⟨some 45, _, _, _, _, _⟩) (v := undef) rfl (by kernel_rfl) (by kernel_rfl) (by kernel_rfl) (fun _ _ _ h => h) (Or.inr ⟨by rfl, rfl⟩) (HSB.out _ HB3.out) ?_
        simp only [Act.put, List.setIfInBounds_toArray, List.set_cons_zero, List.set_cons_succ]
        refine wpAnyH_take (i := 19) (oi := ⟨some 46, _, _, _, _, _⟩) (v := undef) rfl (by kernel_rfl) (by kernel_rfl) (by kernel_rfl) (fun _ _ _ h => h) (Or.inr ⟨by rfl, rfl⟩) (HSB.out _ HB3.out) ?_
        simp only [Act.put, List.setIfInBounds_toArray, List.set_cons_zero, List.set_cons_succ]
        refine wpAnyH_take (i := 20) (oi := ⟨some 47, _, _, _, _, _⟩) (v := undef) rfl (by kernel_rfl) (by kernel_rfl) (by kernel_rfl) (fun _ _ _ h => h) (Or.inr ⟨by rfl, rfl⟩) (HSB.out _ HB3.out) ?_
        simp only [Act.put, List.setIfInBounds_toArray, List.set_cons_zero, List.set_cons_succ]
        refine wpAnyH_take (i := 21) (oi := ⟨some 48, _, _, _, _, _⟩) (v := undef) rfl (by kernel_rfl) (by kernel_rfl) (by kernel_rfl) (fun _ _ _ h => h) (Or.inr ⟨by rfl, rfl⟩) (HSB.out _ HB3.out) ?_
        simp only [Act.put, List.setIfInBounds_toArray, List.set_cons_zero, List.set_cons_succ]
        refine wpAnyH_take (i := 22) (oi := ⟨some 49, _, _, _, _, _⟩) (v := undef) rfl (by kernel_rfl) (by kernel_rfl) (by kernel_rfl) (fun _ _ _ h => h) (Or.inr ⟨by rfl, rfl⟩) (HSB.out _ HB3.out) ?_
        simp only [Act.put, List.setIfInBounds_toArray, List.set_cons_zero, List.set_cons_succ]
        refine wpAnyH_take (i := 23) (oi := ⟨some 50, _, _, _, _, _⟩) (v := undef) rfl (by kernel_rfl) (by kernel_rfl) (by kernel_rfl) (fun _ _ _ h => h) (Or.inr ⟨by rfl, rfl⟩) (HSB.out _ HB3.out) ?_
        simp only [Act.put, List.setIfInBounds_toArray, List.set_cons_zero, List.set_cons_succ]
        refine wpAnyH_take (i := 24) (oi := ⟨some 51, _, _, _, _, _⟩) (v := undef) rfl (by kernel_rfl) (by kernel_rfl) (by kernel_rfl) (fun _ _ _ h => h) (Or.inr ⟨by rfl, rfl⟩) (HSB.out _ HB3.out) ?_
        simp only [Act.put, List.setIfInBounds_toArray, List.set_cons_zero, List.set_cons_succ]
        refine wpAnyH_take (i := 25) (oi := ⟨some 52, _, _, _, _, _⟩) (v := .bool false) rfl (by kernel_rfl) (by kernel_rfl) (by kernel_rfl) (fun _ _ _ h => h) (Or.inl ⟨by rfl, fun W hS => by (obtain ⟨s0, s1, s2⟩ := hS; go_simp)⟩) (HSB.out _ HB3.out) ?_
        simp only [Act.put, List.setIfInBounds_toArray, List.set_cons_zero, List.set_cons_succ]
        refine wpAnyH_done (by kernel_rfl) ?_ _
        go_wp2_with fail
        go_ret
        exact Rfs.ok HW.out (hkr.out.below (Below.step (below_drew wr) HB3.out)) (HD.out.below (Below.step (below_drew wr) HB3.out)) ⟨_, rfl⟩ (HY.out.below (Below.step (below_drew wr) HB3.out))
      · have hk4 : (((rk (tk ts k2) : Nat) : Int) != 4) = true := by rw [bne, hend]; simp [hk0]
        clear hend hk0
        go_wp2_with fail
        refine wp_region_held_drew (S := RS3 R T ts k2 n c) (by kernel_rfl) HS0.out (fun _ => ?_)
        refine wpAnyH_take (i := 0) (oi := ⟨some 27, _, _, _, _, _⟩) (v := .pointer (some ⟨R, 0, none⟩)) rfl (by kernel_rfl) (by kernel_rfl) (by kernel_rfl) (fun _ _ _ h => h) (Or.inl ⟨by rfl, fun W hS => by (obtain ⟨s0, s1, s2⟩ := hS; go_simp)⟩) HS0.out ?_
        simp only [Act.put, List.setIfInBounds_toArray, List.set_cons_zero, List.set_cons_succ]
        refine wpAnyH_ready (rs := [1]) (by kernel_rfl) (by simp) ?_
        refine AllReadyH.cons rfl (fun K hK => ?_) AllReadyH.nil
        go_simp
        refine (rok_good (HD.out.below (below_drew wr))).mono ?_
        rintro e w3 ⟨rfl, hb3⟩
        have HB3 := hide hb3
        clear hb3
        refine hK.out _ _ (HSB.out _ HB3.out) (fun _ => ?_)
        clear hK K
        refine wpAnyH_take (i := 2) (oi := ⟨some 29, _, _, _, _, _⟩) (v := .bool true) rfl (by kernel_rfl) (by kernel_rfl) (by kernel_rfl) (fun _ _ _ h => h) (Or.inl ⟨by rfl, fun W hS => by (obtain ⟨s0, s1, s2⟩ := hS; go_simp)⟩) (HSB.out _ HB3.out) ?_
        simp only [Act.put, List.setIfInBounds_toArray, List.set_cons_zero, List.set_cons_succ]
        refine wpAnyH_take (i := 3) (oi := ⟨some 30, _, _, _, _, _⟩) (v := .pointer (some ⟨R, 0, none⟩)) rfl (by kernel_rfl) (by kernel_rfl) (by kernel_rfl) (fun _ _ _ h => h) (Or.inl ⟨by rfl, fun W hS => by (obtain ⟨s0, s1, s2⟩ := hS; go_simp)⟩) (HSB.out _ HB3.out) ?_
        simp only [Act.put, List.setIfInBounds_toArray, List.set_cons_zero, List.set_cons_succ]
        refine wpAnyH_take (i := 4) (oi := ⟨some 31, _, _, _, _, _⟩) (v := .pointer (some ⟨R, 0, none⟩)) rfl (by kernel_rfl) (by kernel_rfl) (by kernel_rfl) (fun _ _ _ h => h) (Or.inl ⟨by rfl, fun W hS => by (obtain ⟨s0, s1, s2⟩ := hS; go_simp)⟩) (HSB.out _ HB3.out) ?_
        simp only [Act.put, List.setIfInBounds_toArray, List.set_cons_zero, List.set_cons_succ]
        refine wpAnyH_take (i := 5) (oi := ⟨some 32, _, _, _, _, _⟩) (v := .pointer (some ⟨R, 0, none⟩)) rfl (by kernel_rfl) (by kernel_rfl) (by kernel_rfl) (fun _ _ _ h => h) (Or.inl ⟨by rfl, fun W hS => by (obtain ⟨s0, s1, s2⟩ := hS; go_simp)⟩) (HSB.out _ HB3.out) ?_
        simp only [Act.put, List.setIfInBounds_toArray, List.set_cons_zero, List.set_cons_succ]
        refine wpAnyH_take (i := 6) (oi := ⟨some 33, _, _, _, _, _⟩) (v := .slice (some ⟨T, k2 * 3, none⟩) n c) rfl (by kernel_rfl) (by kernel_rfl) (by kernel_rfl) (fun _ _ _ h => h) (Or.inl ⟨by rfl, fun W hS => by (obtain ⟨s0, s1, s2⟩ := hS; go_simp)⟩) (HSB.out _ HB3.out) ?_
        simp only [Act.put, List.setIfInBounds_toArray, List.set_cons_zero, List.set_cons_succ]
        refine wpAnyH_take (i := 7) (oi := ⟨some 34, _, _, _, _, _⟩) (v := .pointer (some ⟨T, k2 * 3, none⟩)) rfl (by kernel_rfl) (by kernel_rfl) (by kernel_rfl) (fun _ _ _ h => h) (Or.inl ⟨by rfl, fun W hS => by (obtain ⟨s0, s1, s2⟩ := hS; go_simp)⟩) (HSB.out _ HB3.out) ?_
        simp only [Act.put, List.setIfInBounds_toArray, List.set_cons_zero, List.set_cons_succ]
        refine wpAnyH_take (i := 8) (oi := ⟨some 35, _, _, _, _, _⟩) (v := .pointer (some ⟨T, k2 * 3, none⟩)) rfl (by kernel_rfl) (by kernel_rfl) (by kernel_rfl) (fun _ _ _ h => h) (Or.inl ⟨by rfl, fun W hS => by (obtain ⟨s0, s1, s2⟩ := hS; go_simp)⟩) (HSB.out _ HB3.out) ?_
        simp only [Act.put, List.setIfInBounds_toArray, List.set_cons_zero, List.set_cons_succ]
        refine wpAnyH_take (i := 9) (oi := ⟨some 36, _, _, _, _, _⟩) (v := .int .i64 (rk (tk ts k2) : Nat)) rfl (by kernel_rfl) (by kernel_rfl) (by kernel_rfl) (fun _ _ _ h => h) (Or.inl ⟨by rfl, fun W hS => by (obtain ⟨s0, s1, s2⟩ := hS; go_simp)⟩) (HSB.out _ HB3.out) ?_
        simp only [Act.put, List.setIfInBounds_toArray, List.set_cons_zero, List.set_cons_succ]
        refine wpAnyH_take (i := 10) (oi := ⟨some 37, _, _, _, _, _⟩) (v := .bool true) rfl (by kernel_rfl) (by kernel_rfl) (by kernel_rfl) (fun _ _ _ h => h) (Or.inl ⟨by rfl, fun W hS => by (obtain ⟨s0, s1, s2⟩ := hS; go_simp)⟩) (HSB.out _ HB3.out) ?_
        simp only [Act.put, List.setIfInBounds_toArray, List.set_cons_zero, List.set_cons_succ]
        refine wpAnyH_take (i := 11) (oi := ⟨some 38, _, _, _, _, _⟩) (v := .bool true) rfl (by kernel_rfl) (by kernel_rfl) (by kernel_rfl) (fun _ _ _ h => h) (Or.inl ⟨by rfl, fun W hS => by (obtain ⟨s0, s1, s2⟩ := hS; go_simp)⟩) (HSB.out _ HB3.out) ?_
        simp only [Act.put, List.setIfInBounds_toArray, List.set_cons_zero, List.set_cons_succ]
        refine wpAnyH_take (i := 12) (oi := ⟨some 39, _, _, _, _, _⟩) (v := .bool true) rfl (by kernel_rfl) (by kernel_rfl) (by kernel_rfl) (fun _ _ _ h => h) (Or.inl ⟨by rfl, fun W hS => by (obtain ⟨s0, s1, s2⟩ := hS; go_simp)⟩) (HSB.out _ HB3.out) ?_
        simp only [Act.put, List.setIfInBounds_toArray, List.set_cons_zero, List.set_cons_succ]
        refine wpAnyH_take (i := 13) (oi := ⟨some 40, _, _, _, _, _⟩) (v := .int .i64 lv) rfl (by kernel_rfl) (by kernel_rfl) (by kernel_rfl) (fun _ _ _ h => h) (Or.inl ⟨by rfl, fun W hS => by (obtain ⟨s0, s1, s2⟩ := hS; go_simp)⟩) (HSB.out _ HB3.out) ?_
        simp only [Act.put, List.setIfInBounds_toArray, List.set_cons_zero, List.set_cons_succ]
        refine wpAnyH_take (i := 15) (oi := ⟨some 42, _, _, _, _, _⟩) (v := .pointer (some ⟨R, 0, none⟩)) rfl (by kernel_rfl) (by kernel_rfl) (by kernel_rfl) (fun _ _ _ h => h) (Or.inl ⟨by rfl, fun W hS => by (obtain ⟨s0, s1, s2⟩ := hS; go_simp)⟩) (HSB.out _ HB3.out) ?_
        simp only [Act.put, List.setIfInBounds_toArray, List.set_cons_zero, List.set_cons_succ]
        refine wpAnyH_take (i := 16) (oi := ⟨some 43, _, _, _, _, _⟩) (v := .pointer (some ⟨R, 0, none⟩)) rfl (by kernel_rfl) (by kernel_rfl) (by kernel_rfl) (fun _ _ _ h => h) (Or.inl ⟨by rfl, fun W hS => by (obtain ⟨s0, s1, s2⟩ := hS; go_simp)⟩) (HSB.out _ HB3.out) ?_
        simp only [Act.put, List.setIfInBounds_toArray, List.set_cons_zero, List.set_cons_succ]
        refine wpAnyH_take (i := 17) (oi := ⟨some 44, _, _, _, _, _⟩) (v := .pointer (some ⟨R, 0, none⟩)) rfl (by kernel_rfl) (by kernel_rfl) (by kernel_rfl) (fun _ _ _ h => h) (Or.inl ⟨by rfl, fun W hS => by (obtain ⟨s0, s1, s2⟩ := hS; go_simp)⟩) (HSB.out _ HB3.out) ?_
        simp only [Act.put, List.setIfInBounds_toArray, List.set_cons_zero, List.set_cons_succ]
        refine wpAnyH_take (i := 18) (oi := ⟨some 45, _, _, _, _, _⟩) (v := .slice (some ⟨T, k2 * 3, none⟩) n c) rfl (by kernel_rfl) (by kernel_rfl) (by kernel_rfl) (fun _ _ _ h => h) (Or.inl ⟨by rfl, fun W hS => by (obtain ⟨s0, s1, s2⟩ := hS; go_simp)⟩) (HSB.out _ HB3.out) ?_
        simp only [Act.put, List.setIfInBounds_toArray, List.set_cons_zero, List.set_cons_succ]
        refine wpAnyH_take (i := 19) (oi := ⟨some 46, _, _, _, _, _⟩) (v := .pointer (some ⟨T, k2 * 3, none⟩)) rfl (by kernel_rfl) (by kernel_rfl) (by kernel_rfl) (fun _ _ _ h => h) (Or.inl ⟨by rfl, fun W hS => by (obtain ⟨s0, s1, s2⟩ := hS; go_simp)⟩) (HSB.out _ HB3.out) ?_
        simp only [Act.put, List.setIfInBounds_toArray, List.set_cons_zero, List.set_cons_succ]
        refine wpAnyH_take (i := 20) (oi := ⟨some 47, _, _, _, _, _⟩) (v := .pointer (some ⟨T, k2 * 3 + 1, none⟩)) rfl (by kernel_rfl) (by kernel_rfl) (by kernel_rfl) (fun _ _ _ h => h) (Or.inl ⟨by rfl, fun W hS => by (obtain ⟨s0, s1, s2⟩ := hS; go_simp)⟩) (HSB.out _ HB3.out) ?_
        simp only [Act.put, List.setIfInBounds_toArray, List.set_cons_zero, List.set_cons_succ]
        refine wpAnyH_take (i := 21) (oi := ⟨some 48, _, _, _, _, _⟩) (v := .string (tk ts k2).text) rfl (by kernel_rfl) (by kernel_rfl) (by kernel_rfl) (fun _ _ _ h => h) (Or.inl ⟨by rfl, fun W hS => by (obtain ⟨s0, s1, s2⟩ := hS; go_simp)⟩) (HSB.out _ HB3.out) ?_
        simp only [Act.put, List.setIfInBounds_toArray, List.set_cons_zero, List.set_cons_succ]
        refine wpAnyH_take (i := 22) (oi := ⟨some 49, _, _, _, _, _⟩) (v := .string (⟨#[32]⟩ ++ (tk ts k2).text)) rfl (by kernel_rfl) (by kernel_rfl) (by kernel_rfl) (fun _ _ _ h => h) (Or.inl ⟨by rfl, fun W hS => by (obtain ⟨s0, s1, s2⟩ := hS; go_simp; omega)⟩) (HSB.out _ HB3.out) ?_
        simp only [Act.put, List.setIfInBounds_toArray, List.set_cons_zero, List.set_cons_succ]
        refine wpAnyH_take (i := 23) (oi := ⟨some 50, _, _, _, _, _⟩) (v := .string (⟨#[32]⟩ ++ (tk ts k2).text ++ ⟨#[32]⟩)) rfl (by kernel_rfl) (by kernel_rfl) (by kernel_rfl) (fun _ _ _ h => h) (Or.inl ⟨by rfl, fun W hS => by (obtain ⟨s0, s1, s2⟩ := hS; go_simp; omega)⟩) (HSB.out _ HB3.out) ?_
        simp only [Act.put, List.setIfInBounds_toArray, List.set_cons_zero, List.set_cons_succ]
        refine wpAnyH_ready (rs := [14]) (by kernel_rfl) (by simp) ?_
        refine AllReadyH.cons rfl (fun K hK => ?_) AllReadyH.nil
        go_simp
        refine (rmarks_at lv hl4 w3).mono ?_
        rintro e w3' ⟨⟨ms, rfl, hms⟩, rfl⟩
        have HMK := hide hms
        clear hms
        refine hK.out _ _ (HSB.out _ HB3.out) (fun _ => ?_)
        clear hK K
        refine wpAnyH_ready (rs := [24]) (by kernel_rfl) (by simp) ?_
        refine AllReadyH.cons rfl (fun K hK => ?_) AllReadyH.nil
        go_simp
        refine (rmark_in lv hl4 (tk ts k2).text HBL.out w3' ((HD.out.below (below_drew wr)).below HB3.out).vars.max ms HMK.out).mono ?_
        rintro e w4 ⟨rfl, rfl⟩
        refine hK.out _ _ (HSB.out _ HB3.out) (fun _ => ?_)
        clear hK K
        refine wpAnyH_take (i := 25) (oi := ⟨some 52, _, _, _, _, _⟩) (v := .bool (levelN (tk ts k2).text.toList == lv + 1)) rfl (by kernel_rfl) (by kernel_rfl) (by kernel_rfl) (fun _ _ _ h => h) (Or.inl ⟨by rfl, fun W hS => by (obtain ⟨s0, s1, s2⟩ := hS; go_simp)⟩) (HSB.out _ HB3.out) ?_
        simp only [Act.put, List.setIfInBounds_toArray, List.set_cons_zero, List.set_cons_succ]
        refine wpAnyH_done (by kernel_rfl) ?_ _
        have HD3 := hide (HD.out.below (Below.step (below_drew wr) HB3.out))
        have HK3 := hide (hkr.out.below (Below.step (below_drew wr) HB3.out))
        have HY3 := hide (HY.out.below (Below.step (below_drew wr) HB3.out))
        clear HS0 HSB HB3
        cases hlv : (levelN (tk ts k2).text.toList == lv + 1) with
        | false =>
          have HW : Hid (whole = .ok y k2) := hide (by
            have ho := HO2.out
            have hlv : ¬ levelN (tx ts k2) = lv + 1 := by simpa using hlv
            rw [HE2.out]
            cases g with
            | zero => exact absurd (by simp only [loopP]) ho
            | succ g => simp only [loopP, if_neg hlv])
          go_wp2_with fail
          go_ret
          exact Rfs.ok HW.out HK3.out HD3.out ⟨_, rfl⟩ HY3.out
        | true =>
          have hlv : levelN (tx ts k2) = lv + 1 := by simpa using hlv
          have hne : tx ts k2 ≠ [] := fun e => by rw [level_zero e] at hlv; omega
          have HMORE := hide (HD3.out.fit.more HD3.out.lt (beq_self_eq_true (tx ts k2)) hne)
          have hne' : (tk ts k2).text.toList ≠ [] := hne
          have HMU := hide (rmust_at (tk ts k2).text hne' (r := .ok () k2) HD3.out)
          have HM2 : Hid (mustR ts (tk ts k2).text.toList (.ok () k2) = .ok () (k2 + 1)) := hide (by simp only [mustR, Res.bind, wantP, BEq.rfl, if_true])
          obtain ⟨n, c, h0, _, _, r0, c0, c1, _, _, _⟩ := HD3.out.cells
          cases g with
          | zero => exact absurd (by simp only [loopP]) HO2.out
          | succ g =>
          have HOT : Hid (twoP ts g (lv + 1 + 1) deep (k2 + 1) ≠ .out) := hide fun e => HO2.out (by simp only [loopP, hlv, if_true, e, Res.bind])
          have HST : Hid (whole = (twoP ts g (lv + 1 + 1) deep (k2 + 1)).bind fun y' k' => loopP ts g (lv + 1) deep pos (.bin pos (tk ts k2).text y y') k') := hide (by rw [HE2.out]; simp only [loopP, hlv, if_true])
          have HSO : Hid (∀ y' k', twoP ts g (lv + 1 + 1) deep (k2 + 1) = .ok y' k' → loopP ts g (lv + 1) deep pos (.bin pos (tk ts k2).text y y') k' ≠ .out) := hide fun y' k' e e2 => HO2.out (by simp only [loopP, hlv, if_true, e, Res.bind]; exact e2)
          clear hlv hne hne' HE2 HO2
          go_wp2_with fail
          refine HMU.out.mono ?_
          rintro e w5 ⟨rfl, hs5, hk5⟩
          rw [HM2.out] at hs5
          have HD5 := hide hs5.good
          have HK5 := hide (HK3.out.trans hk5)
          have HY5 := hide (HY3.out.kept hk5 hlt)
          clear hs5 hk5 r0 c0 c1
          go_wp2_with fail
          rw [show ((lv : Int) + 1) = ((lv + 1 : Nat) : Int) by omega]
          refine (IH.out g (by have := HG.out; omega) w5 R T ts (lv + 1) deep (k2 + 1) HD5.out (by omega) hd9 HOT.out).mono ?_
          rintro e w6 ⟨hk6, hs6, v6, rfl, ⟨o6, rfl⟩, hp6⟩
          have HS6 := hide hs6
          have HP6 := hide hp6
          have HK6 := hide (HK5.out.trans hk6)
          have HY6 := hide (HY5.out.kept hk6 hlt)
          clear hk6 hs6 hp6
          go_wp2_with fail
          have hb6 := below_alloc w6 (.cells #[.int .i64 5, .int .i64 pos, .int .i64 0, .int .i64 0, .string ⟨#[]⟩, .string ⟨#[]⟩, .string (tk ts k2).text, .pointer o, .pointer o6] 107)
          cases hr : twoP ts g (lv + 1 + 1) deep (k2 + 1) with
          | out => exact absurd hr HOT.out
          | bad er q =>
            rw [hr] at HS6 HST
            have hst : Rst _ R T ts (.bad er q) := Rst.below hb6 HS6.out
            refine ⟨⟨_, rfl, HK6.out.alloc _, .inr ⟨er, q, HST.out, hst⟩⟩, ?_⟩
            rw [msr_bad hst, HMS.out]
            omega
          | ok y' k' =>
            rw [hr] at HS6 HST
            have hst : Rr _ R T ts k' 0 (-1) := Rr.below HS6.out hb6
            refine ⟨⟨_, rfl, HK6.out.alloc _, .inl ⟨g, .bin pos (tk ts k2).text y y', k', by have := HG.out; omega, ?_, hst, HST.out, HSO.out y' k' hr⟩⟩, ?_⟩
            · exact ⟨_, _, _, rfl, HK6.out.size, blk_new _ _, HY6.out.below hb6, ((HP6.out y' k' hr).low HK5.out.size).below hb6⟩
            · rw [msr_good hst, HMS.out]
              have := two_lt hr
              have := HMORE.out
              omega
    · have HST := hide hst
      have HW := hide hbad
      clear hlr hst hbad
      go_wp2_with fail
      refine wp_region_held_drew (S := fun _ => True) (by kernel_rfl) trivial (fun _ => ?_)
      refine wpAnyH_take (i := 0) (oi := ⟨some 27, _, _, _, _, _⟩) (v := .pointer (some ⟨R, 0, none⟩)) rfl (by kernel_rfl) (by kernel_rfl) (by kernel_rfl) (fun _ _ _ h => h) (Or.inl ⟨by rfl, fun W hS => by go_simp⟩) trivial ?_
      simp only [Act.put, List.setIfInBounds_toArray, List.set_cons_zero, List.set_cons_succ]
      refine wpAnyH_ready (rs := [1]) (by kernel_rfl) (by simp) ?_
      refine AllReadyH.cons rfl (fun K hK => ?_) AllReadyH.nil
      go_simp
      refine (rok_bad (Rst.below (below_drew wr) HST.out)).mono ?_
      rintro e w3 ⟨rfl, hb3⟩
      have HB3 := hide (Below.step (below_drew wr) hb3)
      clear hb3
      refine hK.out _ _ trivial (fun _ => ?_)
      clear hK K
      refine wpAnyH_take (i := 2) (oi := ⟨some 29, _, _, _, _, _⟩) (v := .bool false) rfl (by kernel_rfl) (by kernel_rfl) (by kernel_rfl) (fun _ _ _ h => h) (Or.inl ⟨by rfl, fun W hS => by go_simp⟩) trivial ?_
      simp only [Act.put, List.setIfInBounds_toArray, List.set_cons_zero, List.set_cons_succ]
      refine wpAnyH_take (i := 3) (oi := ⟨some 30, _, _, _, _, _⟩) (v := undef) rfl (by kernel_rfl) (by kernel_rfl) (by kernel_rfl) (fun _ _ _ h => h) (Or.inr ⟨by rfl, rfl⟩) trivial ?_
      simp only [Act.put, List.setIfInBounds_toArray, List.set_cons_zero, List.set_cons_succ]
      refine wpAnyH_take (i := 4) (oi := ⟨some 31, _, _, _, _, _⟩) (v := undef) rfl (by kernel_rfl) (by kernel_rfl) (by kernel_rfl) (fun _ _ _ h => h) (Or.inr ⟨by rfl, rfl⟩) trivial ?_
      simp only [Act.put, List.setIfInBounds_toArray, List.set_cons_zero, List.set_cons_succ]
      refine wpAnyH_take (i := 5) (oi := ⟨some 32, _, _, _, _, _⟩) (v := undef) rfl (by kernel_rfl) (by kernel_rfl) (by kernel_rfl) (fun _ _ _ h => h) (Or.inr ⟨by rfl, rfl⟩) trivial ?_
      simp only [Act.put, List.setIfInBounds_toArray, List.set_cons_zero, List.set_cons_succ]
      refine wpAnyH_take (i := 6) (oi := ⟨some 33, _, _, _, _, _⟩) (v := undef) rfl (by kernel_rfl) (by kernel_rfl) (by kernel_rfl) (fun _ _ _ h => h) (Or.inr ⟨by rfl, rfl⟩) trivial ?_
      simp only [Act.put, List.setIfInBounds_toArray, List.set_cons_zero, List.set_cons_succ]
      refine wpAnyH_take (i := 7) (oi := ⟨some 34, _, _, _, _, _⟩) (v := undef) rfl (by kernel_rfl) (by kernel_rfl) (by kernel_rfl) (fun _ _ _ h => h) (Or.inr ⟨by rfl, rfl⟩) trivial ?_
      simp only [Act.put, List.setIfInBounds_toArray, List.set_cons_zero, List.set_cons_succ]
      refine wpAnyH_take (i := 8) (oi := ⟨some 35, _, _, _, _, _⟩) (v := undef) rfl (by kernel_rfl) (by kernel_rfl) (by kernel_rfl) (fun _ _ _ h => h) (Or.inr ⟨by rfl, rfl⟩) trivial ?_
      simp only [Act.put, List.setIfInBounds_toArray, List.set_cons_zero, List.set_cons_succ]
      refine wpAnyH_take (i := 9) (oi := ⟨some 36, _, _, _, _, _⟩) (v := undef) rfl (by kernel_rfl) (by kernel_rfl) (by kernel_rfl) (fun _ _ _ h => h) (Or.inr ⟨by rfl, rfl⟩) trivial ?_
      simp only [Act.put, List.setIfInBounds_toArray, List.set_cons_zero, List.set_cons_succ]
      refine wpAnyH_take (i := 10) (oi := ⟨some 37, _, _, _, _, _⟩) (v := undef) rfl (by kernel_rfl) (by kernel_rfl) (by kernel_rfl) (fun _ _ _ h => h) (Or.inr ⟨by rfl, rfl⟩) trivial ?_
      simp only [Act.put, List.setIfInBounds_toArray, List.set_cons_zero, List.set_cons_succ]
      refine wpAnyH_take (i := 11) (oi := ⟨some 38, _, _, _, _, _⟩) (v := .bool false) rfl (by kernel_rfl) (by kernel_rfl) (by kernel_rfl) (fun _ _ _ h => h) (Or.inl ⟨by rfl, fun W hS => by go_simp⟩) trivial ?_
      simp only [Act.put, List.setIfInBounds_toArray, List.set_cons_zero, List.set_cons_succ]
      refine wpAnyH_take (i := 12) (oi := ⟨some 39, _, _, _, _, _⟩) (v := .bool false) rfl (by kernel_rfl) (by kernel_rfl) (by kernel_rfl) (fun _ _ _ h => h) (Or.inl ⟨by rfl, fun W hS => by go_simp⟩) trivial ?_
      simp only [Act.put, List.setIfInBounds_toArray, List.set_cons_zero, List.set_cons_succ]
      refine wpAnyH_take (i := 13) (oi := ⟨some 40, _, _, _, _, _⟩) (v := undef) rfl (by kernel_rfl) (by kernel_rfl) (by kernel_rfl) (fun _ _ _ h => h) (Or.inr ⟨by rfl, rfl⟩) trivial ?_
      simp only [Act.put, List.setIfInBounds_toArray, List.set_cons_zero, List.set_cons_succ]
      refine wpAnyH_take (i := 14) (oi := ⟨some 41, _, _, _, _, _⟩) (v := undef) rfl (by kernel_rfl) (by kernel_rfl) (by kernel_rfl) (fun _ _ _ h => h) (Or.inr ⟨by rfl, rfl⟩) trivial ?_
      simp only [Act.put, List.setIfInBounds_toArray, List.set_cons_zero, List.set_cons_succ]
      refine wpAnyH_take (i := 15) (oi := ⟨some 42, _, _, _, _, _⟩) (v := undef) rfl (by kernel_rfl) (by kernel_rfl) (by kernel_rfl) (fun _ _ _ h => h) (Or.inr ⟨by rfl, rfl⟩) trivial ?_
      simp only [Act.put, List.setIfInBounds_toArray, List.set_cons_zero, List.set_cons_succ]
      refine wpAnyH_take (i := 16) (oi := ⟨some 43, _, _, _, _, _⟩) (v := undef) rfl (by kernel_rfl) (by kernel_rfl) (by kernel_rfl) (fun _ _ _ h => h) (Or.inr ⟨by rfl, rfl⟩) trivial ?_
      simp only [Act.put, List.setIfInBounds_toArray, List.set_cons_zero, List.set_cons_succ]
      refine wpAnyH_take (i := 17) (oi := ⟨some 44, _, _, _, _, _⟩) (v := undef) rfl (by kernel_rfl) (by kernel_rfl) (by kernel_rfl) (fun _ _ _ h => h) (Or.inr ⟨by rfl, rfl⟩) trivial ?_
      simp only [Act.put, List.setIfInBounds_toArray, List.set_cons_zero, List.set_cons_succ]
      refine wpAnyH_take (i := 18) (oi := ⟨some 45, _, _, _, _, _⟩) (v := undef) rfl (by kernel_rfl) (by kernel_rfl) (by kernel_rfl) (fun _ _ _ h => h) (Or.inr ⟨by rfl, rfl⟩) trivial ?_
      simp only [Act.put, List.setIfInBounds_toArray, List.set_cons_zero, List.set_cons_succ]
      refine wpAnyH_take (i := 19) (oi := ⟨some 46, _, _, _, _, _⟩) (v := undef) rfl (by kernel_rfl) (by kernel_rfl) (by kernel_rfl) (fun _ _ _ h => h) (Or.inr ⟨by rfl, rfl⟩) trivial ?_
      simp only [Act.put, List.setIfInBounds_toArray, List.set_cons_zero, List.set_cons_succ]
      refine wpAnyH_take (i := 20) (oi := ⟨some 47, _, _, _, _, _⟩) (v := undef) rfl (by kernel_rfl) (by kernel_rfl) (by kernel_rfl) (fun _ _ _ h => h) (Or.inr ⟨by rfl, rfl⟩) trivial ?_
      simp only [Act.put, List.setIfInBounds_toArray, List.set_cons_zero, List.set_cons_succ]
      refine wpAnyH_take (i := 21) (oi := ⟨some 48, _, _, _, _, _⟩) (v := undef) rfl (by kernel_rfl) (by kernel_rfl) (by kernel_rfl) (fun _ _ _ h => h) (Or.inr ⟨by rfl, rfl⟩) trivial ?_
      simp only [Act.put, List.setIfInBounds_toArray, List.set_cons_zero, List.set_cons_succ]
      refine wpAnyH_take (i := 22) (oi := ⟨some 49, _, _, _, _, _⟩) (v := undef) rfl (by kernel_rfl) (by kernel_rfl) (by kernel_rfl) (fun _ _ _ h => h) (Or.inr ⟨by rfl, rfl⟩) trivial ?_
      simp only [Act.put, List.setIfInBounds_toArray, List.set_cons_zero, List.set_cons_succ]
      refine wpAnyH_take (i := 23) (oi := ⟨some 50, _, _, _, _, _⟩) (v := undef) rfl (by kernel_rfl) (by kernel_rfl) (by kernel_rfl) (fun _ _ _ h => h) (Or.inr ⟨by rfl, rfl⟩) trivial ?_
      simp only [Act.put, List.setIfInBounds_toArray, List.set_cons_zero, List.set_cons_succ]
      refine wpAnyH_take (i := 24) (oi := ⟨some 51, _, _, _, _, _⟩) (v := undef) rfl (by kernel_rfl) (by kernel_rfl) (by kernel_rfl) (fun _ _ _ h => h) (Or.inr ⟨by rfl, rfl⟩) trivial ?_
      simp only [Act.put, List.setIfInBounds_toArray, List.set_cons_zero, List.set_cons_succ]
      refine wpAnyH_take (i := 25) (oi := ⟨some 52, _, _, _, _, _⟩) (v := .bool false) rfl (by kernel_rfl) (by kernel_rfl) (by kernel_rfl) (fun _ _ _ h => h) (Or.inl ⟨by rfl, fun W hS => by go_simp⟩) trivial ?_
      simp only [Act.put, List.setIfInBounds_toArray, List.set_cons_zero, List.set_cons_succ]
      refine wpAnyH_done (by kernel_rfl) ?_ _
      go_wp2_with fail
      go_ret
      exact Rfs.bad HW.out (hkr.out.below HB3.out) (Rst.below HB3.out HST.out) ⟨_, rfl⟩

theorem rex_ok : ∀ f, ROneOK f ∧ ∀ g, g ≤ f → RTwoOK g
  | 0 => ⟨fun _ _ _ _ _ _ _ _ h => absurd (by simp only [oneP]) h, fun g hg _ _ _ _ _ _ _ _ _ _ h => absurd (by rw [show g = 0 by omega]; simp only [twoP]) h⟩
  | f + 1 => by
    obtain ⟨i1, i2⟩ := rex_ok f
    refine ⟨rone_ok f i1 (i2 f (Nat.le_refl _)), fun g hg => ?_⟩
    by_cases hgf : g ≤ f
    · exact i2 g hgf
    · have : g = f + 1 := by omega
      subst this
      intro w R T ts lv deep k h hl5 hd9 hout
      by_cases h5 : lv = 5
      · subst h5
        exact rtwo_five f i1 h hd9 hout
      · exact rtwo_low f i2 h (by omega) hd9 hout
theorem rexpr_at (f : Nat) {w : World} {R T : Nat} {ts : List Tok} {k : Nat} (h : Rr w R T ts k 0 (-1)) (hout : twoP ts f 1 0 k ≠ .out) :
    Calls Tryz.prog 73 #[.pointer (some ⟨R, 0, none⟩), .int .i64 0, .int .i64 0] w (Rfs w R T ts (fun w' v x => IsEx (From w.heap.size) w' x v) isP (twoP ts f 1 0 k)) :=
  (rex_ok f).2 f (Nat.le_refl _) w R T ts 0 0 k h (by omega) (by omega) hout
end Go.Proofs.YtlbgdoajaplabaaGreatDoor
