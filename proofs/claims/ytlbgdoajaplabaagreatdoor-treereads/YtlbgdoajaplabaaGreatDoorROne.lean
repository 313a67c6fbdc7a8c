/-
  CONTRACTS of one of the reference's reader, branch by branch.
-/
import Derived.Test.YtlbgdoajaplabaaGreatDoorJRName
import Derived.Test.YtlbgdoajaplabaaGreatDoorArgs2
import Derived.Deep.RegionHeld3
namespace Go.Proofs.YtlbgdoajaplabaaGreatDoor
open Go.RowKit
set_option linter.unusedSimpArgs false
set_option linter.unusedVariables false

theorem Rfs.cases {α : Type} {w : World} {R T : Nat} {ts : List Tok} {rep : World → Value → α → Prop} {sh : Value → Prop} {r : Res α} {e : Ending} {w' : World} (h : Rfs w R T ts rep sh r e w') :
    (∃ (er : Int) (p : Nat) (v : Value), r = .bad er p ∧ e = .returned v ∧ sh v ∧ Rst w' R T ts (.bad er p) ∧ Kept R w w') ∨
    ∃ (a : α) (k' : Nat) (v : Value), r = .ok a k' ∧ e = .returned v ∧ sh v ∧ rep w' v a ∧ Rr w' R T ts k' 0 (-1) ∧ Kept R w w' := by
  obtain ⟨hk, hs, v, he, hv, hp⟩ := h
  cases r with
  | out => exact hs.elim
  | bad er p => exact .inl ⟨er, p, v, rfl, he, hv, hs, hk⟩
  | ok a k' => exact .inr ⟨a, k', v, rfl, he, hv, hp a k' rfl, hs, hk⟩

theorem un_ok {α β : Type} (r : Res α) (g : α → β) : (r.bind fun x k => .ok (g x) k).un = r.un := by cases r <;> rfl
theorem ok_inv {α β : Type} {r : Res α} {g : α → β} {b : β} {k : Nat} (h : (r.bind fun x k => .ok (g x) k) = .ok b k) : ∃ x, r = .ok x k ∧ b = g x := by
  cases r with
  | out => cases h
  | bad => cases h
  | ok x k' =>
    injection h with h1 h2
    subst h1 h2
    exact ⟨x, rfl, rfl⟩
theorem un_must {α : Type} (ts : List Tok) (s : List UInt8) (r : Res α) : (r.bind fun x k => (wantP ts s k).bind fun _ k2 => .ok x k2).un = mustR ts s r.un := by
  cases r with
  | out => rfl
  | bad => rfl
  | ok x k =>
    show ((wantP ts s k).bind fun _ k2 => Res.ok x k2).un = wantP ts s k
    unfold wantP
    split <;> rfl
theorem must_inv {α : Type} {ts : List Tok} {s : List UInt8} {r : Res α} {a : α} {k : Nat} (h : (r.bind fun x k => (wantP ts s k).bind fun _ k2 => .ok x k2) = .ok a k) : ∃ k1, r = .ok a k1 := by
  cases r with
  | out => cases h
  | bad => cases h
  | ok x k' =>
    have h : ((wantP ts s k').bind fun _ k2 => Res.ok x k2) = .ok a k := h
    unfold wantP at h
    split at h
    · injection h with h1 h2
      exact ⟨k', by rw [h1]⟩
    · cases h
abbrev isP (v : Value) : Prop := ∃ o, v = .pointer o
def ROneOK (f : Nat) : Prop := ∀ (w : World) (R T : Nat) (ts : List Tok) (deep k : Nat), Rr w R T ts k 0 (-1) → deep ≤ 9 → oneP ts f deep k ≠ .out →
  Calls Tryz.prog 92 #[.pointer (some ⟨R, 0, none⟩), .int .i64 deep] w (Rfs w R T ts (fun w' v x => IsEx (From w.heap.size) w' x v) isP (oneP ts f deep k))
def RTwoOK (f : Nat) : Prop := ∀ (w : World) (R T : Nat) (ts : List Tok) (lv deep k : Nat), Rr w R T ts k 0 (-1) → lv ≤ 5 → deep ≤ 9 → twoP ts f (lv + 1) deep k ≠ .out →
  Calls Tryz.prog 73 #[.pointer (some ⟨R, 0, none⟩), .int .i64 lv, .int .i64 deep] w (Rfs w R T ts (fun w' v x => IsEx (From w.heap.size) w' x v) isP (twoP ts f (lv + 1) deep k))

set_option maxRecDepth 100000 in
set_option maxHeartbeats 3200000 in
theorem rone_deep (f : Nat) {w : World} {R T : Nat} {ts : List Tok} {deep k : Nat} (h : Rr w R T ts k 0 (-1)) (hd : 8 < deep) (h9 : deep ≤ 9) :
    Calls Tryz.prog 92 #[.pointer (some ⟨R, 0, none⟩), .int .i64 deep] w (Rfs w R T ts (fun w' v x => IsEx (From w.heap.size) w' x v) isP (oneP ts (f + 1) deep k)) := by
  have HW : Hid (oneP ts (f + 1) deep k = .bad 4 (tk ts k).pos) := hide (by simp only [oneP, if_pos hd])
  have HR := hide h
  clear h
  go_enter Tryz.func92, Tryz.ntmps92
  go_wp2_with fail
  refine (rfails_good 4 HR.out).mono ?_
  rintro e w2 ⟨rfl, hd, hk⟩
  have HD := hide hd
  have HK := hide hk
  clear hd hk
  go_wp2_with fail
  refine (rok_at (r := .bad 4 (tk ts k).pos) ⟨k, HD.out⟩).mono ?_
  rintro e w3 ⟨rfl, hb⟩
  have HB := hide hb
  clear hb
  go_wp2_with fail
  go_ret
  exact Rfs.bad HW.out (HK.out.below HB.out) ⟨k, HD.out.below HB.out⟩ ⟨_, rfl⟩

set_option maxRecDepth 100000 in
set_option maxHeartbeats 3200000 in
theorem rone_not (f : Nat) (ih : ROneOK f) {w : World} {R T : Nat} {ts : List Tok} {deep k : Nat} (h : Rr w R T ts k 0 (-1)) (hd : deep ≤ 8) (hn : (tx ts k == [110, 111, 116]) = true) (hout : oneP ts (f + 1) deep k ≠ .out) :
    Calls Tryz.prog 92 #[.pointer (some ⟨R, 0, none⟩), .int .i64 deep] w (Rfs w R T ts (fun w' v x => IsEx (From w.heap.size) w' x v) isP (oneP ts (f + 1) deep k)) := by
  have HW : Hid (oneP ts (f + 1) deep k = (oneP ts f (deep + 1) (k + 1)).bind fun x k' => .ok (.not (tk ts k).pos x) k') := hide (by simp only [oneP, if_neg (show ¬ 8 < deep by omega), hn, if_true])
  have HO : Hid (oneP ts f (deep + 1) (k + 1) ≠ .out) := fun e => hout (by rw [HW.out, e]; rfl)
  have HR := hide h
  have hd8 : ¬ ((8 : Int) < (deep : Int)) := by omega
  have hwr : IntKind.i64.wrap ((deep : Int) + 1) = (deep : Int) + 1 := wrap_small (by omega) (by omega)
  have hlt := h.Rlt
  have HN := hide hn
  have IH := hide ih
  clear h hn hout ih
  go_enter Tryz.func92, Tryz.ntmps92
  go_wp2_with fail
  refine (rok_good HR.out).mono ?_
  rintro e w0 ⟨rfl, hb⟩
  have hs0 := hb.size
  have hne : w0.heap.size ≠ R := by omega
  obtain ⟨n, c, h0, _, _, r0, c0, c1, c2, _, _⟩ := (HR.out.below hb).cells
  have HT := hide (blk_new w0 (tokObj (tk ts k)))
  have HD1 := hide (HR.out.below (Below.step hb (below_alloc w0 (tokObj (tk ts k)))))
  have HK1 := hide (Kept.of (R := R) (Below.step hb (below_alloc w0 (tokObj (tk ts k)))))
  have y0 : (w0.alloc (tokObj (tk ts k))).cell? ⟨w0.heap.size, 0, none⟩ = some (.int .i64 (rk (tk ts k) : Nat)) := by rw [blk_cell HT.out]; rfl
  have y2 : (w0.alloc (tokObj (tk ts k))).cell? ⟨w0.heap.size, 2, none⟩ = some (.int .i64 (tk ts k).pos) := by rw [blk_cell HT.out]; rfl
  clear hb
  go_wp2_with fail
  generalize hU : w0.heap.size = U at *
  generalize w0.alloc (tokObj (tk ts k)) = w1 at *
  refine (ryes_at [110, 111, 116] (by decide) HD1.out HN.out).mono ?_
  rintro e w2 ⟨rfl, hd2, hk2⟩
  have HD2 := hide hd2
  have HK2 := hide (HK1.out.trans hk2)
  have y0 := hk2.cell y0 hne
  have y2 := hk2.cell y2 hne
  clear hd2 hk2
  go_wp2_with fail
  have y2d : w2.drew.cell? ⟨U, 2, none⟩ = some (.int .i64 (tk ts k).pos) := y2
  refine wp_region_held_drew (S := fun w' => w'.cell? ⟨U, 2, none⟩ = some (.int .i64 (tk ts k).pos)) (by kernel_rfl) y2d (fun _ => ?_)
  refine wpAnyH_take (i := 0) (oi := ⟨some 23, _, _, _, _, _⟩) (v := .pointer (some ⟨U, 2, none⟩)) rfl (by kernel_rfl) (by kernel_rfl) (by kernel_rfl) (fun _ _ _ h => h) (Or.inl ⟨by rfl, fun W hS => by go_simp⟩) y2d ?_
  simp only [Act.put, List.setIfInBounds_toArray, List.set_cons_zero, List.set_cons_succ]
  refine wpAnyH_take (i := 1) (oi := ⟨some 24, _, _, _, _, _⟩) (v := .int .i64 (tk ts k).pos) rfl (by kernel_rfl) (by kernel_rfl) (by kernel_rfl) (fun _ _ _ h => h) (Or.inl ⟨by rfl, fun W hS => by go_simp⟩) y2d ?_
  simp only [Act.put, List.setIfInBounds_toArray, List.set_cons_zero, List.set_cons_succ]
  refine wpAnyH_take (i := 2) (oi := ⟨some 25, _, _, _, _, _⟩) (v := .pointer (some ⟨R, 0, none⟩)) rfl (by kernel_rfl) (by kernel_rfl) (by kernel_rfl) (fun _ _ _ h => h) (Or.inl ⟨by rfl, fun W hS => by go_simp⟩) y2d ?_
  simp only [Act.put, List.setIfInBounds_toArray, List.set_cons_zero, List.set_cons_succ]
  refine wpAnyH_take (i := 3) (oi := ⟨some 26, _, _, _, _, _⟩) (v := .int .i64 deep) rfl (by kernel_rfl) (by kernel_rfl) (by kernel_rfl) (fun _ _ _ h => h) (Or.inl ⟨by rfl, fun W hS => by go_simp⟩) y2d ?_
  simp only [Act.put, List.setIfInBounds_toArray, List.set_cons_zero, List.set_cons_succ]
  refine wpAnyH_take (i := 4) (oi := ⟨some 27, _, _, _, _, _⟩) (v := .int .i64 ((deep : Int) + 1)) rfl (by kernel_rfl) (by kernel_rfl) (by kernel_rfl) (fun _ _ _ h => h) (Or.inl ⟨by rfl, fun W hS => by go_simp⟩) y2d ?_
  simp only [Act.put, List.setIfInBounds_toArray, List.set_cons_zero, List.set_cons_succ]
  refine wpAnyH_ready (rs := [5]) (by kernel_rfl) (by simp) ?_
  refine AllReadyH.cons rfl (fun K hK => ?_) AllReadyH.nil
  go_simp
  refine (IH.out w2.drew R T ts (deep + 1) (k + 1) (HD2.out.below (below_drew w2)) (by omega) HO.out).mono ?_
  rintro e w3 ⟨hk3, hs3, v3, rfl, hv3, hp3⟩
  have HS3 := hide hs3
  have HP3 := hide hp3
  obtain ⟨o3, rfl⟩ := hv3
  have z2 : w3.cell? ⟨U, 2, none⟩ = some (.int .i64 (tk ts k).pos) := hk3.cell y2d hne
  have HK3 := hide (HK2.out.trans (Kept.trans (Kept.of (below_drew w2)) hk3))
  clear hk3 hs3 hp3
  refine hK.out _ _ z2 (fun _ => ?_)
  clear hK K
  refine wpAnyH_take (i := 6) (oi := ⟨some 29, _, _, _, _, _⟩) (v := .agg #[.int .i64 4, .int .i64 (tk ts k).pos, .int .i64 0, .int .i64 0, .string ⟨#[]⟩, .string ⟨#[]⟩, .string ⟨#[]⟩, .pointer o3, .pointer none]) rfl (by kernel_rfl) (by kernel_rfl) (by kernel_rfl) (fun _ _ _ h => h) (Or.inl ⟨by rfl, fun W hS => by go_simp⟩) z2 ?_
  simp only [Act.put, List.setIfInBounds_toArray, List.set_cons_zero, List.set_cons_succ]
  refine wpAnyH_ready (rs := [7]) (by kernel_rfl) (by simp) ?_
  refine AllReadyH.cons rfl (fun K hK => ?_) AllReadyH.nil
  go_simp
  refine hK.out _ _ (cell_alloc z2 _) (fun _ => ?_)
  clear hK K
  refine wpAnyH_take (i := 8) (oi := ⟨some 4, _, _, _, _, _⟩) (v := .pointer (some ⟨w3.heap.size, 0, none⟩)) rfl (by kernel_rfl) (by kernel_rfl) (by kernel_rfl) (fun _ _ _ h => h) (Or.inl ⟨by rfl, fun W hS => by go_simp⟩) (cell_alloc z2 _) ?_
  simp only [Act.put, List.setIfInBounds_toArray, List.set_cons_zero, List.set_cons_succ]
  refine wpAnyH_done (by kernel_rfl) ?_ _
  go_wp2_with fail
  go_ret
  rw [HW.out]
  refine ⟨HK3.out.alloc _, ?_, _, rfl, ⟨_, rfl⟩, fun a k' e => ?_⟩
  · rw [un_ok]
    exact Rst.below (below_alloc _ _) HS3.out
  · obtain ⟨x, hx, rfl⟩ := ok_inv e
    exact ⟨_, _, rfl, HK3.out.size, blk_new _ _, ((HP3.out x k' hx).low HK2.out.size).below (below_alloc _ _)⟩

set_option maxRecDepth 100000 in
set_option maxHeartbeats 3200000 in
theorem rone_par (f : Nat) (ih : RTwoOK f) {w : World} {R T : Nat} {ts : List Tok} {deep k : Nat} (h : Rr w R T ts k 0 (-1)) (hd : deep ≤ 8) (hn : (tx ts k == [110, 111, 116]) = false) (hp : (tx ts k == [40]) = true) (hout : oneP ts (f + 1) deep k ≠ .out) :
    Calls Tryz.prog 92 #[.pointer (some ⟨R, 0, none⟩), .int .i64 deep] w (Rfs w R T ts (fun w' v x => IsEx (From w.heap.size) w' x v) isP (oneP ts (f + 1) deep k)) := by
  have HW : Hid (oneP ts (f + 1) deep k = (twoP ts f 1 (deep + 1) (k + 1)).bind fun x k' => (wantP ts [41] k').bind fun _ k'' => .ok x k'') := hide (by simp only [oneP, if_neg (show ¬ 8 < deep by omega), hn, hp, if_true, Bool.false_eq_true, if_false])
  have HO : Hid (twoP ts f (0 + 1) (deep + 1) (k + 1) ≠ .out) := fun e => hout (by rw [HW.out, e]; rfl)
  have HR := hide h
  have hd8 : ¬ ((8 : Int) < (deep : Int)) := by omega
  have hwr : IntKind.i64.wrap ((deep : Int) + 1) = (deep : Int) + 1 := wrap_small (by omega) (by omega)
  have hlt := h.Rlt
  have HN := hide hn
  have HP := hide hp
  have IH := hide ih
  clear h hn hp hout ih
  go_enter Tryz.func92, Tryz.ntmps92
  go_wp2_with fail
  refine (rok_good HR.out).mono ?_
  rintro e w0 ⟨rfl, hb⟩
  have hs0 := hb.size
  have hne : w0.heap.size ≠ R := by omega
  obtain ⟨n, c, h0, _, _, r0, c0, c1, c2, _, _⟩ := (HR.out.below hb).cells
  have HT := hide (blk_new w0 (tokObj (tk ts k)))
  have HD1 := hide (HR.out.below (Below.step hb (below_alloc w0 (tokObj (tk ts k)))))
  have HK1 := hide (Kept.of (R := R) (Below.step hb (below_alloc w0 (tokObj (tk ts k)))))
  have y0 : (w0.alloc (tokObj (tk ts k))).cell? ⟨w0.heap.size, 0, none⟩ = some (.int .i64 (rk (tk ts k) : Nat)) := by rw [blk_cell HT.out]; rfl
  have y2 : (w0.alloc (tokObj (tk ts k))).cell? ⟨w0.heap.size, 2, none⟩ = some (.int .i64 (tk ts k).pos) := by rw [blk_cell HT.out]; rfl
  clear hb
  go_wp2_with fail
  generalize hU : w0.heap.size = U at *
  generalize w0.alloc (tokObj (tk ts k)) = w1 at *
  refine (rno_at (r := .ok () k) [110, 111, 116] (by decide) HD1.out HN.out).mono ?_
  rintro e w2 ⟨rfl, hd2, hk2⟩
  have HD2 := hide hd2.good
  have HK2 := hide (HK1.out.trans hk2)
  have y0 := hk2.cell y0 hne
  have y2 := hk2.cell y2 hne
  clear hd2 hk2
  go_wp2_with fail
  refine (ryes_at [40] (by decide) HD2.out HP.out).mono ?_
  rintro e w3 ⟨rfl, hd3, hk3⟩
  have HD3 := hide hd3
  have HK3 := hide (HK2.out.trans hk3)
  have y0 := hk3.cell y0 hne
  have y2 := hk3.cell y2 hne
  clear hd3 hk3
  go_wp2_with fail
  rw [show ((deep : Int) + 1) = ((deep + 1 : Nat) : Int) by omega]
  refine (IH.out w3 R T ts 0 (deep + 1) (k + 1) HD3.out (by omega) (by omega) HO.out).mono ?_
  rintro e w4 ⟨hk4, hs4, v4, rfl, hv4, hp4⟩
  have HS4 := hide hs4
  have HP4 := hide hp4
  obtain ⟨o4, rfl⟩ := hv4
  have HK4 := hide (HK3.out.trans hk4)
  clear hk4 hs4 hp4
  go_wp2_with fail
  refine (rneed_at [41] (by decide) HS4.out).mono ?_
  rintro e w5 ⟨rfl, hs5, hk5⟩
  have HS5 := hide hs5
  have HK5 := hide hk5
  clear hs5 hk5
  go_wp2_with fail
  go_ret
  rw [HW.out]
  refine ⟨HK4.out.trans HK5.out, ?_, _, rfl, ⟨_, rfl⟩, fun a k' e => ?_⟩
  · rw [un_must]
    exact HS5.out
  · obtain ⟨k1, hx⟩ := must_inv e
    exact ((HP4.out a k1 hx).low HK3.out.size).kept HK5.out hlt

set_option maxRecDepth 100000 in
set_option maxHeartbeats 3200000 in
theorem rone_num (f : Nat) {w : World} {R T : Nat} {ts : List Tok} {deep k : Nat} (h : Rr w R T ts k 0 (-1)) (hd : deep ≤ 8) (hn : (tx ts k == [110, 111, 116]) = false) (hp : (tx ts k == [40]) = false) (ht : (tx ts k == [116, 114, 117, 101]) = false) (hf : (tx ts k == [102, 97, 108, 115, 101]) = false) (hkd : (tk ts k).kind = 2) (hout : oneP ts (f + 1) deep k ≠ .out) :
    Calls Tryz.prog 92 #[.pointer (some ⟨R, 0, none⟩), .int .i64 deep] w (Rfs w R T ts (fun w' v x => IsEx (From w.heap.size) w' x v) isP (oneP ts (f + 1) deep k)) := by
  have HW : Hid (oneP ts (f + 1) deep k = (byteP ts k).bind fun n k' => .ok (.num (tk ts k).pos n 2) k') := hide (by simp only [oneP, if_neg (show ¬ 8 < deep by omega), hn, hp, ht, hf, hkd, if_true, Bool.false_eq_true, if_false])
  have HR := hide h
  have hd8 : ¬ ((8 : Int) < (deep : Int)) := by omega
  have hwr : IntKind.i64.wrap ((deep : Int) + 1) = (deep : Int) + 1 := wrap_small (by omega) (by omega)
  have hlt := h.Rlt
  have HKD : Hid (((rk (tk ts k) : Nat) : Int) = 2) := hide (rk_yes h.fit k 2 (by decide) (by decide) hkd)
  have HN := hide hn
  have HP := hide hp
  clear h hn hp ht hf hout hkd
  go_enter Tryz.func92, Tryz.ntmps92
  go_wp2_with fail
  refine (rok_good HR.out).mono ?_
  rintro e w0 ⟨rfl, hb⟩
  have hs0 := hb.size
  have hne : w0.heap.size ≠ R := by omega
  obtain ⟨n, c, h0, _, _, r0, c0, c1, c2, _, _⟩ := (HR.out.below hb).cells
  have HT := hide (blk_new w0 (tokObj (tk ts k)))
  have HD1 := hide (HR.out.below (Below.step hb (below_alloc w0 (tokObj (tk ts k)))))
  have HK1 := hide (Kept.of (R := R) (Below.step hb (below_alloc w0 (tokObj (tk ts k)))))
  have y0 : (w0.alloc (tokObj (tk ts k))).cell? ⟨w0.heap.size, 0, none⟩ = some (.int .i64 (rk (tk ts k) : Nat)) := by rw [blk_cell HT.out]; rfl
  have y2 : (w0.alloc (tokObj (tk ts k))).cell? ⟨w0.heap.size, 2, none⟩ = some (.int .i64 (tk ts k).pos) := by rw [blk_cell HT.out]; rfl
  clear hb
  go_wp2_with fail
  generalize hU : w0.heap.size = U at *
  generalize w0.alloc (tokObj (tk ts k)) = w1 at *
  refine (rno_at (r := .ok () k) [110, 111, 116] (by decide) HD1.out HN.out).mono ?_
  rintro e w2 ⟨rfl, hd2, hk2⟩
  have HD2 := hide hd2.good
  have HK2 := hide (HK1.out.trans hk2)
  have y0 := hk2.cell y0 hne
  have y2 := hk2.cell y2 hne
  clear hd2 hk2
  go_wp2_with fail
  rw [HKD.out] at y0
  refine (rno_at (r := .ok () k) [40] (by decide) HD2.out HP.out).mono ?_
  rintro e w3 ⟨rfl, hd3, hk3⟩
  have HD3 := hide hd3.good
  have HK3 := hide (HK2.out.trans hk3)
  have y0 := hk3.cell y0 hne
  have y2 := hk3.cell y2 hne
  clear hd3 hk3
  go_wp2_with fail
  have y2d : w3.drew.cell? ⟨U, 2, none⟩ = some (.int .i64 (tk ts k).pos) := y2
  refine wp_region_held_drew (S := fun w' => w'.cell? ⟨U, 2, none⟩ = some (.int .i64 (tk ts k).pos)) (by kernel_rfl) y2d (fun _ => ?_)
  refine wpAnyH_take (i := 0) (oi := ⟨some 43, _, _, _, _, _⟩) (v := .pointer (some ⟨U, 2, none⟩)) rfl (by kernel_rfl) (by kernel_rfl) (by kernel_rfl) (fun _ _ _ h => h) (Or.inl ⟨by rfl, fun W hS => by go_simp⟩) y2d ?_
  simp only [Act.put, List.setIfInBounds_toArray, List.set_cons_zero, List.set_cons_succ]
  refine wpAnyH_take (i := 1) (oi := ⟨some 44, _, _, _, _, _⟩) (v := .int .i64 (tk ts k).pos) rfl (by kernel_rfl) (by kernel_rfl) (by kernel_rfl) (fun _ _ _ h => h) (Or.inl ⟨by rfl, fun W hS => by go_simp⟩) y2d ?_
  simp only [Act.put, List.setIfInBounds_toArray, List.set_cons_zero, List.set_cons_succ]
  refine wpAnyH_take (i := 2) (oi := ⟨some 45, _, _, _, _, _⟩) (v := .pointer (some ⟨R, 0, none⟩)) rfl (by kernel_rfl) (by kernel_rfl) (by kernel_rfl) (fun _ _ _ h => h) (Or.inl ⟨by rfl, fun W hS => by go_simp⟩) y2d ?_
  simp only [Act.put, List.setIfInBounds_toArray, List.set_cons_zero, List.set_cons_succ]
  refine wpAnyH_ready (rs := [3]) (by kernel_rfl) (by simp) ?_
  refine AllReadyH.cons rfl (fun K hK => ?_) AllReadyH.nil
  go_simp
  refine (rbyte_at (HD3.out.below (below_drew w3))).mono ?_
  rintro e w4 ⟨hk4, hs4, v4, rfl, hv4, hp4⟩
  have HS4 := hide hs4
  have HP4 := hide hp4
  obtain ⟨n4, rfl⟩ := hv4
  have z2 : w4.cell? ⟨U, 2, none⟩ = some (.int .i64 (tk ts k).pos) := hk4.cell y2d hne
  have HK4 := hide (HK3.out.trans (Kept.trans (Kept.of (below_drew w3)) hk4))
  clear hk4 hs4 hp4
  refine hK.out _ _ z2 (fun _ => ?_)
  clear hK K
  refine wpAnyH_take (i := 4) (oi := ⟨some 47, _, _, _, _, _⟩) (v := .agg #[.int .i64 1, .int .i64 (tk ts k).pos, .int .i64 n4, .int .i64 2, .string ⟨#[]⟩, .string ⟨#[]⟩, .string ⟨#[]⟩, .pointer none, .pointer none]) rfl (by kernel_rfl) (by kernel_rfl) (by kernel_rfl) (fun _ _ _ h => h) (Or.inl ⟨by rfl, fun W hS => by go_simp⟩) z2 ?_
  simp only [Act.put, List.setIfInBounds_toArray, List.set_cons_zero, List.set_cons_succ]
  refine wpAnyH_ready (rs := [5]) (by kernel_rfl) (by simp) ?_
  refine AllReadyH.cons rfl (fun K hK => ?_) AllReadyH.nil
  go_simp
  refine hK.out _ _ (cell_alloc z2 _) (fun _ => ?_)
  clear hK K
  refine wpAnyH_take (i := 6) (oi := ⟨some 4, _, _, _, _, _⟩) (v := .pointer (some ⟨w4.heap.size, 0, none⟩)) rfl (by kernel_rfl) (by kernel_rfl) (by kernel_rfl) (fun _ _ _ h => h) (Or.inl ⟨by rfl, fun W hS => by go_simp⟩) (cell_alloc z2 _) ?_
  simp only [Act.put, List.setIfInBounds_toArray, List.set_cons_zero, List.set_cons_succ]
  refine wpAnyH_done (by kernel_rfl) ?_ _
  go_wp2_with fail
  go_ret
  rw [HW.out]
  refine ⟨HK4.out.alloc _, ?_, _, rfl, ⟨_, rfl⟩, fun a k' e => ?_⟩
  · rw [un_ok]
    exact Rst.below (below_alloc _ _) HS4.out
  · obtain ⟨x, hx, rfl⟩ := ok_inv e
    have hn4 := HP4.out x k' hx
    injection hn4 with _ hn4
    refine ⟨_, rfl, HK4.out.size, ?_⟩
    rw [blk_new, hn4]
    rfl

set_option maxRecDepth 100000 in
set_option maxHeartbeats 3200000 in
theorem rone_true (f : Nat) {w : World} {R T : Nat} {ts : List Tok} {deep k : Nat} (h : Rr w R T ts k 0 (-1)) (hd : deep ≤ 8) (hn : (tx ts k == [110, 111, 116]) = false) (hp : (tx ts k == [40]) = false) (hkd : (tk ts k).kind ≠ 2) (hq : (tx ts k == [116, 114, 117, 101]) = true) (hout : oneP ts (f + 1) deep k ≠ .out) :
    Calls Tryz.prog 92 #[.pointer (some ⟨R, 0, none⟩), .int .i64 deep] w (Rfs w R T ts (fun w' v x => IsEx (From w.heap.size) w' x v) isP (oneP ts (f + 1) deep k)) := by
  have HW : Hid (oneP ts (f + 1) deep k = .ok (.num (tk ts k).pos 1 1) (k + 1)) := hide (by simp only [oneP, if_neg (show ¬ 8 < deep by omega), hn, hp, hq, if_true, Bool.false_eq_true, if_false])
  have HR := hide h
  have hd8 : ¬ ((8 : Int) < (deep : Int)) := by omega
  have hwr : IntKind.i64.wrap ((deep : Int) + 1) = (deep : Int) + 1 := wrap_small (by omega) (by omega)
  have hlt := h.Rlt
  have hk2 : (((rk (tk ts k) : Nat) : Int) == 2) = false := by
    have := rk_is h.fit k 2 (by decide) (by decide)
    rw [show ((2 : Nat) : Int) = 2 from rfl] at this
    rw [this]; simp [hkd]
  have HN := hide hn
  have HP := hide hp
  have HQ := hide hq
  clear h hn hp hq hout hkd
  go_enter Tryz.func92, Tryz.ntmps92
  go_wp2_with fail
  refine (rok_good HR.out).mono ?_
  rintro e w0 ⟨rfl, hb⟩
  have hs0 := hb.size
  have hne : w0.heap.size ≠ R := by omega
  obtain ⟨n, c, h0, _, _, r0, c0, c1, c2, _, _⟩ := (HR.out.below hb).cells
  have HT := hide (blk_new w0 (tokObj (tk ts k)))
  have HD1 := hide (HR.out.below (Below.step hb (below_alloc w0 (tokObj (tk ts k)))))
  have HK1 := hide (Kept.of (R := R) (Below.step hb (below_alloc w0 (tokObj (tk ts k)))))
  have y0 : (w0.alloc (tokObj (tk ts k))).cell? ⟨w0.heap.size, 0, none⟩ = some (.int .i64 (rk (tk ts k) : Nat)) := by rw [blk_cell HT.out]; rfl
  have y2 : (w0.alloc (tokObj (tk ts k))).cell? ⟨w0.heap.size, 2, none⟩ = some (.int .i64 (tk ts k).pos) := by rw [blk_cell HT.out]; rfl
  clear hb
  go_wp2_with fail
  generalize hU : w0.heap.size = U at *
  generalize w0.alloc (tokObj (tk ts k)) = w1 at *
  refine (rno_at (r := .ok () k) [110, 111, 116] (by decide) HD1.out HN.out).mono ?_
  rintro e w2 ⟨rfl, hd2, hk2⟩
  have HD2 := hide hd2.good
  have HK2 := hide (HK1.out.trans hk2)
  have y0 := hk2.cell y0 hne
  have y2 := hk2.cell y2 hne
  clear hd2 hk2
  go_wp2_with fail
  refine (rno_at (r := .ok () k) [40] (by decide) HD2.out HP.out).mono ?_
  rintro e w3 ⟨rfl, hd3, hk3⟩
  have HD3 := hide hd3.good
  have HK3 := hide (HK2.out.trans hk3)
  have y0 := hk3.cell y0 hne
  have y2 := hk3.cell y2 hne
  clear hd3 hk3
  go_wp2_with fail
  refine (ryes_at [116, 114, 117, 101] (by decide) HD3.out HQ.out).mono ?_
  rintro e w4 ⟨rfl, hd4, hk4⟩
  have HD4 := hide hd4
  have HK4 := hide (HK3.out.trans hk4)
  have y0 := hk4.cell y0 hne
  have y2 := hk4.cell y2 hne
  clear hd4 hk4
  go_wp2_with fail
  go_ret
  exact Rfs.ok HW.out (HK4.out.alloc _) (HD4.out.below (below_alloc _ _)) ⟨_, rfl⟩ ⟨_, rfl, HK4.out.size, blk_new _ _⟩

set_option maxRecDepth 100000 in
set_option maxHeartbeats 3200000 in
theorem rone_false (f : Nat) {w : World} {R T : Nat} {ts : List Tok} {deep k : Nat} (h : Rr w R T ts k 0 (-1)) (hd : deep ≤ 8) (hn : (tx ts k == [110, 111, 116]) = false) (hp : (tx ts k == [40]) = false) (hkd : (tk ts k).kind ≠ 2) (ht : (tx ts k == [116, 114, 117, 101]) = false) (hq : (tx ts k == [102, 97, 108, 115, 101]) = true) (hout : oneP ts (f + 1) deep k ≠ .out) :
    Calls Tryz.prog 92 #[.pointer (some ⟨R, 0, none⟩), .int .i64 deep] w (Rfs w R T ts (fun w' v x => IsEx (From w.heap.size) w' x v) isP (oneP ts (f + 1) deep k)) := by
  have HW : Hid (oneP ts (f + 1) deep k = .ok (.num (tk ts k).pos 0 1) (k + 1)) := hide (by simp only [oneP, if_neg (show ¬ 8 < deep by omega), hn, hp, ht, hq, if_true, Bool.false_eq_true, if_false])
  have HR := hide h
  have hd8 : ¬ ((8 : Int) < (deep : Int)) := by omega
  have hwr : IntKind.i64.wrap ((deep : Int) + 1) = (deep : Int) + 1 := wrap_small (by omega) (by omega)
  have hlt := h.Rlt
  have hk2 : (((rk (tk ts k) : Nat) : Int) == 2) = false := by
    have := rk_is h.fit k 2 (by decide) (by decide)
    rw [show ((2 : Nat) : Int) = 2 from rfl] at this
    rw [this]; simp [hkd]
  have HN := hide hn
  have HP := hide hp
  have HT0 := hide ht
  have HQ := hide hq
  clear h hn hp hq hout hkd ht
  go_enter Tryz.func92, Tryz.ntmps92
  go_wp2_with fail
  refine (rok_good HR.out).mono ?_
  rintro e w0 ⟨rfl, hb⟩
  have hs0 := hb.size
  have hne : w0.heap.size ≠ R := by omega
  obtain ⟨n, c, h0, _, _, r0, c0, c1, c2, _, _⟩ := (HR.out.below hb).cells
  have HT := hide (blk_new w0 (tokObj (tk ts k)))
  have HD1 := hide (HR.out.below (Below.step hb (below_alloc w0 (tokObj (tk ts k)))))
  have HK1 := hide (Kept.of (R := R) (Below.step hb (below_alloc w0 (tokObj (tk ts k)))))
  have y0 : (w0.alloc (tokObj (tk ts k))).cell? ⟨w0.heap.size, 0, none⟩ = some (.int .i64 (rk (tk ts k) : Nat)) := by rw [blk_cell HT.out]; rfl
  have y2 : (w0.alloc (tokObj (tk ts k))).cell? ⟨w0.heap.size, 2, none⟩ = some (.int .i64 (tk ts k).pos) := by rw [blk_cell HT.out]; rfl
  clear hb
  go_wp2_with fail
  generalize hU : w0.heap.size = U at *
  generalize w0.alloc (tokObj (tk ts k)) = w1 at *
  refine (rno_at (r := .ok () k) [110, 111, 116] (by decide) HD1.out HN.out).mono ?_
  rintro e w2 ⟨rfl, hd2, hk2⟩
  have HD2 := hide hd2.good
  have HK2 := hide (HK1.out.trans hk2)
  have y0 := hk2.cell y0 hne
  have y2 := hk2.cell y2 hne
  clear hd2 hk2
  go_wp2_with fail
  refine (rno_at (r := .ok () k) [40] (by decide) HD2.out HP.out).mono ?_
  rintro e w3 ⟨rfl, hd3, hk3⟩
  have HD3 := hide hd3.good
  have HK3 := hide (HK2.out.trans hk3)
  have y0 := hk3.cell y0 hne
  have y2 := hk3.cell y2 hne
  clear hd3 hk3
  go_wp2_with fail
  refine (rno_at (r := .ok () k) [116, 114, 117, 101] (by decide) HD3.out HT0.out).mono ?_
  rintro e w4 ⟨rfl, hd4, hk4⟩
  have HD4 := hide hd4.good
  have HK4 := hide (HK3.out.trans hk4)
  have y0 := hk4.cell y0 hne
  have y2 := hk4.cell y2 hne
  clear hd4 hk4
  go_wp2_with fail
  refine (ryes_at [102, 97, 108, 115, 101] (by decide) HD4.out HQ.out).mono ?_
  rintro e w5 ⟨rfl, hd5, hk5⟩
  have HD5 := hide hd5
  have HK5 := hide (HK4.out.trans hk5)
  have y0 := hk5.cell y0 hne
  have y2 := hk5.cell y2 hne
  clear hd5 hk5
  go_wp2_with fail
  go_ret
  exact Rfs.ok HW.out (HK5.out.alloc _) (HD5.out.below (below_alloc _ _)) ⟨_, rfl⟩ ⟨_, rfl, HK5.out.size, blk_new _ _⟩

set_option maxRecDepth 100000 in
set_option maxHeartbeats 3200000 in
theorem rone_name (f : Nat) {w : World} {R T : Nat} {ts : List Tok} {deep k : Nat} (h : Rr w R T ts k 0 (-1)) (hd : deep ≤ 8) (hn : (tx ts k == [110, 111, 116]) = false) (hp : (tx ts k == [40]) = false) (hkd : (tk ts k).kind ≠ 2) (ht : (tx ts k == [116, 114, 117, 101]) = false) (hf : (tx ts k == [102, 97, 108, 115, 101]) = false) (hout : oneP ts (f + 1) deep k ≠ .out) :
    Calls Tryz.prog 92 #[.pointer (some ⟨R, 0, none⟩), .int .i64 deep] w (Rfs w R T ts (fun w' v x => IsEx (From w.heap.size) w' x v) isP (oneP ts (f + 1) deep k)) := by
  have HW : Hid (oneP ts (f + 1) deep k = (nameP ts k).bind fun s k' => if tx ts k' == [46] then (nameP ts (k' + 1)).bind fun g k'' => .ok (.field (tk ts k).pos s g) k'' else .ok (.name (tk ts k).pos s) k') := hide (by simp only [oneP, if_neg (show ¬ 8 < deep by omega), hn, hp, ht, hf, hkd, if_true, Bool.false_eq_true, if_false])
  have HR := hide h
  have hd8 : ¬ ((8 : Int) < (deep : Int)) := by omega
  have hwr : IntKind.i64.wrap ((deep : Int) + 1) = (deep : Int) + 1 := wrap_small (by omega) (by omega)
  have hlt := h.Rlt
  have hk2 : (((rk (tk ts k) : Nat) : Int) == 2) = false := by
    have := rk_is h.fit k 2 (by decide) (by decide)
    rw [show ((2 : Nat) : Int) = 2 from rfl] at this
    rw [this]; simp [hkd]
  have HTL := hide h.Tlt
  have HN := hide hn
  have HP := hide hp
  have HT0 := hide ht
  have HF := hide hf
  clear h hn hp ht hf hout hkd
  go_enter Tryz.func92, Tryz.ntmps92
  go_wp2_with fail
  refine (rok_good HR.out).mono ?_
  rintro e w0 ⟨rfl, hb⟩
  have hs0 := hb.size
  have hne : w0.heap.size ≠ R := by omega
  obtain ⟨n, c, h0, _, _, r0, c0, c1, c2, _, _⟩ := (HR.out.below hb).cells
  have HT := hide (blk_new w0 (tokObj (tk ts k)))
  have HD1 := hide (HR.out.below (Below.step hb (below_alloc w0 (tokObj (tk ts k)))))
  have HK1 := hide (Kept.of (R := R) (Below.step hb (below_alloc w0 (tokObj (tk ts k)))))
  have y0 : (w0.alloc (tokObj (tk ts k))).cell? ⟨w0.heap.size, 0, none⟩ = some (.int .i64 (rk (tk ts k) : Nat)) := by rw [blk_cell HT.out]; rfl
  have y2 : (w0.alloc (tokObj (tk ts k))).cell? ⟨w0.heap.size, 2, none⟩ = some (.int .i64 (tk ts k).pos) := by rw [blk_cell HT.out]; rfl
  clear hb
  go_wp2_with fail
  generalize hU : w0.heap.size = U at *
  generalize w0.alloc (tokObj (tk ts k)) = w1 at *
  refine (rno_at (r := .ok () k) [110, 111, 116] (by decide) HD1.out HN.out).mono ?_
  rintro e w2 ⟨rfl, hd2, hk2⟩
  have HD2 := hide hd2.good
  have HK2 := hide (HK1.out.trans hk2)
  have y0 := hk2.cell y0 hne
  have y2 := hk2.cell y2 hne
  clear hd2 hk2
  go_wp2_with fail
  refine (rno_at (r := .ok () k) [40] (by decide) HD2.out HP.out).mono ?_
  rintro e w3 ⟨rfl, hd3, hk3⟩
  have HD3 := hide hd3.good
  have HK3 := hide (HK2.out.trans hk3)
  have y0 := hk3.cell y0 hne
  have y2 := hk3.cell y2 hne
  clear hd3 hk3
  go_wp2_with fail
  refine (rno_at (r := .ok () k) [116, 114, 117, 101] (by decide) HD3.out HT0.out).mono ?_
  rintro e w4 ⟨rfl, hd4, hk4⟩
  have HD4 := hide hd4.good
  have HK4 := hide (HK3.out.trans hk4)
  have y0 := hk4.cell y0 hne
  have y2 := hk4.cell y2 hne
  clear hd4 hk4
  go_wp2_with fail
  refine (rno_at (r := .ok () k) [102, 97, 108, 115, 101] (by decide) HD4.out HF.out).mono ?_
  rintro e w5 ⟨rfl, hd5, hk5⟩
  have HD5 := hide hd5.good
  have HK5 := hide (HK4.out.trans hk5)
  have y0 := hk5.cell y0 hne
  have y2 := hk5.cell y2 hne
  clear hd5 hk5
  go_wp2_with fail
  have y2d : w5.drew.cell? ⟨U, 2, none⟩ = some (.int .i64 (tk ts k).pos) := y2
  refine wp_region_held_drew (S := fun w' => w'.cell? ⟨U, 2, none⟩ = some (.int .i64 (tk ts k).pos)) (by kernel_rfl) y2d (fun _ => ?_)
  refine wpAnyH_take (i := 0) (oi := ⟨some 61, _, _, _, _, _⟩) (v := .pointer (some ⟨U, 2, none⟩)) rfl (by kernel_rfl) (by kernel_rfl) (by kernel_rfl) (fun _ _ _ h => h) (Or.inl ⟨by rfl, fun W hS => by go_simp⟩) y2d ?_
  simp only [Act.put, List.setIfInBounds_toArray, List.set_cons_zero, List.set_cons_succ]
  refine wpAnyH_take (i := 1) (oi := ⟨some 62, _, _, _, _, _⟩) (v := .int .i64 (tk ts k).pos) rfl (by kernel_rfl) (by kernel_rfl) (by kernel_rfl) (fun _ _ _ h => h) (Or.inl ⟨by rfl, fun W hS => by go_simp⟩) y2d ?_
  simp only [Act.put, List.setIfInBounds_toArray, List.set_cons_zero, List.set_cons_succ]
  refine wpAnyH_take (i := 2) (oi := ⟨some 63, _, _, _, _, _⟩) (v := .pointer (some ⟨R, 0, none⟩)) rfl (by kernel_rfl) (by kernel_rfl) (by kernel_rfl) (fun _ _ _ h => h) (Or.inl ⟨by rfl, fun W hS => by go_simp⟩) y2d ?_
  simp only [Act.put, List.setIfInBounds_toArray, List.set_cons_zero, List.set_cons_succ]
  refine wpAnyH_ready (rs := [3]) (by kernel_rfl) (by simp) ?_
  refine AllReadyH.cons rfl (fun K hK => ?_) AllReadyH.nil
  go_simp
  refine (rname_at (HD5.out.below (below_drew w5))).mono ?_
  rintro e w6 ⟨hk6, hs6, v6, rfl, hv6, hp6⟩
  have HS6 := hide hs6
  have HP6 := hide hp6
  have hv6 : v6 = .string (tk ts k).text := hv6
  subst hv6
  have z2 : w6.cell? ⟨U, 2, none⟩ = some (.int .i64 (tk ts k).pos) := hk6.cell y2d hne
  have HK6 := hide (HK5.out.trans (Kept.trans (Kept.of (below_drew w5)) hk6))
  clear hk6 hs6 hp6
  refine hK.out _ _ z2 (fun _ => ?_)
  clear hK K
  refine wpAnyH_take (i := 4) (oi := ⟨some 65, _, _, _, _, _⟩) (v := .agg #[.int .i64 2, .int .i64 (tk ts k).pos, .int .i64 0, .int .i64 0, .string (tk ts k).text, .string ⟨#[]⟩, .string ⟨#[]⟩, .pointer none, .pointer none]) rfl (by kernel_rfl) (by kernel_rfl) (by kernel_rfl) (fun _ _ _ h => h) (Or.inl ⟨by rfl, fun W hS => by go_simp⟩) z2 ?_
  simp only [Act.put, List.setIfInBounds_toArray, List.set_cons_zero, List.set_cons_succ]
  refine wpAnyH_ready (rs := [5]) (by kernel_rfl) (by simp) ?_
  refine AllReadyH.cons rfl (fun K hK => ?_) AllReadyH.nil
  go_simp
  refine hK.out _ _ (cell_alloc z2 _) (fun _ => ?_)
  clear hK K
  refine wpAnyH_take (i := 6) (oi := ⟨some 7, _, _, _, _, _⟩) (v := .pointer (some ⟨w6.heap.size, 0, none⟩)) rfl (by kernel_rfl) (by kernel_rfl) (by kernel_rfl) (fun _ _ _ h => h) (Or.inl ⟨by rfl, fun W hS => by go_simp⟩) (cell_alloc z2 _) ?_
  simp only [Act.put, List.setIfInBounds_toArray, List.set_cons_zero, List.set_cons_succ]
  refine wpAnyH_done (by kernel_rfl) ?_ _
  go_wp2_with fail
  have HX := hide (blk_new w6 (.cells #[.int .i64 2, .int .i64 (tk ts k).pos, .int .i64 0, .int .i64 0, .string (tk ts k).text, .string ⟨#[]⟩, .string ⟨#[]⟩, .pointer none, .pointer none] 107))
  have HS7 := hide (Rst.below (below_alloc w6 (.cells #[.int .i64 2, .int .i64 (tk ts k).pos, .int .i64 0, .int .i64 0, .string (tk ts k).text, .string ⟨#[]⟩, .string ⟨#[]⟩, .pointer none, .pointer none] 107)) HS6.out)
  have HK7 := hide (HK6.out.alloc (.cells #[.int .i64 2, .int .i64 (tk ts k).pos, .int .i64 0, .int .i64 0, .string (tk ts k).text, .string ⟨#[]⟩, .string ⟨#[]⟩, .pointer none, .pointer none] 107))
  have HX6 := hide HK6.out.size
  have hXR : w6.heap.size ≠ R := by have := HS6.out.Rlt; omega
  generalize w6.alloc (.cells #[.int .i64 2, .int .i64 (tk ts k).pos, .int .i64 0, .int .i64 0, .string (tk ts k).text, .string ⟨#[]⟩, .string ⟨#[]⟩, .pointer none, .pointer none] 107) = w7 at *
  generalize w6.heap.size = X at *
  cases hr : nameP ts k with
  | out =>
    rw [hr] at HS7
    exact HS7.out.elim
  | bad er p =>
    rw [hr] at HS7 HW
    refine (rno_at (r := .bad er p) [46] (by decide) HS7.out rfl).mono ?_
    rintro e w8 ⟨rfl, hd8, hk8⟩
    have HD8 := hide hd8
    have HK8 := hide (HK7.out.trans hk8)
    clear hd8 hk8
    go_wp2_with fail
    go_ret
    exact Rfs.bad HW.out HK8.out HD8.out ⟨_, rfl⟩
  | ok s k1 =>
    rw [hr] at HS7 HW
    have HSV := hide (HP6.out s k1 hr)
    cases hd : (tx ts k1 == [46]) with
    | false =>
      have HW2 : Hid (oneP ts (f + 1) deep k = .ok (.name (tk ts k).pos s) k1) := hide (by rw [HW.out]; simp only [Res.bind, hd, Bool.false_eq_true, if_false])
      have HDB := hide hd
      clear hd hr
      refine (rno_at (r := .ok () k1) [46] (by decide) HS7.out HDB.out).mono ?_
      rintro e w8 ⟨rfl, hd8, hk8⟩
      have HD8 := hide hd8.good
      have HK8 := hide (HK7.out.trans hk8)
      have HX8 := hide (hk8.blk HX.out hXR)
      clear hd8 hk8
      go_wp2_with fail
      go_ret
      refine Rfs.ok HW2.out HK8.out HD8.out ⟨_, rfl⟩ ⟨_, rfl, HX6.out, ?_⟩
      have := HSV.out
      injection this with this
      rw [HX8.out, this]
    | true =>
      have HW2 : Hid (oneP ts (f + 1) deep k = (nameP ts (k1 + 1)).bind fun g k'' => .ok (.field (tk ts k).pos s g) k'') := hide (by rw [HW.out]; simp only [Res.bind_ok, hd, if_true])
      have HDB := hide hd
      clear hd hr
      refine (ryes_at [46] (by decide) HS7.out.good HDB.out).mono ?_
      rintro e w8 ⟨rfl, hd8, hk8⟩
      have HD8 := hide hd8
      have HK8 := hide (HK7.out.trans hk8)
      have HX8 := hide (hk8.blk HX.out hXR)
      clear hd8 hk8
      go_wp2_with fail
      refine (rname_at HD8.out).mono ?_
      rintro e w9 ⟨hk9, hs9, v9, rfl, hv9, hp9⟩
      have hv9 : v9 = .string (tk ts (k1 + 1)).text := hv9
      subst hv9
      have HS9 := hide hs9
      have HP9 := hide hp9
      have HK9 := hide (HK8.out.trans hk9)
      have hx9 := hk9.blk HX8.out hXR
      have HX9 := hide hx9
      have x0 : w9.cell? ⟨X, 0, none⟩ = some (.int .i64 2) := by rw [blk_cell hx9]; rfl
      have x5 : w9.cell? ⟨X, 5, none⟩ = some (.string ⟨#[]⟩) := by rw [blk_cell hx9]; rfl
      have xf0 : w9.frozen? ⟨X, 0, none⟩ = false := blk_frozen hx9 0
      have xf5 : w9.frozen? ⟨X, 5, none⟩ = false := blk_frozen hx9 5
      clear hk9 hs9 hp9 hx9
      go_wp2_with fail
      go_ret
      have hXT : X ≠ T := by have := HTL.out; have := HX6.out; omega
      have hXG : 12 ≤ X := by have := HR.out.big; have := HX6.out; omega
      rw [HW2.out]
      refine ⟨(HK9.out.new 0 _ HX6.out).new 5 _ HX6.out, ?_, _, rfl, ⟨_, rfl⟩, fun a k' e => ?_⟩
      · rw [un_ok]
        exact (HS9.out.set 0 _ hXR hXT hXG).set 5 _ hXR hXT hXG
      · obtain ⟨g, hg, rfl⟩ := ok_inv e
        have e1 := HP9.out g k' hg
        have e2 := HSV.out
        injection e1 with e1
        injection e2 with e2
        refine ⟨_, rfl, HX6.out, ?_⟩
        rw [blk_set (blk_set HX9.out 0 _) 5 _, e1, e2]
        rfl
end Go.Proofs.YtlbgdoajaplabaaGreatDoor
