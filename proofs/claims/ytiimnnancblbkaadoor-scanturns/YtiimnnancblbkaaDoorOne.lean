/-
  CONTRACTS of one, two, expr: expressions.
-/
import Derived.Test.YtiimnnancblbkaaDoorJByte
namespace Go.Proofs.YtiimnnancblbkaaDoor
open Go.RowKit

/-- the blocks from N on -/
abbrev From (N : Nat) : Nat → Prop := fun b => N ≤ b
/-- an expression in memory, in such blocks -/
def IsEx (S : Nat → Prop) (w : World) : Ex → Value → Prop
  | .num p n ty, v => ∃ B : Nat, v = .pointer (some ⟨B, 0, none⟩) ∧ S B ∧ w.heap[B]? = some (.cells #[.int .i64 1, .int .i64 p, .int .i64 n, .int .i64 ty, .string ⟨#[]⟩, .string ⟨#[]⟩, .string ⟨#[]⟩, .pointer none, .pointer none] 50 (0, 0))
  | .name p s, v => ∃ B : Nat, v = .pointer (some ⟨B, 0, none⟩) ∧ S B ∧ w.heap[B]? = some (.cells #[.int .i64 2, .int .i64 p, .int .i64 0, .int .i64 0, .string s, .string ⟨#[]⟩, .string ⟨#[]⟩, .pointer none, .pointer none] 50 (0, 0))
  | .field p s g, v => ∃ B : Nat, v = .pointer (some ⟨B, 0, none⟩) ∧ S B ∧ w.heap[B]? = some (.cells #[.int .i64 3, .int .i64 p, .int .i64 0, .int .i64 0, .string s, .string g, .string ⟨#[]⟩, .pointer none, .pointer none] 50 (0, 0))
  | .not p x, v => ∃ (B : Nat) (a : Value), v = .pointer (some ⟨B, 0, none⟩) ∧ S B ∧ w.heap[B]? = some (.cells #[.int .i64 4, .int .i64 p, .int .i64 0, .int .i64 0, .string ⟨#[]⟩, .string ⟨#[]⟩, .string ⟨#[]⟩, a, .pointer none] 50 (0, 0)) ∧ IsEx S w x a
  | .bin p op x y, v => ∃ (B : Nat) (a b : Value), v = .pointer (some ⟨B, 0, none⟩) ∧ S B ∧ w.heap[B]? = some (.cells #[.int .i64 5, .int .i64 p, .int .i64 0, .int .i64 0, .string ⟨#[]⟩, .string ⟨#[]⟩, .string op, a, b] 50 (0, 0)) ∧ IsEx S w x a ∧ IsEx S w y b

theorem IsEx.same {S : Nat → Prop} {w w' : World} (hb : ∀ b, S b → b < w.heap.size → w'.heap[b]? = w.heap[b]?) : ∀ {x : Ex} {v : Value}, IsEx S w x v → IsEx S w' x v
  | .num .., _, ⟨B, e, hn, h⟩ => ⟨B, e, hn, (hb B hn (blk_lt h)).trans h⟩
  | .name .., _, ⟨B, e, hn, h⟩ => ⟨B, e, hn, (hb B hn (blk_lt h)).trans h⟩
  | .field .., _, ⟨B, e, hn, h⟩ => ⟨B, e, hn, (hb B hn (blk_lt h)).trans h⟩
  | .not .., _, ⟨B, a, e, hn, h, hx⟩ => ⟨B, a, e, hn, (hb B hn (blk_lt h)).trans h, hx.same hb⟩
  | .bin .., _, ⟨B, a, b, e, hn, h, hx, hy⟩ => ⟨B, a, b, e, hn, (hb B hn (blk_lt h)).trans h, hx.same hb, hy.same hb⟩
theorem IsEx.imp {S S' : Nat → Prop} {w : World} (hl : ∀ b, b < w.heap.size → S b → S' b) : ∀ {x : Ex} {v : Value}, IsEx S w x v → IsEx S' w x v
  | .num .., _, ⟨B, e, hn, h⟩ => ⟨B, e, hl B (blk_lt h) hn, h⟩
  | .name .., _, ⟨B, e, hn, h⟩ => ⟨B, e, hl B (blk_lt h) hn, h⟩
  | .field .., _, ⟨B, e, hn, h⟩ => ⟨B, e, hl B (blk_lt h) hn, h⟩
  | .not .., _, ⟨B, a, e, hn, h, hx⟩ => ⟨B, a, e, hl B (blk_lt h) hn, h, hx.imp hl⟩
  | .bin .., _, ⟨B, a, b, e, hn, h, hx, hy⟩ => ⟨B, a, b, e, hl B (blk_lt h) hn, h, hx.imp hl, hy.imp hl⟩
theorem IsEx.low {N N' : Nat} {w : World} {x : Ex} {v : Value} (h : IsEx (From N) w x v) (hl : N' ≤ N) : IsEx (From N') w x v := h.imp fun _ _ h => Nat.le_trans hl h
theorem IsEx.kept {R N : Nat} {w w' : World} {x : Ex} {v : Value} (h : IsEx (From N) w x v) (hb : Kept R w w') (hR : R < N) : IsEx (From N) w' x v :=
  h.same fun b h1 h2 => hb.block b h2 (by have : N ≤ b := h1; omega)
theorem IsEx.below {S : Nat → Prop} {w w' : World} {x : Ex} {v : Value} (h : IsEx S w x v) (hb : Below w.heap.size w w') : IsEx S w' x v :=
  h.same fun b _ h2 => hb.block b h2
theorem IsEx.ptr {S : Nat → Prop} {w : World} : ∀ {x : Ex} {v : Value}, IsEx S w x v → ∃ B : Nat, v = .pointer (some ⟨B, 0, none⟩)
  | .num .., _, ⟨B, e, _⟩ => ⟨B, e⟩
  | .name .., _, ⟨B, e, _⟩ => ⟨B, e⟩
  | .field .., _, ⟨B, e, _⟩ => ⟨B, e⟩
  | .not .., _, ⟨B, _, e, _⟩ => ⟨B, e⟩
  | .bin .., _, ⟨B, _, _, e, _⟩ => ⟨B, e⟩
theorem new_ne {w : World} {R T cap k : Nat} {ts : List Tok} (h : Rd w R T cap ts k) : w.heap.size ≠ R := by have := h.Rlt; omega

def OneOK (f : Nat) : Prop := ∀ (w : World) (R T cap : Nat) (ts : List Tok) (deep k : Nat), Rd w R T cap ts k → deep ≤ 9 → oneP ts f deep k ≠ .out →
  Calls Tryd.prog 84 #[.pointer (some ⟨R, 0, none⟩), .int .i64 deep] w (Rds w R T cap ts (fun w' v x => IsEx (From w.heap.size) w' x v) (oneP ts f deep k))
def TwoOK (f : Nat) : Prop := ∀ (w : World) (R T cap : Nat) (ts : List Tok) (lv deep k : Nat), Rd w R T cap ts k → 1 ≤ lv → lv ≤ 6 → deep ≤ 9 → twoP ts f lv deep k ≠ .out →
  Calls Tryd.prog 81 #[.pointer (some ⟨R, 0, none⟩), .int .i64 lv, .int .i64 deep] w (Rds w R T cap ts (fun w' v x => IsEx (From w.heap.size) w' x v) (twoP ts f lv deep k))

set_option maxRecDepth 100000 in
set_option maxHeartbeats 6400000 in
theorem one_deep (f : Nat) {w : World} {R T cap : Nat} {ts : List Tok} {deep k : Nat} (h : Rd w R T cap ts k) (hd : 8 < deep) (hd9 : deep ≤ 9) :
  Calls Tryd.prog 84 #[.pointer (some ⟨R, 0, none⟩), .int .i64 deep] w (Rds w R T cap ts (fun w' v x => IsEx (From w.heap.size) w' x v) (oneP ts (f + 1) deep k)) := by
    have HR := hide h
    have HDP := hide hd
    have hdi : (8 : Int) < (deep : Int) := by omega
    clear h hd
    go_enter Tryd.func84, Tryd.ntmps84
    go_wp2_with fail
    refine (wrong_at 4 HR.out).mono ?_
    rintro e w1 ⟨A, rfl, hA, hb1⟩
    have HA := hide hA
    have HB1 := hide hb1
    clear hA hb1
    go_wp2_with fail
    exact ⟨rfl, Rds.bad (by simp only [oneP, if_pos HDP.out]) (Kept.of HB1.out) HA.out⟩

set_option maxRecDepth 100000 in
set_option maxHeartbeats 6400000 in
theorem one_not (f : Nat) (ih : OneOK f) {w : World} {R T cap : Nat} {ts : List Tok} {deep k : Nat} (h : Rd w R T cap ts k) (hd : ¬ 8 < deep) (h1 : (tx ts k == [110, 111, 116]) = true) (hout : oneP ts (f + 1) deep k ≠ .out) :
    Calls Tryd.prog 84 #[.pointer (some ⟨R, 0, none⟩), .int .i64 deep] w (Rds w R T cap ts (fun w' v x => IsEx (From w.heap.size) w' x v) (oneP ts (f + 1) deep k)) := by
    have q2 := fld2
    have q0 := fld0
    have HR := hide h
    have HDP := hide hd
    have hdi : ¬ (8 : Int) < (deep : Int) := by omega
    have hdb : deep ≤ 8 := by omega
    have H1 := hide h1
    have HNO : Hid (oneP ts f (deep + 1) (k + 1) ≠ .out) := fun e => hout (by simp only [oneP, if_neg hd, h1, if_true, e, Res.bind])
    have IH := hide ih
    clear h1 hout ih
    clear h hd
    go_enter Tryd.func84, Tryd.ntmps84
    go_wp2_with fail
    refine (now_at HR.out).mono ?_
    rintro e w0 ⟨rfl, hb0⟩
    have HD0 := hide (HR.out.below hb0)
    have HK0 := hide (Kept.of (R := R) hb0)
    clear hb0
    go_wp2_with fail
    refine (yes_at [110, 111, 116] (by decide) HD0.out H1.out).mono ?_
    rintro e w1 ⟨rfl, hd1, hk1⟩
    have HD1 := hide hd1
    have HK1 := hide (HK0.out.trans hk1)
    clear hd1 hk1
    go_wp2_with fail
    rw [show ((deep : Int) + 1) = ((deep + 1 : Nat) : Int) by omega]
    refine (IH.out w1 R T cap ts (deep + 1) (k + 1) HD1.out (by omega) HNO.out).mono ?_
    rintro e w2 h2
    rcases h2.cases with ⟨er2, p2, A2, hr2, rfl, hA2, hk2⟩ | ⟨a2, k2, v2, hr2, rfl, hv2, hd2, hk2⟩
    · have Hr2 := hide hr2
      have HA2 := hide hA2
      have HK2 := hide (HK1.out.trans hk2)
      clear h2 hr2 hA2 hk2
      go_wp2_with fail
      exact ⟨rfl, Rds.bad (by simp only [oneP, if_neg HDP.out, H1.out, if_true, Hr2.out, Res.bind]) HK2.out HA2.out⟩
    · have Hr2 := hide hr2
      have HD2 := hide hd2
      have HK2 := hide (HK1.out.trans hk2)
      obtain ⟨Q2, rfl⟩ := hv2.ptr
      have HV2 := hide hv2
      clear hv2
      clear h2 hr2 hd2 hk2
      go_wp2_with fail
      go_ret
      exact Rds.ok (a := Ex.not (tk ts k).pos a2) (k' := k2) (by simp only [oneP, if_neg HDP.out, H1.out, if_true, Hr2.out, Res.bind]) (HK2.out.alloc _) (HD2.out.below (below_alloc _ _)) ⟨_, _, rfl, HK2.out.size, blk_new _ _, (HV2.out.low HK1.out.size).below (below_alloc _ _)⟩

set_option maxRecDepth 100000 in
set_option maxHeartbeats 6400000 in
theorem one_paren (f : Nat) (ih : TwoOK f) {w : World} {R T cap : Nat} {ts : List Tok} {deep k : Nat} (h : Rd w R T cap ts k) (hd : ¬ 8 < deep) (h1 : (tx ts k == [110, 111, 116]) = false) (h2 : (tx ts k == [40]) = true) (hout : oneP ts (f + 1) deep k ≠ .out) :
    Calls Tryd.prog 84 #[.pointer (some ⟨R, 0, none⟩), .int .i64 deep] w (Rds w R T cap ts (fun w' v x => IsEx (From w.heap.size) w' x v) (oneP ts (f + 1) deep k)) := by
    have q2 := fld2
    have q0 := fld0
    have HR := hide h
    have HDP := hide hd
    have hdi : ¬ (8 : Int) < (deep : Int) := by omega
    have hdb : deep ≤ 8 := by omega
    have H1 := hide h1
    have H2 := hide h2
    have HNO : Hid (twoP ts f 1 (deep + 1) (k + 1) ≠ .out) := fun e => hout (by simp only [oneP, if_neg hd, h1, h2, Bool.false_eq_true, if_false, if_true, e, Res.bind])
    have IH := hide ih
    clear h1 h2 hout ih
    clear h hd
    go_enter Tryd.func84, Tryd.ntmps84
    go_wp2_with fail
    refine (now_at HR.out).mono ?_
    rintro e w0 ⟨rfl, hb0⟩
    have HD0 := hide (HR.out.below hb0)
    have HK0 := hide (Kept.of (R := R) hb0)
    clear hb0
    go_wp2_with fail
    refine (no_at [110, 111, 116] HD0.out H1.out).mono ?_
    rintro e w1 ⟨rfl, hd1, hk1⟩
    have HD1 := hide hd1
    have HK1 := hide (HK0.out.trans hk1)
    clear hd1 hk1
    go_wp2_with fail
    refine (yes_at [40] (by decide) HD1.out H2.out).mono ?_
    rintro e w2 ⟨rfl, hd2, hk2⟩
    have HD2 := hide hd2
    have HK2 := hide (HK1.out.trans hk2)
    clear hd2 hk2
    go_wp2_with fail
    rw [show ((deep : Int) + 1) = ((deep + 1 : Nat) : Int) by omega]
    refine (IH.out w2 R T cap ts 1 (deep + 1) (k + 1) HD2.out (by omega) (by omega) (by omega) HNO.out).mono ?_
    rintro e w3 h3
    rcases h3.cases with ⟨er3, p3, A3, hr3, rfl, hA3, hk3⟩ | ⟨a3, k3, v3, hr3, rfl, hv3, hd3, hk3⟩
    · have Hr3 := hide hr3
      have HA3 := hide hA3
      have HK3 := hide (HK2.out.trans hk3)
      clear h3 hr3 hA3 hk3
      go_wp2_with fail
      exact ⟨rfl, Rds.bad (by simp only [oneP, if_neg HDP.out, H1.out, H2.out, Bool.false_eq_true, if_false, if_true, Hr3.out, Res.bind]) HK3.out HA3.out⟩
    · have Hr3 := hide hr3
      have HD3 := hide hd3
      have HK3 := hide (HK2.out.trans hk3)
      have HV3 := hide hv3
      clear hv3
      clear h3 hr3 hd3 hk3
      go_wp2_with fail
      refine (need_at [41] (by decide) HD3.out).mono ?_
      rintro e w4 h4
      rcases h4.cases with ⟨er4, p4, A4, hr4, rfl, hA4, hk4⟩ | ⟨a4, k4, v4, hr4, rfl, hv4, hd4, hk4⟩
      · have Hr4 := hide hr4
        have HA4 := hide hA4
        have HK4 := hide (HK3.out.trans hk4)
        clear h4 hr4 hA4 hk4
        go_wp2_with fail
        exact ⟨rfl, Rds.bad (by simp only [oneP, if_neg HDP.out, H1.out, H2.out, Bool.false_eq_true, if_false, if_true, Hr3.out, Hr4.out, Res.bind]) HK4.out HA4.out⟩
      · have Hr4 := hide hr4
        have HD4 := hide hd4
        have HK4 := hide (HK3.out.trans hk4)
        subst hv4
        have HK34 := hide hk4
        clear h4 hr4 hd4 hk4
        go_wp2_with fail
        go_ret
        exact Rds.ok (a := a3) (k' := k4) (by simp only [oneP, if_neg HDP.out, H1.out, H2.out, Bool.false_eq_true, if_false, if_true, Hr3.out, Hr4.out, Res.bind]) HK4.out HD4.out ((HV3.out.low HK2.out.size).kept HK34.out HR.out.Rlt)

set_option maxRecDepth 100000 in
set_option maxHeartbeats 6400000 in
theorem one_true (f : Nat) {w : World} {R T cap : Nat} {ts : List Tok} {deep k : Nat} (h : Rd w R T cap ts k) (hd : ¬ 8 < deep) (h1 : (tx ts k == [110, 111, 116]) = false) (h2 : (tx ts k == [40]) = false) (h3 : (tx ts k == [116, 114, 117, 101]) = true) :
    Calls Tryd.prog 84 #[.pointer (some ⟨R, 0, none⟩), .int .i64 deep] w (Rds w R T cap ts (fun w' v x => IsEx (From w.heap.size) w' x v) (oneP ts (f + 1) deep k)) := by
    have q2 := fld2
    have q0 := fld0
    have HR := hide h
    have HDP := hide hd
    have hdi : ¬ (8 : Int) < (deep : Int) := by omega
    have hdb : deep ≤ 8 := by omega
    have H1 := hide h1
    have H2 := hide h2
    have H3 := hide h3
    clear h1 h2 h3
    clear h hd
    go_enter Tryd.func84, Tryd.ntmps84
    go_wp2_with fail
    refine (now_at HR.out).mono ?_
    rintro e w0 ⟨rfl, hb0⟩
    have HD0 := hide (HR.out.below hb0)
    have HK0 := hide (Kept.of (R := R) hb0)
    clear hb0
    go_wp2_with fail
    refine (no_at [110, 111, 116] HD0.out H1.out).mono ?_
    rintro e w1 ⟨rfl, hd1, hk1⟩
    have HD1 := hide hd1
    have HK1 := hide (HK0.out.trans hk1)
    clear hd1 hk1
    go_wp2_with fail
    refine (no_at [40] HD1.out H2.out).mono ?_
    rintro e w2 ⟨rfl, hd2, hk2⟩
    have HD2 := hide hd2
    have HK2 := hide (HK1.out.trans hk2)
    clear hd2 hk2
    go_wp2_with fail
    refine (yes_at [116, 114, 117, 101] (by decide) HD2.out H3.out).mono ?_
    rintro e w3 ⟨rfl, hd3, hk3⟩
    have HD3 := hide hd3
    have HK3 := hide (HK2.out.trans hk3)
    clear hd3 hk3
    go_wp2_with fail
    go_ret
    exact Rds.ok (a := Ex.num (tk ts k).pos 1 1) (k' := k + 1) (by simp only [oneP, if_neg HDP.out, H1.out, H2.out, H3.out, Bool.false_eq_true, if_false, if_true]) (HK3.out.alloc _) (HD3.out.below (below_alloc _ _)) ⟨_, rfl, HK3.out.size, blk_new _ _⟩

set_option maxRecDepth 100000 in
set_option maxHeartbeats 6400000 in
theorem one_false (f : Nat) {w : World} {R T cap : Nat} {ts : List Tok} {deep k : Nat} (h : Rd w R T cap ts k) (hd : ¬ 8 < deep) (h1 : (tx ts k == [110, 111, 116]) = false) (h2 : (tx ts k == [40]) = false) (h3 : (tx ts k == [116, 114, 117, 101]) = false) (h4 : (tx ts k == [102, 97, 108, 115, 101]) = true) :
    Calls Tryd.prog 84 #[.pointer (some ⟨R, 0, none⟩), .int .i64 deep] w (Rds w R T cap ts (fun w' v x => IsEx (From w.heap.size) w' x v) (oneP ts (f + 1) deep k)) := by
    have q2 := fld2
    have q0 := fld0
    have HR := hide h
    have HDP := hide hd
    have hdi : ¬ (8 : Int) < (deep : Int) := by omega
    have hdb : deep ≤ 8 := by omega
    have H1 := hide h1
    have H2 := hide h2
    have H3 := hide h3
    have H4 := hide h4
    clear h1 h2 h3 h4
    clear h hd
    go_enter Tryd.func84, Tryd.ntmps84
    go_wp2_with fail
    refine (now_at HR.out).mono ?_
    rintro e w0 ⟨rfl, hb0⟩
    have HD0 := hide (HR.out.below hb0)
    have HK0 := hide (Kept.of (R := R) hb0)
    clear hb0
    go_wp2_with fail
    refine (no_at [110, 111, 116] HD0.out H1.out).mono ?_
    rintro e w1 ⟨rfl, hd1, hk1⟩
    have HD1 := hide hd1
    have HK1 := hide (HK0.out.trans hk1)
    clear hd1 hk1
    go_wp2_with fail
    refine (no_at [40] HD1.out H2.out).mono ?_
    rintro e w2 ⟨rfl, hd2, hk2⟩
    have HD2 := hide hd2
    have HK2 := hide (HK1.out.trans hk2)
    clear hd2 hk2
    go_wp2_with fail
    refine (no_at [116, 114, 117, 101] HD2.out H3.out).mono ?_
    rintro e w3 ⟨rfl, hd3, hk3⟩
    have HD3 := hide hd3
    have HK3 := hide (HK2.out.trans hk3)
    clear hd3 hk3
    go_wp2_with fail
    refine (yes_at [102, 97, 108, 115, 101] (by decide) HD3.out H4.out).mono ?_
    rintro e w4 ⟨rfl, hd4, hk4⟩
    have HD4 := hide hd4
    have HK4 := hide (HK3.out.trans hk4)
    clear hd4 hk4
    go_wp2_with fail
    go_ret
    exact Rds.ok (a := Ex.num (tk ts k).pos 0 1) (k' := k + 1) (by simp only [oneP, if_neg HDP.out, H1.out, H2.out, H3.out, H4.out, Bool.false_eq_true, if_false, if_true]) (HK4.out.alloc _) (HD4.out.below (below_alloc _ _)) ⟨_, rfl, HK4.out.size, blk_new _ _⟩

set_option maxRecDepth 100000 in
set_option maxHeartbeats 6400000 in
theorem one_num (f : Nat) {w : World} {R T cap : Nat} {ts : List Tok} {deep k : Nat} (h : Rd w R T cap ts k) (hd : ¬ 8 < deep) (h1 : (tx ts k == [110, 111, 116]) = false) (h2 : (tx ts k == [40]) = false) (h3 : (tx ts k == [116, 114, 117, 101]) = false) (h4 : (tx ts k == [102, 97, 108, 115, 101]) = false) (h5 : (tk ts k).kind = 2) :
    Calls Tryd.prog 84 #[.pointer (some ⟨R, 0, none⟩), .int .i64 deep] w (Rds w R T cap ts (fun w' v x => IsEx (From w.heap.size) w' x v) (oneP ts (f + 1) deep k)) := by
    have q2 := fld2
    have q0 := fld0
    have HR := hide h
    have HDP := hide hd
    have hdi : ¬ (8 : Int) < (deep : Int) := by omega
    have hdb : deep ≤ 8 := by omega
    have H1 := hide h1
    have H2 := hide h2
    have H3 := hide h3
    have H4 := hide h4
    clear h1 h2 h3 h4
    have H5 := hide h5
    have hk2 : ((tk ts k).kind : Int) = 2 := by omega
    clear h5
    clear h hd
    go_enter Tryd.func84, Tryd.ntmps84
    go_wp2_with fail
    refine (now_at HR.out).mono ?_
    rintro e w0 ⟨rfl, hb0⟩
    have HD0 := hide (HR.out.below hb0)
    have HK0 := hide (Kept.of (R := R) hb0)
    clear hb0
    go_wp2_with fail
    refine (no_at [110, 111, 116] HD0.out H1.out).mono ?_
    rintro e w1 ⟨rfl, hd1, hk1⟩
    have HD1 := hide hd1
    have HK1 := hide (HK0.out.trans hk1)
    clear hd1 hk1
    go_wp2_with fail
    refine (no_at [40] HD1.out H2.out).mono ?_
    rintro e w2 ⟨rfl, hd2, hk2⟩
    have HD2 := hide hd2
    have HK2 := hide (HK1.out.trans hk2)
    clear hd2 hk2
    go_wp2_with fail
    refine (no_at [116, 114, 117, 101] HD2.out H3.out).mono ?_
    rintro e w3 ⟨rfl, hd3, hk3⟩
    have HD3 := hide hd3
    have HK3 := hide (HK2.out.trans hk3)
    clear hd3 hk3
    go_wp2_with fail
    refine (no_at [102, 97, 108, 115, 101] HD3.out H4.out).mono ?_
    rintro e w4 ⟨rfl, hd4, hk4⟩
    have HD4 := hide hd4
    have HK4 := hide (HK3.out.trans hk4)
    clear hd4 hk4
    go_wp2_with fail
    refine (now_at HD4.out).mono ?_
    rintro e w5 ⟨rfl, hb5⟩
    have HD5 := hide (HD4.out.below hb5)
    have HK5 := hide (HK4.out.below hb5)
    clear hb5
    rw [hk2]
    go_wp2_with fail
    refine (byte_at HD5.out).mono ?_
    rintro e w6 h6
    rcases h6.cases with ⟨er6, p6, A6, hr6, rfl, hA6, hk6⟩ | ⟨a6, k6, v6, hr6, rfl, hv6, hd6, hk6⟩
    · have Hr6 := hide hr6
      have HA6 := hide hA6
      have HK6 := hide (HK5.out.trans hk6)
      clear h6 hr6 hA6 hk6
      go_wp2_with fail
      exact ⟨rfl, Rds.bad (by simp only [oneP, if_neg HDP.out, H1.out, H2.out, H3.out, H4.out, Bool.false_eq_true, if_false, if_pos H5.out, Hr6.out, Res.bind]) HK6.out HA6.out⟩
    · have Hr6 := hide hr6
      have HD6 := hide hd6
      have HK6 := hide (HK5.out.trans hk6)
      subst hv6
      clear h6 hr6 hd6 hk6
      go_wp2_with fail
      go_ret
      exact Rds.ok (a := Ex.num (tk ts k).pos a6 2) (k' := k6) (by simp only [oneP, if_neg HDP.out, H1.out, H2.out, H3.out, H4.out, Bool.false_eq_true, if_false, if_pos H5.out, Hr6.out, Res.bind]) (HK6.out.alloc _) (HD6.out.below (below_alloc _ _)) ⟨_, rfl, HK6.out.size, blk_new _ _⟩

set_option maxRecDepth 100000 in
set_option maxHeartbeats 6400000 in
theorem one_name (f : Nat) {w : World} {R T cap : Nat} {ts : List Tok} {deep k : Nat} (h : Rd w R T cap ts k) (hd : ¬ 8 < deep) (h1 : (tx ts k == [110, 111, 116]) = false) (h2 : (tx ts k == [40]) = false) (h3 : (tx ts k == [116, 114, 117, 101]) = false) (h4 : (tx ts k == [102, 97, 108, 115, 101]) = false) (h5 : ¬ (tk ts k).kind = 2) :
    Calls Tryd.prog 84 #[.pointer (some ⟨R, 0, none⟩), .int .i64 deep] w (Rds w R T cap ts (fun w' v x => IsEx (From w.heap.size) w' x v) (oneP ts (f + 1) deep k)) := by
    have q2 := fld2
    have q0 := fld0
    have HR := hide h
    have HDP := hide hd
    have hdi : ¬ (8 : Int) < (deep : Int) := by omega
    have hdb : deep ≤ 8 := by omega
    have H1 := hide h1
    have H2 := hide h2
    have H3 := hide h3
    have H4 := hide h4
    clear h1 h2 h3 h4
    have H5 := hide h5
    have hk2 : (((tk ts k).kind : Int) == 2) = false := by simp; omega
    clear h5
    clear h hd
    go_enter Tryd.func84, Tryd.ntmps84
    go_wp2_with fail
    refine (now_at HR.out).mono ?_
    rintro e w0 ⟨rfl, hb0⟩
    have HD0 := hide (HR.out.below hb0)
    have HK0 := hide (Kept.of (R := R) hb0)
    clear hb0
    go_wp2_with fail
    refine (no_at [110, 111, 116] HD0.out H1.out).mono ?_
    rintro e w1 ⟨rfl, hd1, hk1⟩
    have HD1 := hide hd1
    have HK1 := hide (HK0.out.trans hk1)
    clear hd1 hk1
    go_wp2_with fail
    refine (no_at [40] HD1.out H2.out).mono ?_
    rintro e w2 ⟨rfl, hd2, hk2⟩
    have HD2 := hide hd2
    have HK2 := hide (HK1.out.trans hk2)
    clear hd2 hk2
    go_wp2_with fail
    refine (no_at [116, 114, 117, 101] HD2.out H3.out).mono ?_
    rintro e w3 ⟨rfl, hd3, hk3⟩
    have HD3 := hide hd3
    have HK3 := hide (HK2.out.trans hk3)
    clear hd3 hk3
    go_wp2_with fail
    refine (no_at [102, 97, 108, 115, 101] HD3.out H4.out).mono ?_
    rintro e w4 ⟨rfl, hd4, hk4⟩
    have HD4 := hide hd4
    have HK4 := hide (HK3.out.trans hk4)
    clear hd4 hk4
    go_wp2_with fail
    refine (now_at HD4.out).mono ?_
    rintro e w5 ⟨rfl, hb5⟩
    have HD5 := hide (HD4.out.below hb5)
    have HK5 := hide (HK4.out.below hb5)
    clear hb5
    go_wp2_with fail
    refine (name_at HD5.out).mono ?_
    rintro e w6 h6
    rcases h6.cases with ⟨er6, p6, A6, hr6, rfl, hA6, hk6⟩ | ⟨a6, k6, v6, hr6, rfl, hv6, hd6, hk6⟩
    · have Hr6 := hide hr6
      have HA6 := hide hA6
      have HK6 := hide (HK5.out.trans hk6)
      clear h6 hr6 hA6 hk6
      go_wp2_with fail
      exact ⟨rfl, Rds.bad (by simp only [oneP, if_neg HDP.out, H1.out, H2.out, H3.out, H4.out, Bool.false_eq_true, if_false, if_neg H5.out, Hr6.out, Res.bind]) HK6.out HA6.out⟩
    · have Hr6 := hide hr6
      have HD6 := hide hd6
      have HK6 := hide (HK5.out.trans hk6)
      subst hv6
      clear h6 hr6 hd6 hk6
      go_wp2_with fail
      have HD7 := hide (HD6.out.below (below_alloc w6 (.cells #[.int .i64 2, .int .i64 (tk ts k).pos, .int .i64 0, .int .i64 0, .string a6, .string ⟨#[]⟩, .string ⟨#[]⟩, .pointer none, .pointer none] 50)))
      have HX7 := hide (blk_new w6 (.cells #[.int .i64 2, .int .i64 (tk ts k).pos, .int .i64 0, .int .i64 0, .string a6, .string ⟨#[]⟩, .string ⟨#[]⟩, .pointer none, .pointer none] 50))
      have HK7 := hide (HK6.out.alloc (.cells #[.int .i64 2, .int .i64 (tk ts k).pos, .int .i64 0, .int .i64 0, .string a6, .string ⟨#[]⟩, .string ⟨#[]⟩, .pointer none, .pointer none] 50))
      have HNE := hide (new_ne HD6.out)
      have HTN := hide (show w6.heap.size ≠ T by have := HD6.out.Tlt; omega)
      have HBIG := hide (show 5 ≤ w6.heap.size by have := HD6.out.Rlt; have := HD6.out.big; omega)
      have HGE := hide HK6.out.size
      generalize (w6.alloc (.cells #[.int .i64 2, .int .i64 (tk ts k).pos, .int .i64 0, .int .i64 0, .string a6, .string ⟨#[]⟩, .string ⟨#[]⟩, .pointer none, .pointer none] 50)) = w7 at *
      generalize w6.heap.size = B at *
      cases h8 : (tx ts k6 == [46]) with
      | false =>
        have H8 := hide h8
        clear h8
        refine (no_at [46] HD7.out H8.out).mono ?_
        rintro e w8 ⟨rfl, hd8, hk8⟩
        have HD8 := hide hd8
        have HK8 := hide (HK7.out.trans hk8)
        have HX8 := hide (hk8.blk HX7.out HNE.out)
        clear hd8 hk8
        go_wp2_with fail
        go_ret
        exact Rds.ok (a := Ex.name (tk ts k).pos a6) (k' := k6) (by simp only [oneP, if_neg HDP.out, H1.out, H2.out, H3.out, H4.out, Bool.false_eq_true, if_false, if_neg H5.out, Hr6.out, Res.bind, H8.out]) HK8.out HD8.out ⟨_, rfl, HGE.out, HX8.out⟩
      | true =>
        have H8 := hide h8
        clear h8
        refine (yes_at [46] (by decide) HD7.out H8.out).mono ?_
        rintro e w8 ⟨rfl, hd8, hk8⟩
        have HD8 := hide hd8
        have HK8 := hide (HK7.out.trans hk8)
        have HX8 := hide (hk8.blk HX7.out HNE.out)
        clear hd8 hk8
        go_wp2_with fail
        refine (name_at HD8.out).mono ?_
        rintro e w9 h9
        rcases h9.cases with ⟨er9, p9, A9, hr9, rfl, hA9, hk9⟩ | ⟨a9, k9, v9, hr9, rfl, hv9, hd9, hk9⟩
        · have Hr9 := hide hr9
          have HA9 := hide hA9
          have HK9 := hide (HK8.out.trans hk9)
          clear h9 hr9 hA9 hk9
          go_wp2_with fail
          exact ⟨rfl, Rds.bad (by simp only [oneP, if_neg HDP.out, H1.out, H2.out, H3.out, H4.out, Bool.false_eq_true, if_false, if_neg H5.out, Hr6.out, H8.out, if_true, Hr9.out, Res.bind]) HK9.out HA9.out⟩
        · have Hr9 := hide hr9
          have HD9 := hide hd9
          have HK9 := hide (HK8.out.trans hk9)
          subst hv9
          have HX9 := hide (hk9.blk HX8.out HNE.out)
          clear h9 hr9 hd9 hk9
          have x0 : w9.cell? ⟨B, 0, none⟩ = some (.int .i64 2) := by rw [blk_cell HX9.out]; rfl
          have x5 : w9.cell? ⟨B, 5, none⟩ = some (.string ⟨#[]⟩) := by rw [blk_cell HX9.out]; rfl
          have xf : ∀ i, w9.frozen? ⟨B, i, none⟩ = false := blk_frozen HX9.out
          go_wp2_with fail
          go_ret
          refine Rds.ok (k' := k9) (a := Ex.field (tk ts k).pos a6 a9) (by simp only [oneP, if_neg HDP.out, H1.out, H2.out, H3.out, H4.out, Bool.false_eq_true, if_false, if_neg H5.out, Hr6.out, Res.bind, H8.out, if_true, Hr9.out]) ((HK9.out.new 0 _ HGE.out).new 5 _ HGE.out) ((HD9.out.other 0 _ HNE.out HTN.out HBIG.out).other 5 _ HNE.out HTN.out HBIG.out) ⟨_, rfl, HGE.out, ?_⟩
          rw [blk_set (blk_set HX9.out 0 _) 5 _]
          rfl

theorem one_ok (f : Nat) (i1 : OneOK f) (i2 : TwoOK f) : OneOK (f + 1) := by
  intro w R T cap ts deep k h hd9 hout
  by_cases hd : 8 < deep
  · exact one_deep f h hd hd9
  cases h1 : (tx ts k == [110, 111, 116]) with
  | true => exact one_not f i1 h hd h1 hout
  | false =>
  cases h2 : (tx ts k == [40]) with
  | true => exact one_paren f i2 h hd h1 h2 hout
  | false =>
  cases h3 : (tx ts k == [116, 114, 117, 101]) with
  | true => exact one_true f h hd h1 h2 h3
  | false =>
  cases h4 : (tx ts k == [102, 97, 108, 115, 101]) with
  | true => exact one_false f h hd h1 h2 h3 h4
  | false =>
  by_cases h5 : (tk ts k).kind = 2
  · exact one_num f h hd h1 h2 h3 h4 h5
  · exact one_name f h hd h1 h2 h3 h4 h5
end Go.Proofs.YtiimnnancblbkaaDoor
