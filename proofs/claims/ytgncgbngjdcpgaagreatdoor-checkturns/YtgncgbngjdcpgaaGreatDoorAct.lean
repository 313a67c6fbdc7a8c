/-
  CONTRACT of act: a statement that sets or calls.
-/
import Derived.Test.YtgncgbngjdcpgaaGreatDoorArgs2
import Derived.Test.YtgncgbngjdcpgaaGreatDoorStm
namespace Go.Proofs.YtgncgbngjdcpgaaGreatDoor
open Go.RowKit

theorem set_other (w : World) {S b : Nat} (i : Nat) (v : Value) (h : b ≠ S) : (w.setCell ⟨S, i, none⟩ v).heap[b]? = w.heap[b]? := Below.heap_setCell w ⟨S, i, none⟩ v b h
def put8 (w : World) (S : Nat) (c0 c1 c2 c3 c4 c5 c6 c7 : Value) : World := (((((((w.setCell ⟨S, 0, none⟩ c0).setCell ⟨S, 1, none⟩ c1).setCell ⟨S, 2, none⟩ c2).setCell ⟨S, 3, none⟩ c3).setCell ⟨S, 4, none⟩ c4).setCell ⟨S, 5, none⟩ c5).setCell ⟨S, 6, none⟩ c6).setCell ⟨S, 7, none⟩ c7
theorem put8_other (w : World) {S b : Nat} (c0 c1 c2 c3 c4 c5 c6 c7 : Value) (h : b ≠ S) : (put8 w S c0 c1 c2 c3 c4 c5 c6 c7).heap[b]? = w.heap[b]? := by
  unfold put8
  simp only [set_other _ _ _ h]
theorem Rd.put8 {w : World} {R T cap k : Nat} {ts : List Tok} (h : Rd w R T cap ts k) {S : Nat} (c0 c1 c2 c3 c4 c5 c6 c7 : Value) (hR : S ≠ R) (hT : S ≠ T) (hg : 8 ≤ S) : Rd (put8 w S c0 c1 c2 c3 c4 c5 c6 c7) R T cap ts k :=
  (((((((h.other 0 _ hR hT hg).other 1 _ hR hT hg).other 2 _ hR hT hg).other 3 _ hR hT hg).other 4 _ hR hT hg).other 5 _ hR hT hg).other 6 _ hR hT hg).other 7 _ hR hT hg
theorem Kept.put8 {R : Nat} {w w1 : World} (h : Kept R w w1) {S : Nat} (c0 c1 c2 c3 c4 c5 c6 c7 : Value) (hS : w.heap.size ≤ S) : Kept R w (put8 w1 S c0 c1 c2 c3 c4 c5 c6 c7) :=
  (((((((h.new 0 _ hS).new 1 _ hS).new 2 _ hS).new 3 _ hS).new 4 _ hS).new 5 _ hS).new 6 _ hS).new 7 _ hS

/-- what act and branch hand back -/
abbrev StRep (w : World) : World → Value → St → Prop := fun w' v s => ∃ c : List Value, v = .agg c.toArray ∧ IsSt (From w.heap.size) w' s c

set_option maxRecDepth 100000 in
set_option maxHeartbeats 6400000 in
theorem act_at (f : Nat) {w : World} {R T cap : Nat} {ts : List Tok} {k : Nat} (h : Rd w R T cap ts k) (hout : actP ts f k ≠ .out) :
    Calls Tryz.prog 122 #[.pointer (some ⟨R, 0, none⟩)] w (Rds w R T cap ts (StRep w) (actP ts f k)) := by
  have q2 := fld2
  have HR := hide h
  have HO := hide hout
  have HSR := hide (show w.heap.size ≠ R by have := h.Rlt; omega)
  have HST := hide (show w.heap.size ≠ T by have := h.Tlt; omega)
  have HSB := hide (show 8 ≤ w.heap.size by have := h.Rlt; have := h.big; omega)
  have HWS := hide (Nat.le_refl w.heap.size)
  clear h hout
  go_enter Tryz.func122, Tryz.ntmps122
  go_wp2_with fail
  have HN0 := hide (blk_new w (.cells #[.int .i64 0, .int .i64 0, .string ⟨#[]⟩, .pointer none, .slice none 0 0, .int .i64 0, .slice none 0 0, .slice none 0 0] 99))
  have HB0 := hide (below_alloc w (.cells #[.int .i64 0, .int .i64 0, .string ⟨#[]⟩, .pointer none, .slice none 0 0, .int .i64 0, .slice none 0 0, .slice none 0 0] 99))
  have HD0 := hide (HR.out.below HB0.out)
  generalize (w.alloc (.cells #[.int .i64 0, .int .i64 0, .string ⟨#[]⟩, .pointer none, .slice none 0 0, .int .i64 0, .slice none 0 0, .slice none 0 0] 99)) = w0 at *
  refine (now_at HD0.out).mono ?_
  rintro e w1 ⟨rfl, hb1⟩
  have HD1 := hide (HD0.out.below hb1)
  have HB1 := hide (Below.step HB0.out hb1)
  have HS1 := hide (Below.blk hb1 HN0.out)
  clear hb1
  go_wp2_with fail
  refine (name_at HD1.out).mono ?_
  rintro e w2 h2
  rcases h2.cases with ⟨er2, p2, A2, hr2, rfl, hA2, hk2⟩ | ⟨a2, k2, v2, hr2, rfl, hv2, hd2, hk2⟩
  · have Hr2 := hide hr2
    have HA2 := hide hA2
    have HK2 := hide ((Kept.of HB1.out).trans hk2)
    clear h2 hr2 hA2 hk2
    go_wp2_with fail
    exact ⟨rfl, Rds.bad (by simp only [actP, Hr2.out, Res.bind]) HK2.out HA2.out⟩
  · have Hr2 := hide hr2
    have HD2 := hide hd2
    have HK2 := hide ((Kept.of HB1.out).trans hk2)
    subst hv2
    have HX2 := hide hk2
    clear h2 hr2 hd2 hk2
    go_wp2_with fail
    have HS2 := hide (HX2.out.blk HS1.out HSR.out)
    have HVR := hide (show w2.heap.size ≠ R by have := HD2.out.Rlt; omega)
    have HVT := hide (show w2.heap.size ≠ T by have := HD2.out.Tlt; omega)
    have HVB := hide (show 8 ≤ w2.heap.size by have := HD2.out.Rlt; have := HD2.out.big; omega)
    have HSV := hide (show w.heap.size ≠ w2.heap.size by have := blk_lt HS2.out; omega)
    have HN3 := hide (blk_new w2 (.cells #[.int .i64 0, .int .i64 (tk ts k).pos, .string a2, .pointer none, .slice none 0 0, .int .i64 0, .slice none 0 0, .slice none 0 0] 99))
    have HD3 := hide (HD2.out.below (below_alloc w2 (.cells #[.int .i64 0, .int .i64 (tk ts k).pos, .string a2, .pointer none, .slice none 0 0, .int .i64 0, .slice none 0 0, .slice none 0 0] 99)))
    have HK3 := hide (HK2.out.alloc (.cells #[.int .i64 0, .int .i64 (tk ts k).pos, .string a2, .pointer none, .slice none 0 0, .int .i64 0, .slice none 0 0, .slice none 0 0] 99))
    have HS3 := hide (Below.blk (below_alloc w2 (.cells #[.int .i64 0, .int .i64 (tk ts k).pos, .string a2, .pointer none, .slice none 0 0, .int .i64 0, .slice none 0 0, .slice none 0 0] 99)) HS2.out)
    have HWV := hide HK2.out.size
    have HVL := hide (blk_lt HN3.out)
    have HSL := hide (blk_lt HS3.out)
    generalize (w2.alloc (.cells #[.int .i64 0, .int .i64 (tk ts k).pos, .string a2, .pointer none, .slice none 0 0, .int .i64 0, .slice none 0 0, .slice none 0 0] 99)) = w3 at *
    generalize w2.heap.size = V at *
    cases h4 : (tx ts k2 == [58, 61]) with
    | true =>
      have H4 := hide h4
      clear h4
      have HOE : Hid (twoP ts f 1 0 (k2 + 1) ≠ .out) := fun e => HO.out (by simp only [actP, Hr2.out, Res.bind, H4.out, if_true, e])
      refine (yes_at [58, 61] (by decide) HD3.out H4.out).mono ?_
      rintro e w4 ⟨rfl, hd4, hk4⟩
      have HD4 := hide hd4
      have HK4 := hide (HK3.out.trans hk4)
      have HV4 := hide (hk4.blk HN3.out HVR.out)
      have HS4 := hide (hk4.blk HS3.out HSR.out)
      have HVL4 := hide (blk_lt HV4.out)
      have HSL4 := hide (blk_lt HS4.out)
      have HRL4 := hide hd4.Rlt
      clear hd4 hk4
      go_wp2_with fail
      refine (expr_at f HD4.out HOE.out).mono ?_
      rintro e w5 h5
      rcases h5.cases with ⟨er5, p5, A5, hr5, rfl, hA5, hk5⟩ | ⟨a5, k5, v5, hr5, rfl, hv5, hd5, hk5⟩
      · have Hr5 := hide hr5
        have HA5 := hide hA5
        have HK5 := hide (HK4.out.trans hk5)
        clear h5 hr5 hA5 hk5
        go_wp2_with fail
        exact ⟨rfl, Rds.bad (by simp only [actP, Hr2.out, H4.out, if_true, Hr5.out, Res.bind]) HK5.out HA5.out⟩
      · have Hr5 := hide hr5
        have HD5 := hide hd5
        have HK5 := hide (HK4.out.trans hk5)
        obtain ⟨Q5, rfl⟩ := hv5.ptr
        have HX5 := hide hv5
        have HV5 := hide (hk5.blk HV4.out HVR.out)
        have HS5 := hide (hk5.blk HS4.out HSR.out)
        clear hv5
        clear h5 hr5 hd5 hk5
        have HV6 := hide (blk_set (blk_set HV5.out 0 (.int .i64 1)) 3 (.pointer (some ⟨Q5, 0, none⟩)))
        have HS6 : Hid (((w5.setCell ⟨V, 0, none⟩ (.int .i64 1)).setCell ⟨V, 3, none⟩ (.pointer (some ⟨Q5, 0, none⟩))).heap[w.heap.size]? = _) := (set_other _ 3 _ HSV.out).trans ((set_other _ 0 _ HSV.out).trans HS5.out)
        have HD6 := hide ((HD5.out.other 0 (.int .i64 1) HVR.out HVT.out HVB.out).other 3 (.pointer (some ⟨Q5, 0, none⟩)) HVR.out HVT.out HVB.out)
        have HK6 := hide ((HK5.out.new 0 (.int .i64 1) HWV.out).new 3 (.pointer (some ⟨Q5, 0, none⟩)) HWV.out)
        have HX6 := hide (HX5.out.same (w' := (w5.setCell ⟨V, 0, none⟩ (.int .i64 1)).setCell ⟨V, 3, none⟩ (.pointer (some ⟨Q5, 0, none⟩))) fun b h1 _ => (set_other _ 3 _ (by have : w4.heap.size ≤ b := h1; have := HVL4.out; omega)).trans (set_other _ 0 _ (by have : w4.heap.size ≤ b := h1; have := HVL4.out; omega)))
        have vv0 : w5.cell? ⟨V, 0, none⟩ = some (.int .i64 0) := by rw [blk_cell HV5.out]; rfl
        have vv3 : w5.cell? ⟨V, 3, none⟩ = some (.pointer none) := by rw [blk_cell HV5.out]; rfl
        have vvf : ∀ i, w5.frozen? ⟨V, i, none⟩ = false := blk_frozen HV5.out
        go_wp2_with fail
        clear vv0 vv3 vvf
        generalize (w5.setCell ⟨V, 0, none⟩ (.int .i64 1)).setCell ⟨V, 3, none⟩ (.pointer (some ⟨Q5, 0, none⟩)) = w6 at *
        refine (need_at [59] (by decide) HD6.out).mono ?_
        rintro e w7 h7
        rcases h7.cases with ⟨er7, p7, A7, hr7, rfl, hA7, hk7⟩ | ⟨a7, k7, v7, hr7, rfl, hv7, hd7, hk7⟩
        · have Hr7 := hide hr7
          have HA7 := hide hA7
          have HK7 := hide (HK6.out.trans hk7)
          clear h7 hr7 hA7 hk7
          go_wp2_with fail
          exact ⟨rfl, Rds.bad (by simp only [actP, Hr2.out, H4.out, if_true, Hr5.out, Hr7.out, Res.bind]) HK7.out HA7.out⟩
        · have Hr7 := hide hr7
          have HD7 := hide hd7
          have HK7 := hide (HK6.out.trans hk7)
          subst hv7
          have HV7 := hide (hk7.blk HV6.out HVR.out)
          have HS7 := hide (hk7.blk HS6.out HSR.out)
          have HX7 := hide (HX6.out.kept hk7 HRL4.out)
          clear h7 hr7 hd7 hk7
          have v0 : w7.cell? ⟨V, 0, none⟩ = some (.int .i64 1) := by rw [blk_cell HV7.out]; rfl
          have v1 : w7.cell? ⟨V, 1, none⟩ = some (.int .i64 (tk ts k).pos) := by rw [blk_cell HV7.out]; rfl
          have v2 : w7.cell? ⟨V, 2, none⟩ = some (.string a2) := by rw [blk_cell HV7.out]; rfl
          have v3 : w7.cell? ⟨V, 3, none⟩ = some (.pointer (some ⟨Q5, 0, none⟩)) := by rw [blk_cell HV7.out]; rfl
          have v4 : w7.cell? ⟨V, 4, none⟩ = some (.slice none 0 0) := by rw [blk_cell HV7.out]; rfl
          have v5 : w7.cell? ⟨V, 5, none⟩ = some (.int .i64 0) := by rw [blk_cell HV7.out]; rfl
          have v6 : w7.cell? ⟨V, 6, none⟩ = some (.slice none 0 0) := by rw [blk_cell HV7.out]; rfl
          have v7 : w7.cell? ⟨V, 7, none⟩ = some (.slice none 0 0) := by rw [blk_cell HV7.out]; rfl
          have vf : ∀ i, w7.frozen? ⟨V, i, none⟩ = false := blk_frozen HV7.out
          have s0 : w7.cell? ⟨w.heap.size, 0, none⟩ = some (.int .i64 0) := by rw [blk_cell HS7.out]; rfl
          have s1 : w7.cell? ⟨w.heap.size, 1, none⟩ = some (.int .i64 0) := by rw [blk_cell HS7.out]; rfl
          have s2 : w7.cell? ⟨w.heap.size, 2, none⟩ = some (.string ⟨#[]⟩) := by rw [blk_cell HS7.out]; rfl
          have s3 : w7.cell? ⟨w.heap.size, 3, none⟩ = some (.pointer none) := by rw [blk_cell HS7.out]; rfl
          have s4 : w7.cell? ⟨w.heap.size, 4, none⟩ = some (.slice none 0 0) := by rw [blk_cell HS7.out]; rfl
          have s5 : w7.cell? ⟨w.heap.size, 5, none⟩ = some (.int .i64 0) := by rw [blk_cell HS7.out]; rfl
          have s6 : w7.cell? ⟨w.heap.size, 6, none⟩ = some (.slice none 0 0) := by rw [blk_cell HS7.out]; rfl
          have s7 : w7.cell? ⟨w.heap.size, 7, none⟩ = some (.slice none 0 0) := by rw [blk_cell HS7.out]; rfl
          have sf : ∀ i, w7.frozen? ⟨w.heap.size, i, none⟩ = false := blk_frozen HS7.out
          go_wp2_with fail
          refine bodyPost_ret (v := .agg #[.int .i64 1, .int .i64 (tk ts k).pos, .string a2, .pointer (some ⟨Q5, 0, none⟩), .slice none 0 0, .int .i64 0, .slice none 0 0, .slice none 0 0]) (by simp [results, Tryz.results122, go_sem, s0, s1, s2, s3, s4, s5, s6, s7]) rfl ?_
          refine Rds.ok (a := St.set (tk ts k).pos a2 a5) (k' := k7) (by simp only [actP, Hr2.out, H4.out, if_true, Hr5.out, Hr7.out, Res.bind]) (Kept.put8 HK7.out _ _ _ _ _ _ _ _ HWS.out) (Rd.put8 HD7.out _ _ _ _ _ _ _ _ HSR.out HST.out HSB.out) ⟨[.int .i64 1, .int .i64 (tk ts k).pos, .string a2, .pointer (some ⟨Q5, 0, none⟩), .slice none 0 0, .int .i64 0, .slice none 0 0, .slice none 0 0], rfl, ?_⟩
          simp only [IsSt]
          refine ⟨_, rfl, ?_⟩
          exact (HX7.out.same fun b h1 _ => put8_other _ _ _ _ _ _ _ _ _ (by have : w4.heap.size ≤ b := h1; have := HSL4.out; omega)).low HK4.out.size
    | false =>
      have H4 := hide h4
      clear h4
      refine (no_at [58, 61] HD3.out H4.out).mono ?_
      rintro e w4 ⟨rfl, hd4, hk4⟩
      have HD4 := hide hd4
      have HK4 := hide (HK3.out.trans hk4)
      have HV4 := hide (hk4.blk HN3.out HVR.out)
      have HS4 := hide (hk4.blk HS3.out HSR.out)
      clear hd4 hk4
      go_wp2_with fail
      refine (need_at [40] (by decide) HD4.out).mono ?_
      rintro e w5 h5
      rcases h5.cases with ⟨er5, p5, A5, hr5, rfl, hA5, hk5⟩ | ⟨a5, k5, v5, hr5, rfl, hv5, hd5, hk5⟩
      · have Hr5 := hide hr5
        have HA5 := hide hA5
        have HK5 := hide (HK4.out.trans hk5)
        clear h5 hr5 hA5 hk5
        go_wp2_with fail
        exact ⟨rfl, Rds.bad (by simp only [actP, Hr2.out, H4.out, Bool.false_eq_true, if_false, Hr5.out, Res.bind]) HK5.out HA5.out⟩
      · have Hr5 := hide hr5
        have HD5 := hide hd5
        have HK5 := hide (HK4.out.trans hk5)
        subst hv5
        have HV5 := hide (hk5.blk HV4.out HVR.out)
        have HS5 := hide (hk5.blk HS4.out HSR.out)
        clear h5 hr5 hd5 hk5
        have HOA : Hid (argsP ts f k5 [] ≠ .out) := fun e => HO.out (by simp only [actP, Hr2.out, Res.bind, H4.out, Bool.false_eq_true, if_false, Hr5.out, e])
        have HV6 := hide (blk_set HV5.out 0 (.int .i64 3))
        have HS6 : Hid ((w5.setCell ⟨V, 0, none⟩ (.int .i64 3)).heap[w.heap.size]? = _) := (set_other _ 0 _ HSV.out).trans HS5.out
        have HD6 := hide (HD5.out.other 0 (.int .i64 3) HVR.out HVT.out HVB.out)
        have HK6 := hide (HK5.out.new 0 (.int .i64 3) HWV.out)
        have vv0 : w5.cell? ⟨V, 0, none⟩ = some (.int .i64 0) := by rw [blk_cell HV5.out]; rfl
        have vvf : ∀ i, w5.frozen? ⟨V, i, none⟩ = false := blk_frozen HV5.out
        go_wp2_with fail
        clear vv0 vvf
        generalize (w5.setCell ⟨V, 0, none⟩ (.int .i64 3)) = w6 at *
        have HVL6 := hide (blk_lt HV6.out)
        have HSL6 := hide (blk_lt HS6.out)
        have HRL6 := hide HD6.out.Rlt
        refine (args_at f HD6.out HOA.out).mono ?_
        rintro e w7 h7
        rcases h7.cases with ⟨er7, p7, A7, hr7, rfl, hA7, hk7⟩ | ⟨a7, k7, v7, hr7, rfl, hv7, hd7, hk7⟩
        · have Hr7 := hide hr7
          have HA7 := hide hA7
          have HK7 := hide (HK6.out.trans hk7)
          clear h7 hr7 hA7 hk7
          go_wp2_with fail
          exact ⟨rfl, Rds.bad (by simp only [actP, Hr2.out, H4.out, Bool.false_eq_true, if_false, Hr5.out, Hr7.out, Res.bind]) HK7.out HA7.out⟩
        · have Hr7 := hide hr7
          have HD7 := hide hd7
          have HK7 := hide (HK6.out.trans hk7)
          obtain ⟨vl, rfl, hx7⟩ := hv7
          obtain ⟨sa, sc, rfl⟩ := (show ∃ (a : Option Addr) (c : Nat), vl = .slice a a7.1.length c from by obtain ⟨vs, hr, _⟩ := hx7; exact hr.val)
          have HX7 := hide hx7
          have HV7 := hide (hk7.blk HV6.out HVR.out)
          have HS7 := hide (hk7.blk HS6.out HSR.out)
          clear hx7
          clear h7 hr7 hd7 hk7
          have HV8 := hide (blk_set (blk_set HV7.out 4 (.slice sa a7.1.length sc)) 5 (.int .i64 a7.2))
          have HS8 : Hid (((w7.setCell ⟨V, 4, none⟩ (.slice sa a7.1.length sc)).setCell ⟨V, 5, none⟩ (.int .i64 a7.2)).heap[w.heap.size]? = _) := (set_other _ 5 _ HSV.out).trans ((set_other _ 4 _ HSV.out).trans HS7.out)
          have HD8 := hide ((HD7.out.other 4 (.slice sa a7.1.length sc) HVR.out HVT.out HVB.out).other 5 (.int .i64 a7.2) HVR.out HVT.out HVB.out)
          have HK8 := hide ((HK7.out.new 4 (.slice sa a7.1.length sc) HWV.out).new 5 (.int .i64 a7.2) HWV.out)
          have HX8 := hide (HX7.out.same (w' := (w7.setCell ⟨V, 4, none⟩ (.slice sa a7.1.length sc)).setCell ⟨V, 5, none⟩ (.int .i64 a7.2)) fun b h1 _ => (set_other _ 5 _ (by have : w6.heap.size ≤ b := h1; have := HVL6.out; omega)).trans (set_other _ 4 _ (by have : w6.heap.size ≤ b := h1; have := HVL6.out; omega)))
          have vv4 : w7.cell? ⟨V, 4, none⟩ = some (.slice none 0 0) := by rw [blk_cell HV7.out]; rfl
          have vv5 : w7.cell? ⟨V, 5, none⟩ = some (.int .i64 0) := by rw [blk_cell HV7.out]; rfl
          have vvf : ∀ i, w7.frozen? ⟨V, i, none⟩ = false := blk_frozen HV7.out
          go_wp2_with fail
          clear vv4 vv5 vvf
          generalize ((w7.setCell ⟨V, 4, none⟩ (.slice sa a7.1.length sc)).setCell ⟨V, 5, none⟩ (.int .i64 a7.2)) = w8 at *
          refine (need_at [41] (by decide) HD8.out).mono ?_
          rintro e w9 h9
          rcases h9.cases with ⟨er9, p9, A9, hr9, rfl, hA9, hk9⟩ | ⟨a9, k9, v9, hr9, rfl, hv9, hd9, hk9⟩
          · have Hr9 := hide hr9
            have HA9 := hide hA9
            have HK9 := hide (HK8.out.trans hk9)
            clear h9 hr9 hA9 hk9
            go_wp2_with fail
            exact ⟨rfl, Rds.bad (by simp only [actP, Hr2.out, H4.out, Bool.false_eq_true, if_false, Hr5.out, Hr7.out, Hr9.out, Res.bind]) HK9.out HA9.out⟩
          · have Hr9 := hide hr9
            have HD9 := hide hd9
            have HK9 := hide (HK8.out.trans hk9)
            subst hv9
            have HV9 := hide (hk9.blk HV8.out HVR.out)
            have HS9 := hide (hk9.blk HS8.out HSR.out)
            have HX9 := hide (HX8.out.same fun b h1 h2 => hk9.block b h2 (by have : w6.heap.size ≤ b := h1; have := HRL6.out; omega))
            clear h9 hr9 hd9 hk9
            go_wp2_with fail
            refine (need_at [59] (by decide) HD9.out).mono ?_
            rintro e w10 h10
            rcases h10.cases with ⟨er10, p10, A10, hr10, rfl, hA10, hk10⟩ | ⟨a10, k10, v10, hr10, rfl, hv10, hd10, hk10⟩
            · have Hr10 := hide hr10
              have HA10 := hide hA10
              have HK10 := hide (HK9.out.trans hk10)
              clear h10 hr10 hA10 hk10
              go_wp2_with fail
              exact ⟨rfl, Rds.bad (by simp only [actP, Hr2.out, H4.out, Bool.false_eq_true, if_false, Hr5.out, Hr7.out, Hr9.out, Hr10.out, Res.bind]) HK10.out HA10.out⟩
            · have Hr10 := hide hr10
              have HD10 := hide hd10
              have HK10 := hide (HK9.out.trans hk10)
              subst hv10
              have HV10 := hide (hk10.blk HV9.out HVR.out)
              have HS10 := hide (hk10.blk HS9.out HSR.out)
              have HX10 := hide (HX9.out.same fun b h1 h2 => hk10.block b h2 (by have : w6.heap.size ≤ b := h1; have := HRL6.out; omega))
              clear h10 hr10 hd10 hk10
              have v0 : w10.cell? ⟨V, 0, none⟩ = some (.int .i64 3) := by rw [blk_cell HV10.out]; rfl
              have v1 : w10.cell? ⟨V, 1, none⟩ = some (.int .i64 (tk ts k).pos) := by rw [blk_cell HV10.out]; rfl
              have v2 : w10.cell? ⟨V, 2, none⟩ = some (.string a2) := by rw [blk_cell HV10.out]; rfl
              have v3 : w10.cell? ⟨V, 3, none⟩ = some (.pointer none) := by rw [blk_cell HV10.out]; rfl
              have v4 : w10.cell? ⟨V, 4, none⟩ = some (.slice sa a7.1.length sc) := by rw [blk_cell HV10.out]; rfl
              have v5 : w10.cell? ⟨V, 5, none⟩ = some (.int .i64 a7.2) := by rw [blk_cell HV10.out]; rfl
              have v6 : w10.cell? ⟨V, 6, none⟩ = some (.slice none 0 0) := by rw [blk_cell HV10.out]; rfl
              have v7 : w10.cell? ⟨V, 7, none⟩ = some (.slice none 0 0) := by rw [blk_cell HV10.out]; rfl
              have vf : ∀ i, w10.frozen? ⟨V, i, none⟩ = false := blk_frozen HV10.out
              have s0 : w10.cell? ⟨w.heap.size, 0, none⟩ = some (.int .i64 0) := by rw [blk_cell HS10.out]; rfl
              have s1 : w10.cell? ⟨w.heap.size, 1, none⟩ = some (.int .i64 0) := by rw [blk_cell HS10.out]; rfl
              have s2 : w10.cell? ⟨w.heap.size, 2, none⟩ = some (.string ⟨#[]⟩) := by rw [blk_cell HS10.out]; rfl
              have s3 : w10.cell? ⟨w.heap.size, 3, none⟩ = some (.pointer none) := by rw [blk_cell HS10.out]; rfl
              have s4 : w10.cell? ⟨w.heap.size, 4, none⟩ = some (.slice none 0 0) := by rw [blk_cell HS10.out]; rfl
              have s5 : w10.cell? ⟨w.heap.size, 5, none⟩ = some (.int .i64 0) := by rw [blk_cell HS10.out]; rfl
              have s6 : w10.cell? ⟨w.heap.size, 6, none⟩ = some (.slice none 0 0) := by rw [blk_cell HS10.out]; rfl
              have s7 : w10.cell? ⟨w.heap.size, 7, none⟩ = some (.slice none 0 0) := by rw [blk_cell HS10.out]; rfl
              have sf : ∀ i, w10.frozen? ⟨w.heap.size, i, none⟩ = false := blk_frozen HS10.out
              go_wp2_with fail
              refine bodyPost_ret (v := .agg #[.int .i64 3, .int .i64 (tk ts k).pos, .string a2, .pointer none, .slice sa a7.1.length sc, .int .i64 a7.2, .slice none 0 0, .slice none 0 0]) (by simp [results, Tryz.results122, go_sem, s0, s1, s2, s3, s4, s5, s6, s7]) rfl ?_
              refine Rds.ok (a := St.call (tk ts k).pos a2 a7.1 a7.2) (k' := k10) (by simp only [actP, Hr2.out, H4.out, Bool.false_eq_true, if_false, Hr5.out, Hr7.out, Hr9.out, Hr10.out, Res.bind]) (Kept.put8 HK10.out _ _ _ _ _ _ _ _ HWS.out) (Rd.put8 HD10.out _ _ _ _ _ _ _ _ HSR.out HST.out HSB.out) ⟨[.int .i64 3, .int .i64 (tk ts k).pos, .string a2, .pointer none, .slice sa a7.1.length sc, .int .i64 a7.2, .slice none 0 0, .slice none 0 0], rfl, ?_⟩
              simp only [IsSt]
              refine ⟨_, rfl, ?_⟩
              exact (HX10.out.same fun b h1 _ => put8_other _ _ _ _ _ _ _ _ _ (by have : w6.heap.size ≤ b := h1; have := HSL6.out; omega)).imp fun b _ h => Nat.le_trans HK6.out.size h

end Go.Proofs.YtgncgbngjdcpgaaGreatDoor
