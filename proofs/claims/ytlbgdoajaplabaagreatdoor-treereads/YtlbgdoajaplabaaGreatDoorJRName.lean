/-
  CONTRACTS of name, byte, marks of the reference's reader.
  CONTRACTS of byte and marks of the reference's reader.
-/
import Derived.Test.YtlbgdoajaplabaaGreatDoorJRSyn
import Derived.Test.YtlbgdoajaplabaaGreatDoorShelf
namespace Go.Proofs.YtlbgdoajaplabaaGreatDoor
open Go.RowKit
set_option linter.unusedSimpArgs false
set_option linter.unusedVariables false

theorem keptL_blank : ∀ w ∈ keptL, ∀ c ∈ w, c ≠ 32 := by decide
theorem bare_list (t : ByteArray) : (⟨#[32]⟩ ++ t ++ ⟨#[32]⟩ : ByteArray).data.toList = 32 :: (t.data.toList ++ [32]) := by
  rw [ByteArray.data_append, ByteArray.data_append, Array.toList_append, Array.toList_append]
  rfl
/-- is a word kept? -/
theorem rkept_at (t : ByteArray) (ht : ∀ c ∈ t.data.toList, c ≠ 32) (w : World) (hm : ∃ m : Int, w.cell? ⟨6, 0, none⟩ = some (.int .i64 m)) (s : ByteArray) (hs : s.data.toList = hay keptL) :
    Calls Tryz.prog 28 #[.string s, .string (⟨#[32]⟩ ++ t ++ ⟨#[32]⟩)] w fun e w' => e = .returned (.bool (keptL.contains t.toList)) ∧ w' = w := by
  obtain ⟨m, hm⟩ := hm
  have hz : s.size < 4294967281 := by
    have : s.size = s.data.toList.length := by rw [Array.length_toList]; rfl
    rw [this, hs]; decide
  refine (Tryz.strings_Contains s _ m w hz hm).mono ?_
  rintro e w' ⟨rfl, rfl⟩
  refine ⟨ret_bool ?_, rfl⟩
  rw [hs, bare_list, contains_hay keptL t.data.toList keptL_blank ht, ByteArray.toList_eq]

theorem rk_no {ts : List Tok} (hf : FitR ts) (k n : Nat) (hn : n ≠ 0) (h3 : n ≤ 3) (h : (tk ts k).kind ≠ n) : (((rk (tk ts k) : Nat) : Int) != (n : Int)) = true := by
  rw [bne, rk_is hf k n hn h3]; simp [h]
theorem rk_yes {ts : List Tok} (hf : FitR ts) (k n : Nat) (hn : n ≠ 0) (h3 : n ≤ 3) (h : (tk ts k).kind = n) : ((rk (tk ts k) : Nat) : Int) = (n : Int) := by
  have := rk_is hf k n hn h3
  rw [h] at this
  simpa using this
/-- a local token -/
abbrev tokObj (t : Tok) : Obj := .cells #[.int .i64 (rk t : Nat), .string t.text, .int .i64 t.pos] 54 (0, 0)

/-- a call that ended in a fault -/
theorem Rfs.bad {α : Type} {w : World} {R T : Nat} {ts : List Tok} {rep : World → Value → α → Prop} {sh : Value → Prop} {r : Res α} {w' : World} {er : Int} {p : Nat} {v : Value} (hr : r = .bad er p) (hk : Kept R w w') (hd : Rst w' R T ts (.bad er p)) (hv : sh v) :
    Rfs w R T ts rep sh r (.returned v) w' := by
  subst hr
  exact ⟨hk, hd, v, rfl, hv, fun a k' e => by cases e⟩
theorem Rfs.ok {α : Type} {w : World} {R T : Nat} {ts : List Tok} {rep : World → Value → α → Prop} {sh : Value → Prop} {r : Res α} {w' : World} {a : α} {k' : Nat} {v : Value} (hr : r = .ok a k') (hk : Kept R w w') (hd : Rr w' R T ts k' 0 (-1)) (hv : sh v) (hp : rep w' v a) :
    Rfs w R T ts rep sh r (.returned v) w' := by
  subst hr
  refine ⟨hk, hd, v, rfl, hv, fun b k'' e => ?_⟩
  cases e
  exact hp

set_option maxRecDepth 100000 in
set_option maxHeartbeats 3200000 in
theorem rname_at {w : World} {R T : Nat} {ts : List Tok} {k : Nat} (h : Rr w R T ts k 0 (-1)) :
    Calls Tryz.prog 70 #[.pointer (some ⟨R, 0, none⟩)] w (Rfs w R T ts (fun _ v s => v = .string s) (fun v => v = .string (tk ts k).text) (nameP ts k)) := by
  have HR := hide h
  have hne : w.heap.size ≠ R := by have := h.Rlt; omega
  by_cases h1 : (tk ts k).kind = 1
  · have hk1 : ((rk (tk ts k) : Nat) : Int) = 1 := rk_yes h.fit k 1 (by decide) (by decide) h1
    have hsz := h.fit.fit.small k h.lt
    have HK := hide (rkept_at (tk ts k).text (h.fit.blank k) (w.alloc (tokObj (tk ts k))) (h.below (below_alloc w _)).vars.max)
    have HM : Hid (k + 1 < ts.length) := hide (h.fit.fit.next k h.lt (by omega))
    obtain ⟨n, c, h0, _, _, r0, c0, c1, c2, _, _⟩ := h.cells
    have HA := hide (below_alloc w (tokObj (tk ts k)))
    have HN := hide (blk_new w (tokObj (tk ts k)))
    have HO : Hid (tokObj (tk ts k) = .cells #[.int .i64 1, .string (tk ts k).text, .int .i64 (tk ts k).pos] 54 (0, 0)) := hide (by unfold tokObj; rw [hk1])
    rw [HO.out] at HK HA HN
    clear h
    cases hq : keptL.contains (tk ts k).text.toList with
    | true =>
      have HW : Hid (nameP ts k = .bad 3 (tk ts k).pos) := hide (by simp only [nameP, isNm, hq, Bool.not_true, Bool.and_false, Bool.false_eq_true, if_false])
      rw [hq] at HK
      clear hq
      go_enter Tryz.func70, Tryz.ntmps70
      go_wp2_with fail
      refine (HK.out _ rfl).mono ?_
      rintro e w1 ⟨rfl, rfl⟩
      go_wp2_with fail
      refine (rfails_good 3 (HR.out.below HA.out)).mono ?_
      rintro e w2 ⟨rfl, hd, hk⟩
      have HD := hide hd
      have HK2 := hide (Kept.trans (Kept.of HA.out) hk)
      have y1 : w2.cell? ⟨w.heap.size, 1, none⟩ = some (.string (tk ts k).text) := by rw [blk_cell (hk.blk HN.out hne)]; rfl
      clear hd hk
      go_wp2_with fail
      refine (rok_at (r := .bad 3 (tk ts k).pos) ⟨k, HD.out⟩).mono ?_
      rintro e w3 ⟨rfl, hb⟩
      have HB := hide hb
      have y1 := (World.cell?_of_block (w := w2) (hb.block w.heap.size (cell_lt y1))).trans y1
      clear hb
      go_wp2_with fail
      go_ret
      exact Rfs.bad HW.out (HK2.out.below HB.out) ⟨k, HD.out.below HB.out⟩ rfl
    | false =>
      rw [hq] at HK
      have hi : isNm (tk ts k) = true := by simp only [isNm, hq, h1]; rfl
      by_cases hs : (tk ts k).text.size ≤ 12
      · have HW : Hid (nameP ts k = .ok (tk ts k).text (k + 1)) := hide (by simp only [nameP, hi, if_true, hs, if_false])
        have hs' : ¬ ((12 : Int) < ((tk ts k).text.size : Int)) := by omega
        clear hq hi
        go_enter Tryz.func70, Tryz.ntmps70
        go_wp2_with fail
        refine (HK.out _ rfl).mono ?_
        rintro e w1 ⟨rfl, rfl⟩
        go_wp2_with fail
        refine (rok_good (HR.out.below HA.out)).mono ?_
        rintro e w3 ⟨rfl, hb⟩
        have HB := hide (Below.step HA.out hb)
        have y1 : w3.cell? ⟨w.heap.size, 1, none⟩ = some (.string (tk ts k).text) := by rw [blk_cell (Below.blk hb HN.out)]; rfl
        obtain ⟨n, c, h0, hc, hn, r0, _, _, _, rf, hm⟩ := (HR.out.below HB.out).cells
        have HH := hide hm
        have r00 := rf 0
        have hm1 := HM.out
        have z1 : (w3.setCell ⟨R, 0, none⟩ (.slice (some ⟨T, k * 3 + 3, none⟩) (n - 1) (c - 1))).cell? ⟨w.heap.size, 1, none⟩ = some (.string (tk ts k).text) := (Kept.set (R := R) w3 0 _).cell y1 hne
        clear hb rf hm
        go_wp2_with fail
        go_ret
        exact Rfs.ok HW.out ((Kept.of HB.out).step 0 _) ((HR.out.below HB.out).next HM.out hn hc HH.out) rfl rfl
      · have HW : Hid (nameP ts k = .bad 4 (tk ts k).pos) := hide (by simp only [nameP, hi, if_true, hs, if_false])
        have hs' : ((12 : Int) < ((tk ts k).text.size : Int)) := by omega
        clear hq hi
        go_enter Tryz.func70, Tryz.ntmps70
        go_wp2_with fail
        refine (HK.out _ rfl).mono ?_
        rintro e w1 ⟨rfl, rfl⟩
        go_wp2_with fail
        refine (rfails_good 4 (HR.out.below HA.out)).mono ?_
        rintro e w2 ⟨rfl, hd, hk⟩
        have HD := hide hd
        have HK2 := hide (Kept.trans (Kept.of HA.out) hk)
        have y1 : w2.cell? ⟨w.heap.size, 1, none⟩ = some (.string (tk ts k).text) := by rw [blk_cell (hk.blk HN.out hne)]; rfl
        clear hd hk
        go_wp2_with fail
        refine (rok_at (r := .bad 4 (tk ts k).pos) ⟨k, HD.out⟩).mono ?_
        rintro e w3 ⟨rfl, hb⟩
        have HB := hide hb
        have y1 := (World.cell?_of_block (w := w2) (hb.block w.heap.size (cell_lt y1))).trans y1
        clear hb
        go_wp2_with fail
        go_ret
        exact Rfs.bad HW.out (HK2.out.below HB.out) ⟨k, HD.out.below HB.out⟩ rfl
  · have HW : Hid (nameP ts k = .bad 3 (tk ts k).pos) := hide (by simp [nameP, isNm, h1])
    have hk2 : (((rk (tk ts k) : Nat) : Int) != 1) = true := rk_no h.fit k 1 (by decide) (by decide) h1
    clear h1
    obtain ⟨n, c, h0, _, _, r0, c0, c1, c2, _, _⟩ := h.cells
    have HA := hide (below_alloc w (tokObj (tk ts k)))
    have HN := hide (blk_new w (tokObj (tk ts k)))
    clear h
    go_enter Tryz.func70, Tryz.ntmps70
    go_wp2_with fail
    refine (rfails_good 3 (HR.out.below HA.out)).mono ?_
    rintro e w2 ⟨rfl, hd, hk⟩
    have HD := hide hd
    have HK := hide (Kept.trans (Kept.of HA.out) hk)
    have y1 : w2.cell? ⟨w.heap.size, 1, none⟩ = some (.string (tk ts k).text) := by rw [blk_cell (hk.blk HN.out hne)]; rfl
    clear hd hk
    go_wp2_with fail
    refine (rok_at (r := .bad 3 (tk ts k).pos) ⟨k, HD.out⟩).mono ?_
    rintro e w3 ⟨rfl, hb⟩
    have HB := hide hb
    have y1 := (World.cell?_of_block (w := w2) (hb.block w.heap.size (cell_lt y1))).trans y1
    clear hb
    go_wp2_with fail
    go_ret
    exact Rfs.bad HW.out (HK.out.below HB.out) ⟨k, HD.out.below HB.out⟩ rfl
end Go.Proofs.YtlbgdoajaplabaaGreatDoor
namespace Go.Proofs.YtlbgdoajaplabaaGreatDoor
open Go.RowKit
set_option linter.unusedSimpArgs false
set_option linter.unusedVariables false

theorem bytes_below (w : World) (e : TypeId) (s : ByteArray) : Below w.heap.size w (Lib.bytesWorld w e s) :=
  ⟨rfl, rfl, rfl, by rw [Lib.bytesWorld_size]; omega, fun j hj => Lib.bytesWorld_at_old w e s j hj⟩
theorem text_ne {t : ByteArray} (h : 0 < t.size) : t.data.toList ≠ [] := by
  intro e
  have : t.size = t.data.toList.length := by rw [Array.length_toList]; rfl
  rw [this, e] at h
  simp at h

set_option maxRecDepth 100000 in
set_option maxHeartbeats 3200000 in
theorem rbyte_at {w : World} {R T : Nat} {ts : List Tok} {k : Nat} (h : Rr w R T ts k 0 (-1)) :
    Calls Tryz.prog 71 #[.pointer (some ⟨R, 0, none⟩)] w (Rfs w R T ts (fun _ v (n : Nat) => v = .int .i64 n) (fun v => ∃ n : Int, v = .int .i64 n) (byteP ts k)) := by
  have HR := hide h
  have hne : w.heap.size ≠ R := by have := h.Rlt; omega
  by_cases h1 : (tk ts k).kind = 2
  · have hk1 : ((rk (tk ts k) : Nat) : Int) = 2 := rk_yes h.fit k 2 (by decide) (by decide) h1
    have hsz := h.fit.fit.small k h.lt
    have HM : Hid (k + 1 < ts.length) := hide (h.fit.fit.next k h.lt (by omega))
    have hval := atoi_val (tk ts k).text.data.toList (text_ne (h.fit.pos k (by omega))) (h.fit.fit.digits k h.lt h1)
    obtain ⟨n, c, h0, _, _, r0, c0, c1, c2, _, _⟩ := h.cells
    have HA := hide (below_alloc w (tokObj (tk ts k)))
    have HN := hide (blk_new w (tokObj (tk ts k)))
    have HO : Hid (tokObj (tk ts k) = .cells #[.int .i64 2, .string (tk ts k).text, .int .i64 (tk ts k).pos] 54 (0, 0)) := hide (by unfold tokObj; rw [hk1])
    rw [HO.out] at HA HN
    have HV : Hid (tx ts k = (tk ts k).text.data.toList) := hide (ByteArray.toList_eq _)
    rcases hval with ⟨hv, hg⟩ | hv
    · have HW : Hid (byteP ts k = .bad 4 (tk ts k).pos) := hide (by unfold byteP; rw [if_pos h1, HV.out, if_neg (by omega)])
      obtain ⟨ev, he, h2⟩ := (h.below HA.out).vars.range
      have HT := hide (Tryz.strconv_Atoi_range (tk ts k).text (by omega) hv ev _ he h2)
      clear h he h2 hv hg
      go_enter Tryz.func71, Tryz.ntmps71
      go_wp2_with fail
      refine HT.out.mono ?_
      rintro e w1 ⟨N, rfl, hN, _, hb⟩
      have HB := hide (Below.step HA.out hb)
      clear hb
      go_wp2_with fail
      refine (rfails_good 4 (HR.out.below HB.out)).mono ?_
      rintro e w2 ⟨rfl, hd, hk⟩
      have HD := hide hd
      have HK2 := hide (Kept.trans (Kept.of HB.out) hk)
      clear hd hk
      go_wp2_with fail
      go_ret
      exact Rfs.bad HW.out HK2.out ⟨k, HD.out⟩ ⟨_, rfl⟩
    · have HT := hide (Tryz.strconv_Atoi_ok (tk ts k).text (by omega) _ hv)
      by_cases hg : valOf (tk ts k).text.data.toList ≤ 255
      · have HW : Hid (byteP ts k = .ok (valOf (tk ts k).text.data.toList) (k + 1)) := hide (by unfold byteP; rw [if_pos h1, HV.out, if_pos hg])
        generalize valOf (tk ts k).text.data.toList = val at *
        have hg' : ¬ ((255 : Int) < (val : Int)) := by omega
        clear h hv
        go_enter Tryz.func71, Tryz.ntmps71
        go_wp2_with fail
        refine (HT.out _).mono ?_
        rintro e w1 ⟨rfl, hw1⟩
        have HB : Hid (Below w.heap.size w w1) := by
          rcases hw1 with rfl | ⟨t, rfl⟩
          · exact HA.out
          · exact Below.step HA.out (bytes_below _ _ _)
        clear hw1
        go_wp2_with fail
        refine (rok_good (HR.out.below HB.out)).mono ?_
        rintro e w3 ⟨rfl, hb⟩
        have HB3 := hide (Below.step HB.out hb)
        obtain ⟨n, c, h0, hc, hn, r0, _, _, _, rf, hm⟩ := (HR.out.below HB3.out).cells
        have HH := hide hm
        have r00 := rf 0
        have hm1 := HM.out
        clear hb rf hm
        go_wp2_with fail
        go_ret
        exact Rfs.ok HW.out ((Kept.of HB3.out).step 0 _) ((HR.out.below HB3.out).next HM.out hn hc HH.out) ⟨_, rfl⟩ rfl
      · have HW : Hid (byteP ts k = .bad 4 (tk ts k).pos) := hide (by unfold byteP; rw [if_pos h1, HV.out, if_neg hg])
        generalize valOf (tk ts k).text.data.toList = val at *
        have hg' : ((255 : Int) < (val : Int)) := by omega
        clear h hv
        go_enter Tryz.func71, Tryz.ntmps71
        go_wp2_with fail
        refine (HT.out _).mono ?_
        rintro e w1 ⟨rfl, hw1⟩
        have HB : Hid (Below w.heap.size w w1) := by
          rcases hw1 with rfl | ⟨t, rfl⟩
          · exact HA.out
          · exact Below.step HA.out (bytes_below _ _ _)
        clear hw1
        go_wp2_with fail
        refine (rfails_good 4 (HR.out.below HB.out)).mono ?_
        rintro e w2 ⟨rfl, hd, hk⟩
        have HD := hide hd
        have HK2 := hide (Kept.trans (Kept.of HB.out) hk)
        clear hd hk
        go_wp2_with fail
        go_ret
        exact Rfs.bad HW.out HK2.out ⟨k, HD.out⟩ ⟨_, rfl⟩
  · have HW : Hid (byteP ts k = .bad 3 (tk ts k).pos) := hide (by unfold byteP; rw [if_neg h1])
    have hk2 : (((rk (tk ts k) : Nat) : Int) != 2) = true := rk_no h.fit k 2 (by decide) (by decide) h1
    clear h1
    obtain ⟨n, c, h0, _, _, r0, c0, c1, c2, _, _⟩ := h.cells
    have HA := hide (below_alloc w (tokObj (tk ts k)))
    clear h
    go_enter Tryz.func71, Tryz.ntmps71
    go_wp2_with fail
    refine (rfails_good 3 (HR.out.below HA.out)).mono ?_
    rintro e w2 ⟨rfl, hd, hk⟩
    have HD := hide hd
    have HK := hide (Kept.trans (Kept.of HA.out) hk)
    clear hd hk
    go_wp2_with fail
    go_ret
    exact Rfs.bad HW.out HK.out ⟨k, HD.out⟩ ⟨_, rfl⟩

theorem ridx0 (a b c d e : Value) (w : World) : (Instr.index 157 (.agg #[a, b, c, d, e]) (.int .i64 0)).run Tryz.prog w = .ok a w := by kernel_rfl
theorem ridx1 (a b c d e : Value) (w : World) : (Instr.index 157 (.agg #[a, b, c, d, e]) (.int .i64 1)).run Tryz.prog w = .ok b w := by kernel_rfl
theorem ridx2 (a b c d e : Value) (w : World) : (Instr.index 157 (.agg #[a, b, c, d, e]) (.int .i64 2)).run Tryz.prog w = .ok c w := by kernel_rfl
theorem ridx3 (a b c d e : Value) (w : World) : (Instr.index 157 (.agg #[a, b, c, d, e]) (.int .i64 3)).run Tryz.prog w = .ok d w := by kernel_rfl
theorem ridx4 (a b c d e : Value) (w : World) : (Instr.index 157 (.agg #[a, b, c, d, e]) (.int .i64 4)).run Tryz.prog w = .ok e w := by kernel_rfl
set_option maxRecDepth 100000 in
set_option maxHeartbeats 3200000 in
theorem rmarks_at (lv : Nat) (hl : lv ≤ 4) (w : World) : Calls Tryz.prog 83 #[.int .i64 lv] w fun e w' => (∃ s : ByteArray, e = .returned (.string s) ∧ s.data.toList = hay (marksW lv)) ∧ w' = w := by
  have i0 := ridx0
  have i1 := ridx1
  have i2 := ridx2
  have i3 := ridx3
  have i4 := ridx4
  rcases (show lv = 0 ∨ lv = 1 ∨ lv = 2 ∨ lv = 3 ∨ lv = 4 by omega) with rfl | rfl | rfl | rfl | rfl <;>
  · go_enter Tryz.func83, Tryz.ntmps83
    go_wp2_with fail
    go_ret
    exact ⟨⟨_, rfl, by decide⟩, rfl⟩
end Go.Proofs.YtlbgdoajaplabaaGreatDoor
