/-
  THE WALK of ScanBlocks.
-/
import Derived.Test.YtpblellbffmolaaGreatDoorBlP
import Derived.Test.YtpblellbffmolaaGreatDoorText
set_option linter.unusedSimpArgs false
set_option linter.unusedVariables false
namespace Go.Proofs.YtpblellbffmolaaGreatDoor
open Go.RowKit

theorem bbody_er (n : Nat) : erL (bBody n) = bBody n := by kernel_rfl
theorem bes {k : Nat} {body : List St} (h : erL body = bBody k) (g : List Int) (q : Vs × Ks) : stepS (bDs, body) g q = stepS (bDs, bBody k) g q := by
  unfold stepS
  exact do_er (h.trans (bbody_er k).symm) _
theorem bba_ext {a b : ByteArray} (h : a.data.toList = b.data.toList) : a = b := ByteArray.ext (Array.toList_inj.1 h)
theorem bba_app (a b : ByteArray) : (a ++ b).data.toList = a.data.toList ++ b.data.toList := by rw [ByteArray.data_append, Array.toList_append]
theorem btext (n : Nat) (D : ByteArray) (h : D = ⟨(Lib.decDigits n).toArray⟩) : (⟨bA.toArray⟩ ++ D ++ ⟨bB.toArray⟩ ++ D ++ ⟨bC.toArray⟩ : ByteArray) = ⟨(bTxt n).toArray⟩ := by
  subst h
  apply bba_ext
  simp only [bba_app, bTxt]
theorem small20 (n : Int) : ∃ k : Nat, k < 20 ∧ wrap64 ((IntKind.u64.wrap n).tmod 20) = (k : Int) := by
  have hz : 0 ≤ IntKind.u64.wrap n := by
    simp [IntKind.wrap, IntKind.signed, IntKind.bits]
    omega
  generalize IntKind.u64.wrap n = z at *
  have h1 : z.tmod 20 = z % 20 := Int.tmod_eq_emod_of_nonneg hz
  refine ⟨(z % 20).toNat, by omega, ?_⟩
  rw [h1]
  unfold wrap64
  omega
set_option maxRecDepth 100000 in
set_option maxHeartbeats 1600000 in
theorem pick20 (n : Int) (k : Nat) (h : wrap64 ((IntKind.u64.wrap n).tmod 20) = (k : Int)) (w : World) : Calls Tryz.prog 6 #[.int .i64 n, .int .i64 20] w fun e w' => e = .returned (.int .i64 k) ∧ w' = w := by
  go_enter Tryz.func6, Tryz.ntmps6
  go_wp2_with fail
  go_ret
  exact ⟨by rw [← h]; rfl, rfl⟩
set_option maxRecDepth 100000 in
set_option maxHeartbeats 3200000 in
theorem blocks_many (n : Int) (ga : Option Addr) (m gc : Nat) (w : World) (h : 60 < m) : Calls Tryz.prog 3 #[.slice ga m gc, .int .i64 n] w fun e w' => e = .returned (.bool true) ∧ Below w.heap.size w w' := by
  have hi : (60 : Int) < (m : Int) := by omega
  go_enter Tryz.func3, Tryz.ntmps3
  go_wp2_with fail
  go_ret
  exact ⟨rfl, Below.refl _ _⟩

set_option maxRecDepth 100000 in
set_option maxHeartbeats 12800000 in
theorem blocks_pos (n : Int) (k kk : Nat) (ds : List De) (body : List St) (T : List UInt8) (hk20 : k < 20) (hk1 : 0 < k) (hpk : wrap64 ((IntKind.u64.wrap n).tmod 20) = (k : Int)) (hpar : parse2 ⟨T.toArray⟩ = .ok (ds, body) kk) (hts : T.length ≤ 1000) (hfine : Fine (ds, body)) (hds : ds = bDs) (hes : ∀ g q, stepS (ds, body) g q = stepS (bDs, bBody k) g q) (htx : ∀ D : ByteArray, D = ⟨(Lib.decDigits k).toArray⟩ → (⟨bA.toArray⟩ ++ D ++ ⟨bB.toArray⟩ ++ D ++ ⟨bC.toArray⟩ : ByteArray) = ⟨T.toArray⟩) (asks : List Int) (ga : Option Addr) (gc : Nat) (w : World) (h60 : ¬ 60 < asks.length) (hlie : Lies (fun c => c < w.heap.size) w ga (intsC asks)) (hv : Vars w) (ht : Tab w) (h14 : 8 ≤ w.heap.size) :
    Calls Tryz.prog 3 #[.slice ga asks.length gc, .int .i64 n] w fun e w' => e = .returned (.bool true) ∧ Below w.heap.size w w' := by
  have hi : ¬ (60 : Int) < (asks.length : Int) := by omega
  have HV := hide hv
  have HT := hide ht
  have HLI := hide hlie
  have HTM := hide (timed_at w hv h14)
  have HPK := hide (fun W => pick20 n k hpk W)
  have HF := hide hfine
  have HES := hide hes
  have HDS := hide hds
  have HTX := hide htx
  have HPA : Hid (∀ s W, s = ⟨T.toArray⟩ → Vars W → 8 ≤ W.heap.size → Calls Tryz.prog 7 #[.string s] W (Parsed W (Res.ok (ds, body) kk))) := fun s W e h1 h2 => by
    subst e
    exact hpar ▸ parse_at ⟨T.toArray⟩ W (by rw [str_sz]; omega) h1 h2
  have HIT := hide (fun W h => Tryz.strconv_Itoa (k : Int) (by omega) (by omega) W h)
  have HV9 : Hid (Lib.itoa (k : Int) = Lib.decDigits k) := by
    show _ = _
    have : ¬ (k : Int) < 0 := by omega
    simp [Lib.itoa, this]
  have hdl := dec_len (show k ≤ 255 by omega)
  clear hv ht hlie hpk hpar hfine hes hds htx hts
  go_enter Tryz.func3, Tryz.ntmps3
  go_wp2_with fail
  refine HTM.out.mono ?_
  rintro e w1 ⟨rfl, hb1⟩
  have HB1 := hide hb1
  have HV1 := hide (HV.out.below hb1)
  have HT1 := hide (HT.out.below hb1 h14)
  have H141 := hide (Nat.le_trans h14 hb1.size)
  clear hb1
  go_wp2_with fail
  refine (HPK.out _).mono ?_
  rintro e w1' ⟨rfl, hw⟩
  obtain rfl : w1 = w1' := hw.symm
  clear hw
  go_wp2_with fail
  refine (HIT.out w1 HT1.out).mono ?_
  rintro e w2 ⟨rfl, q, os, rfl⟩
  have hb2 := below_grow w1 q os
  have HB2 := hide hb2
  have HV2 := hide (HV1.out.below hb2)
  have HT2 := hide (HT1.out.below hb2 H141.out)
  have H142 := hide (Nat.le_trans H141.out hb2.size)
  generalize Sort.grow (w1.drewN q) os = w2 at *
  rw [HV9.out]
  generalize hD : (⟨(Lib.decDigits k).toArray⟩ : ByteArray) = D at *
  have HD := hide hD
  have hDs : D.size ≤ 10 := by rw [← hD, str_sz]; omega
  clear hb2 hD
  go_wp2_with fail
  refine (HIT.out w2 HT2.out).mono ?_
  rintro e w3 ⟨rfl, q3, os3, rfl⟩
  have hb3 := below_grow w2 q3 os3
  have HB3 := hide (Below.step HB1.out (Below.step HB2.out hb3))
  have HV3 := hide (HV2.out.below hb3)
  have H143 := hide (Nat.le_trans H142.out hb3.size)
  generalize Sort.grow (w2.drewN q3) os3 = w3 at *
  rw [HV9.out]
  have HDD : Hid ((⟨(Lib.decDigits k).toArray⟩ : ByteArray) = D) := HD.out
  rw [HDD.out]
  clear hb3
  go_wp2_with fail
  refine (HPA.out _ w3 (HTX.out D rfl) HV3.out H143.out).mono ?_
  rintro e w5 ⟨hb5, v, rfl, hrep⟩
  obtain ⟨ca, cc, da, dc, rfl, hd, hs⟩ := prRep_2 hrep
  simp only at hd hs
  have hb6 := below_alloc w5 (.cells #[.slice ca ds.length cc, .slice da body.length dc] 28)
  have HB6 := hide (Below.step HB3.out (Below.step hb5 hb6))
  have HSZ : Hid ((w5.alloc (.cells #[.slice ca ds.length cc, .slice da body.length dc] 28)).heap.size = w5.heap.size + 1) := by show _ = _; simp
  have HDY : Hid (IsDes (fun c => c < w5.heap.size) (w5.alloc (.cells #[.slice ca ds.length cc, .slice da body.length dc] 28)) ds (.slice ca ds.length cc)) := IsRow.same (IsRow.imp (S' := fun c => c < w5.heap.size) hd fun b h1 _ => h1) fun c _ h2 => hb6.block c h2
  have HSY : Hid (IsSts (fun c => c < w5.heap.size) (w5.alloc (.cells #[.slice ca ds.length cc, .slice da body.length dc] 28)) body (.slice da body.length dc)) := (hs.imp (S' := fun c => c < w5.heap.size) fun b h1 _ => h1).same fun c _ h2 => hb6.block c h2
  have HNY := hide (new_at ds body (fun c => c < w5.heap.size) (w5.alloc (.cells #[.slice ca ds.length cc, .slice da body.length dc] 28)) ca da cc dc HDY.out HSY.out HF.out.many HF.out.deep HF.out.size HF.out.sm HF.out.ok)
  have HW5 : Hid (w.heap.size ≤ w5.heap.size) := Nat.le_trans HB3.out.size hb5.size
  clear hb5 hb6 hrep hd hs
  go_wp2_with fail
  generalize (w5.alloc (.cells #[.slice ca ds.length cc, .slice da body.length dc] 28)) = w6 at *
  refine HNY.out.mono ?_
  rintro e w8 ⟨P, V, B, rfl, hm2⟩
  have HM := hide hm2
  clear hm2
  have HVB : Hid (w5.heap.size < V ∧ w5.heap.size < B ∧ w5.heap.size < P ∧ V < w8.heap.size ∧ B < w8.heap.size ∧ P < w8.heap.size ∧ w6.heap.size = w5.heap.size + 1 ∧ w.heap.size ≤ w5.heap.size) := by
    have h1 := HM.out.vN; have h2 := HM.out.bN; have h3 := HM.out.pN; have h4 := HSZ.out
    have a1 := blk_lt (show w8.heap[V]? = some _ from HM.out.at_.vals); have a2 := blk_lt (show w8.heap[B]? = some _ from HM.out.at_.blks); have a3 := blk_lt HM.out.at_.me
    exact ⟨by omega, by omega, by omega, a1, a2, a3, h4, HW5.out⟩
  have HB68 := hide HM.out.below
  have HP8 := hide HM.out.at_
  have HQ0 : Hid (∃ q : Vs × Ks, BInv k 0 0 0 q ∧ Plt w8 P V B (.slice ca ds.length cc) (.slice da body.length dc) q.1 q.2 ∧ KOK (kindK ds) q.2) := ⟨newS ds ([], []), by rw [HDS.out]; exact binv0 k, HP8.out, kok_new ds⟩
  clear HM HNY HPA HTX HB1 HB2 HB3 HV1 HV2 HV3 HT1 HT2 H141 H142 H143 HTM HPK HIT HV9 HD HDD hDs hdl HW5 HSZ HP8
  go_wp2_with fail
  go_loopw [8, 9, 10, 11, 12, 13, 14, 15, 16] (fun rn wa co i _ _ _ _ _ wr => ∃ (j : Nat) (run was count : Int), j ≤ asks.length ∧ i = .int .i64 j ∧ rn = .int .i64 run ∧ wa = .int .i64 was ∧ co = .int .i64 count ∧ (0 ≤ run ∧ run ≤ j) ∧ (was = 0 ∨ was = 1) ∧ (0 ≤ count ∧ count ≤ 255) ∧ Hid (∃ q : Vs × Ks, BInv k run was count q ∧ Plt wr P V B (.slice ca ds.length cc) (.slice da body.length dc) q.1 q.2 ∧ KOK (kindK ds) q.2) ∧ Hid (Below w6.heap.size w6 wr) ∧ Hid (w8.heap.size ≤ wr.heap.size)) (fun _ _ _ i _ _ _ _ _ _ => asks.length - (intOf i).toNat)
  case atStart => exact ⟨0, 0, 0, 0, Nat.zero_le _, rfl, rfl, rfl, rfl, ⟨Int.le_refl _, Int.le_refl _⟩, .inl rfl, ⟨Int.le_refl _, by decide⟩, HQ0, HB68, hide (Nat.le_refl _)⟩
  case round =>
    obtain ⟨j, run, was, count, hj, rfl, rfl, rfl, rfl, ⟨hr0, hr1⟩, hwas, ⟨hc0, hc1⟩, hq, hbw, hsz⟩ := hrel
    obtain ⟨q, hbi, hpy, hko⟩ := hq.out
    have HBI := hide hbi
    have HPY := hide hpy
    have HK := hide hko
    have HWAS := hide hwas
    clear hq hbi hpy hko hwas
    have HBW := hide (Below.trans HB6.out (hbw.out.mono HB6.out.size))
    by_cases hlt : j < asks.length
    · have hji : (j : Int) < (asks.length : Int) := by omega
      obtain ⟨gb, go, rfl, _, _, hgc⟩ := HLI.out.ints hlt
      have g0 : wr.cell? ⟨gb, go + j, none⟩ = some (.int .i64 (outAt asks j)) := (HBW.out.cell (cell_lt hgc)).trans hgc
      clear hgc
      generalize outAt asks j = y at *
      go_wp2_with fail
      go_quiet (fail)
      have HB9 : Hid (Below wr.heap.size wr (wr.drewN nq)) := ⟨rfl, rfl, rfl, Nat.le_refl _, fun _ _ => rfl⟩
      generalize wr.drewN nq = w9 at *
      rw [i64_mask1, i64_mask1]
      have ha : y % 2 = 0 ∨ y % 2 = 1 := by omega
      have hr : y / 2 % 2 = 0 ∨ y / 2 % 2 = 1 := by omega
      generalize y % 2 = a at *
      generalize y / 2 % 2 = r at *
      clear g0
      have HRB : Hid (Below w6.heap.size w6 w9) := hbw.out.trans (HB9.out.mono hbw.out.size)
      have HP9 := hide (HPY.out.of HB9.out)
      have hrj : run ≤ 60 := by omega
      rcases HWAS.out with rfl | rfl <;> rcases ha with rfl | rfl <;> rcases hr with rfl | rfl
      · skip
        have hm : ¬ (255 : Int) < count := by omega
        by_cases hcn : (k : Int) ≤ count
        · skip
          have HG := hide (bgo k run 0 count 0 0 q HBI.out (by simp) (by simp) (by simp) hr0 hc0 hc1 (0) 0 (count) (by simp) (by simp) (by simp [*]))
          have HST := hide (sstep_at ds body [0, 0] (fun c => c < w5.heap.size) (fun c => c ≠ V ∧ c ≠ B) (w9.alloc (.cells #[.int .i64 0, .int .i64 0] 3)) P V B (.slice (some ⟨w9.heap.size, 0, none⟩) 2 2) ca da cc dc q.1 q.2 (kindK ds) (HP9.out.of (below_alloc _ _))
            (IsRow.same HDY.out fun c h1 h2 => (Below.trans HRB.out ((below_alloc w9 _).mono HRB.out.size)).block c h2) (HSY.out.same fun c h1 h2 => (Below.trans HRB.out ((below_alloc w9 _).mono HRB.out.size)).block c h2)
            (fun c h => ⟨Nat.lt_of_lt_of_le (Nat.lt_of_lt_of_le h (by have := HVB.out; have := HRB.out.size; omega)) (below_alloc w9 _).size, by have := HVB.out; have h : c < w5.heap.size := h; exact ⟨by omega, by omega⟩⟩)
            ⟨some ⟨w9.heap.size, 0, none⟩, 2, rfl, Lies.blk (cs := intsC [0, 0]) (blk_new w9 (.cells #[.int .i64 0, .int .i64 0] 3)) (by have := HVB.out; have := hsz.out; have := HB9.out.size; exact ⟨by omega, by omega⟩), Nat.le_refl _, by decide⟩
            (fun c h => h) HK.out HF.out.fit HF.out.qm HF.out.size (by have := HF.out.many; simp only at this; omega))
          have HKN := hide (kok_step (K := kindK ds) (p := (ds, body)) (g := [0, 0]) (q := q) HF.out.fit HK.out)
          rw [HES.out] at HST HKN
          have HOO : Hid (outS (stepS (bDs, bBody k) [0, 0] q).1 ds = [0, 0, count, 1]) := by
            show _ = _
            rw [HDS.out, HG.out.2, if_neg (fun h => absurd h.1 (by decide)), if_pos hcn]
          rw [HOO.out] at HST
          have HBI2 := hide HG.out.1
          generalize stepS (bDs, bBody k) [0, 0] q = q2 at *
          have HA9 := hide (below_alloc w9 (.cells #[.int .i64 0, .int .i64 0] 3))
          clear HG HOO
          have hand : bits BinOp.andNot IntKind.i64 0 0 = 0 := by kernel_rfl
          have hmn : min (count) 255 = count := by omega
          go_wp2_with fail
          generalize (w9.alloc (.cells #[.int .i64 0, .int .i64 0] 3)) = x1 at *
          refine HST.out.mono ?_
          rintro e x5 ⟨⟨o5, k5, rfl, hl5⟩, hp5, hkm5⟩
          have HL5 := hide hl5
          have HP5 := hide hp5
          have HBX : Hid (Below w6.heap.size w6 x5) := (HRB.out.trans (HA9.out.mono HRB.out.size)).trans (hkm5.below (Nat.le_trans HRB.out.size HA9.out.size) (by have := HVB.out; omega) (by have := HVB.out; omega))
          have HSZ5 : Hid (w8.heap.size ≤ x5.heap.size) := Nat.le_trans hsz.out (Nat.le_trans HB9.out.size (Nat.le_trans HA9.out.size hkm5.size))
          clear hl5 hp5 hkm5
          have HWB := hide (below_alloc x5 (.cells #[.int .i64 0, .int .i64 0, .int .i64 (count), .int .i64 1] 3))
          have HEQ := hide (eqI_at [0, 0, count, 1] _ AnyB (x5.alloc (.cells #[.int .i64 0, .int .i64 0, .int .i64 (count), .int .i64 1] 3)) o5 (some ⟨x5.heap.size, 0, none⟩) k5 4 (HL5.out.below HWB.out) (Lies.blk (cs := intsC [0, 0, count, 1]) (blk_new x5 (.cells #[.int .i64 0, .int .i64 0, .int .i64 (count), .int .i64 1] 3)) trivial) (by simp))
          simp only [List.length_cons, List.length_nil, Nat.zero_add, Nat.reduceAdd] at HEQ
          go_wp2_with fail
          refine HEQ.out.mono ?_
          rintro e x6 ⟨rfl, hb6⟩
          have HX6 := hide (HWB.out.trans (hb6.mono HWB.out.size))
          clear hb6
          go_wp2_with fail
          exact ⟨⟨j + 1, 0, 0, count, by omega, by go_num, rfl, rfl, rfl, ⟨by omega, by omega⟩, by simp, ⟨by omega, by omega⟩, hide ⟨q2, HBI2.out, HP5.out.of HX6.out, HKN.out⟩, hide (HBX.out.trans (HX6.out.mono HBX.out.size)), hide (Nat.le_trans HSZ5.out HX6.out.size)⟩, by simp [intOf]; omega⟩
        · skip
          have HG := hide (bgo k run 0 count 0 0 q HBI.out (by simp) (by simp) (by simp) hr0 hc0 hc1 (0) 0 (count) (by simp) (by simp) (by simp [*]))
          have HST := hide (sstep_at ds body [0, 0] (fun c => c < w5.heap.size) (fun c => c ≠ V ∧ c ≠ B) (w9.alloc (.cells #[.int .i64 0, .int .i64 0] 3)) P V B (.slice (some ⟨w9.heap.size, 0, none⟩) 2 2) ca da cc dc q.1 q.2 (kindK ds) (HP9.out.of (below_alloc _ _))
            (IsRow.same HDY.out fun c h1 h2 => (Below.trans HRB.out ((below_alloc w9 _).mono HRB.out.size)).block c h2) (HSY.out.same fun c h1 h2 => (Below.trans HRB.out ((below_alloc w9 _).mono HRB.out.size)).block c h2)
            (fun c h => ⟨Nat.lt_of_lt_of_le (Nat.lt_of_lt_of_le h (by have := HVB.out; have := HRB.out.size; omega)) (below_alloc w9 _).size, by have := HVB.out; have h : c < w5.heap.size := h; exact ⟨by omega, by omega⟩⟩)
            ⟨some ⟨w9.heap.size, 0, none⟩, 2, rfl, Lies.blk (cs := intsC [0, 0]) (blk_new w9 (.cells #[.int .i64 0, .int .i64 0] 3)) (by have := HVB.out; have := hsz.out; have := HB9.out.size; exact ⟨by omega, by omega⟩), Nat.le_refl _, by decide⟩
            (fun c h => h) HK.out HF.out.fit HF.out.qm HF.out.size (by have := HF.out.many; simp only at this; omega))
          have HKN := hide (kok_step (K := kindK ds) (p := (ds, body)) (g := [0, 0]) (q := q) HF.out.fit HK.out)
          rw [HES.out] at HST HKN
          have HOO : Hid (outS (stepS (bDs, bBody k) [0, 0] q).1 ds = [0, 0, count, 0]) := by
            show _ = _
            rw [HDS.out, HG.out.2, if_neg (fun h => absurd h.1 (by decide)), if_neg hcn]
          rw [HOO.out] at HST
          have HBI2 := hide HG.out.1
          generalize stepS (bDs, bBody k) [0, 0] q = q2 at *
          have HA9 := hide (below_alloc w9 (.cells #[.int .i64 0, .int .i64 0] 3))
          clear HG HOO
          have hand : bits BinOp.andNot IntKind.i64 0 0 = 0 := by kernel_rfl
          have hmn : min (count) 255 = count := by omega
          go_wp2_with fail
          generalize (w9.alloc (.cells #[.int .i64 0, .int .i64 0] 3)) = x1 at *
          refine HST.out.mono ?_
          rintro e x5 ⟨⟨o5, k5, rfl, hl5⟩, hp5, hkm5⟩
          have HL5 := hide hl5
          have HP5 := hide hp5
          have HBX : Hid (Below w6.heap.size w6 x5) := (HRB.out.trans (HA9.out.mono HRB.out.size)).trans (hkm5.below (Nat.le_trans HRB.out.size HA9.out.size) (by have := HVB.out; omega) (by have := HVB.out; omega))
          have HSZ5 : Hid (w8.heap.size ≤ x5.heap.size) := Nat.le_trans hsz.out (Nat.le_trans HB9.out.size (Nat.le_trans HA9.out.size hkm5.size))
          clear hl5 hp5 hkm5
          have HWB := hide (below_alloc x5 (.cells #[.int .i64 0, .int .i64 0, .int .i64 (count), .int .i64 0] 3))
          have HEQ := hide (eqI_at [0, 0, count, 0] _ AnyB (x5.alloc (.cells #[.int .i64 0, .int .i64 0, .int .i64 (count), .int .i64 0] 3)) o5 (some ⟨x5.heap.size, 0, none⟩) k5 4 (HL5.out.below HWB.out) (Lies.blk (cs := intsC [0, 0, count, 0]) (blk_new x5 (.cells #[.int .i64 0, .int .i64 0, .int .i64 (count), .int .i64 0] 3)) trivial) (by simp))
          simp only [List.length_cons, List.length_nil, Nat.zero_add, Nat.reduceAdd] at HEQ
          go_wp2_with fail
          refine HEQ.out.mono ?_
          rintro e x6 ⟨rfl, hb6⟩
          have HX6 := hide (HWB.out.trans (hb6.mono HWB.out.size))
          clear hb6
          go_wp2_with fail
          exact ⟨⟨j + 1, 0, 0, count, by omega, by go_num, rfl, rfl, rfl, ⟨by omega, by omega⟩, by simp, ⟨by omega, by omega⟩, hide ⟨q2, HBI2.out, HP5.out.of HX6.out, HKN.out⟩, hide (HBX.out.trans (HX6.out.mono HBX.out.size)), hide (Nat.le_trans HSZ5.out HX6.out.size)⟩, by simp [intOf]; omega⟩
      · skip
        have hm : ¬ (255 : Int) < count := by omega
        have hcn : ¬ (k : Int) ≤ 0 := by omega
        have HG := hide (bgo k run 0 count 0 1 q HBI.out (by simp) (by simp) (by simp) hr0 hc0 hc1 (0) 0 (0) (by simp) (by simp) (by simp [*]))
        have HST := hide (sstep_at ds body [0, 1] (fun c => c < w5.heap.size) (fun c => c ≠ V ∧ c ≠ B) (w9.alloc (.cells #[.int .i64 0, .int .i64 1] 3)) P V B (.slice (some ⟨w9.heap.size, 0, none⟩) 2 2) ca da cc dc q.1 q.2 (kindK ds) (HP9.out.of (below_alloc _ _))
          (IsRow.same HDY.out fun c h1 h2 => (Below.trans HRB.out ((below_alloc w9 _).mono HRB.out.size)).block c h2) (HSY.out.same fun c h1 h2 => (Below.trans HRB.out ((below_alloc w9 _).mono HRB.out.size)).block c h2)
          (fun c h => ⟨Nat.lt_of_lt_of_le (Nat.lt_of_lt_of_le h (by have := HVB.out; have := HRB.out.size; omega)) (below_alloc w9 _).size, by have := HVB.out; have h : c < w5.heap.size := h; exact ⟨by omega, by omega⟩⟩)
          ⟨some ⟨w9.heap.size, 0, none⟩, 2, rfl, Lies.blk (cs := intsC [0, 1]) (blk_new w9 (.cells #[.int .i64 0, .int .i64 1] 3)) (by have := HVB.out; have := hsz.out; have := HB9.out.size; exact ⟨by omega, by omega⟩), Nat.le_refl _, by decide⟩
          (fun c h => h) HK.out HF.out.fit HF.out.qm HF.out.size (by have := HF.out.many; simp only at this; omega))
        have HKN := hide (kok_step (K := kindK ds) (p := (ds, body)) (g := [0, 1]) (q := q) HF.out.fit HK.out)
        rw [HES.out] at HST HKN
        have HOO : Hid (outS (stepS (bDs, bBody k) [0, 1] q).1 ds = [0, 0, 0, 0]) := by
          show _ = _
          rw [HDS.out, HG.out.2, if_neg (fun h => absurd h.1 (by decide)), if_neg hcn]
        rw [HOO.out] at HST
        have HBI2 := hide HG.out.1
        generalize stepS (bDs, bBody k) [0, 1] q = q2 at *
        have HA9 := hide (below_alloc w9 (.cells #[.int .i64 0, .int .i64 1] 3))
        clear HG HOO
        have hand : bits BinOp.andNot IntKind.i64 0 0 = 0 := by kernel_rfl
        have hmn : min (count) 255 = count := by omega
        go_wp2_with fail
        generalize (w9.alloc (.cells #[.int .i64 0, .int .i64 1] 3)) = x1 at *
        refine HST.out.mono ?_
        rintro e x5 ⟨⟨o5, k5, rfl, hl5⟩, hp5, hkm5⟩
        have HL5 := hide hl5
        have HP5 := hide hp5
        have HBX : Hid (Below w6.heap.size w6 x5) := (HRB.out.trans (HA9.out.mono HRB.out.size)).trans (hkm5.below (Nat.le_trans HRB.out.size HA9.out.size) (by have := HVB.out; omega) (by have := HVB.out; omega))
        have HSZ5 : Hid (w8.heap.size ≤ x5.heap.size) := Nat.le_trans hsz.out (Nat.le_trans HB9.out.size (Nat.le_trans HA9.out.size hkm5.size))
        clear hl5 hp5 hkm5
        have HWB := hide (below_alloc x5 (.cells #[.int .i64 0, .int .i64 0, .int .i64 (0), .int .i64 0] 3))
        have HEQ := hide (eqI_at [0, 0, 0, 0] _ AnyB (x5.alloc (.cells #[.int .i64 0, .int .i64 0, .int .i64 (0), .int .i64 0] 3)) o5 (some ⟨x5.heap.size, 0, none⟩) k5 4 (HL5.out.below HWB.out) (Lies.blk (cs := intsC [0, 0, 0, 0]) (blk_new x5 (.cells #[.int .i64 0, .int .i64 0, .int .i64 (0), .int .i64 0] 3)) trivial) (by simp))
        simp only [List.length_cons, List.length_nil, Nat.zero_add, Nat.reduceAdd] at HEQ
        go_wp2_with fail
        refine HEQ.out.mono ?_
        rintro e x6 ⟨rfl, hb6⟩
        have HX6 := hide (HWB.out.trans (hb6.mono HWB.out.size))
        clear hb6
        go_wp2_with fail
        exact ⟨⟨j + 1, 0, 0, 0, by omega, by go_num, rfl, rfl, rfl, ⟨by omega, by omega⟩, by simp, ⟨by omega, by omega⟩, hide ⟨q2, HBI2.out, HP5.out.of HX6.out, HKN.out⟩, hide (HBX.out.trans (HX6.out.mono HBX.out.size)), hide (Nat.le_trans HSZ5.out HX6.out.size)⟩, by simp [intOf]; omega⟩
      · skip
        by_cases hm : (255 : Int) < count + 1
        · skip
          by_cases hrn : (k : Int) ≤ run + 1
          · skip
            have hcn : (k : Int) ≤ 255 := by omega
            have HG := hide (bgo k run 0 count 1 0 q HBI.out (by simp) (by simp) (by simp) hr0 hc0 hc1 (run + 1) 1 (255) (by simp) (by simp) (by simp [*]))
            have HST := hide (sstep_at ds body [1, 0] (fun c => c < w5.heap.size) (fun c => c ≠ V ∧ c ≠ B) (w9.alloc (.cells #[.int .i64 1, .int .i64 0] 3)) P V B (.slice (some ⟨w9.heap.size, 0, none⟩) 2 2) ca da cc dc q.1 q.2 (kindK ds) (HP9.out.of (below_alloc _ _))
              (IsRow.same HDY.out fun c h1 h2 => (Below.trans HRB.out ((below_alloc w9 _).mono HRB.out.size)).block c h2) (HSY.out.same fun c h1 h2 => (Below.trans HRB.out ((below_alloc w9 _).mono HRB.out.size)).block c h2)
              (fun c h => ⟨Nat.lt_of_lt_of_le (Nat.lt_of_lt_of_le h (by have := HVB.out; have := HRB.out.size; omega)) (below_alloc w9 _).size, by have := HVB.out; have h : c < w5.heap.size := h; exact ⟨by omega, by omega⟩⟩)
              ⟨some ⟨w9.heap.size, 0, none⟩, 2, rfl, Lies.blk (cs := intsC [1, 0]) (blk_new w9 (.cells #[.int .i64 1, .int .i64 0] 3)) (by have := HVB.out; have := hsz.out; have := HB9.out.size; exact ⟨by omega, by omega⟩), Nat.le_refl _, by decide⟩
              (fun c h => h) HK.out HF.out.fit HF.out.qm HF.out.size (by have := HF.out.many; simp only at this; omega))
            have HKN := hide (kok_step (K := kindK ds) (p := (ds, body)) (g := [1, 0]) (q := q) HF.out.fit HK.out)
            rw [HES.out] at HST HKN
            have HOO : Hid (outS (stepS (bDs, bBody k) [1, 0] q).1 ds = [1, 1, 255, 1]) := by
              show _ = _
              rw [HDS.out, HG.out.2, if_pos ⟨rfl, hrn⟩, if_pos hcn]
            rw [HOO.out] at HST
            have HBI2 := hide HG.out.1
            generalize stepS (bDs, bBody k) [1, 0] q = q2 at *
            have HA9 := hide (below_alloc w9 (.cells #[.int .i64 1, .int .i64 0] 3))
            clear HG HOO
            have hand : bits BinOp.andNot IntKind.i64 1 0 = 1 := by kernel_rfl
            have hmn : min (count + 1) 255 = 255 := by omega
            go_wp2_with fail
            generalize (w9.alloc (.cells #[.int .i64 1, .int .i64 0] 3)) = x1 at *
            refine HST.out.mono ?_
            rintro e x5 ⟨⟨o5, k5, rfl, hl5⟩, hp5, hkm5⟩
            have HL5 := hide hl5
            have HP5 := hide hp5
            have HBX : Hid (Below w6.heap.size w6 x5) := (HRB.out.trans (HA9.out.mono HRB.out.size)).trans (hkm5.below (Nat.le_trans HRB.out.size HA9.out.size) (by have := HVB.out; omega) (by have := HVB.out; omega))
            have HSZ5 : Hid (w8.heap.size ≤ x5.heap.size) := Nat.le_trans hsz.out (Nat.le_trans HB9.out.size (Nat.le_trans HA9.out.size hkm5.size))
            clear hl5 hp5 hkm5
            have HWB := hide (below_alloc x5 (.cells #[.int .i64 1, .int .i64 1, .int .i64 (255), .int .i64 1] 3))
            have HEQ := hide (eqI_at [1, 1, 255, 1] _ AnyB (x5.alloc (.cells #[.int .i64 1, .int .i64 1, .int .i64 (255), .int .i64 1] 3)) o5 (some ⟨x5.heap.size, 0, none⟩) k5 4 (HL5.out.below HWB.out) (Lies.blk (cs := intsC [1, 1, 255, 1]) (blk_new x5 (.cells #[.int .i64 1, .int .i64 1, .int .i64 (255), .int .i64 1] 3)) trivial) (by simp))
            simp only [List.length_cons, List.length_nil, Nat.zero_add, Nat.reduceAdd] at HEQ
            go_wp2_with fail
            refine HEQ.out.mono ?_
            rintro e x6 ⟨rfl, hb6⟩
            have HX6 := hide (HWB.out.trans (hb6.mono HWB.out.size))
            clear hb6
            go_wp2_with fail
            exact ⟨⟨j + 1, run + 1, 1, 255, by omega, by go_num, rfl, rfl, rfl, ⟨by omega, by omega⟩, by simp, ⟨by omega, by omega⟩, hide ⟨q2, HBI2.out, HP5.out.of HX6.out, HKN.out⟩, hide (HBX.out.trans (HX6.out.mono HBX.out.size)), hide (Nat.le_trans HSZ5.out HX6.out.size)⟩, by simp [intOf]; omega⟩
          · skip
            have hcn : (k : Int) ≤ 255 := by omega
            have HG := hide (bgo k run 0 count 1 0 q HBI.out (by simp) (by simp) (by simp) hr0 hc0 hc1 (run + 1) 1 (255) (by simp) (by simp) (by simp [*]))
            have HST := hide (sstep_at ds body [1, 0] (fun c => c < w5.heap.size) (fun c => c ≠ V ∧ c ≠ B) (w9.alloc (.cells #[.int .i64 1, .int .i64 0] 3)) P V B (.slice (some ⟨w9.heap.size, 0, none⟩) 2 2) ca da cc dc q.1 q.2 (kindK ds) (HP9.out.of (below_alloc _ _))
              (IsRow.same HDY.out fun c h1 h2 => (Below.trans HRB.out ((below_alloc w9 _).mono HRB.out.size)).block c h2) (HSY.out.same fun c h1 h2 => (Below.trans HRB.out ((below_alloc w9 _).mono HRB.out.size)).block c h2)
              (fun c h => ⟨Nat.lt_of_lt_of_le (Nat.lt_of_lt_of_le h (by have := HVB.out; have := HRB.out.size; omega)) (below_alloc w9 _).size, by have := HVB.out; have h : c < w5.heap.size := h; exact ⟨by omega, by omega⟩⟩)
              ⟨some ⟨w9.heap.size, 0, none⟩, 2, rfl, Lies.blk (cs := intsC [1, 0]) (blk_new w9 (.cells #[.int .i64 1, .int .i64 0] 3)) (by have := HVB.out; have := hsz.out; have := HB9.out.size; exact ⟨by omega, by omega⟩), Nat.le_refl _, by decide⟩
              (fun c h => h) HK.out HF.out.fit HF.out.qm HF.out.size (by have := HF.out.many; simp only at this; omega))
            have HKN := hide (kok_step (K := kindK ds) (p := (ds, body)) (g := [1, 0]) (q := q) HF.out.fit HK.out)
            rw [HES.out] at HST HKN
            have HOO : Hid (outS (stepS (bDs, bBody k) [1, 0] q).1 ds = [0, 1, 255, 1]) := by
              show _ = _
              rw [HDS.out, HG.out.2, if_neg (fun h => hrn h.2), if_pos hcn]
            rw [HOO.out] at HST
            have HBI2 := hide HG.out.1
            generalize stepS (bDs, bBody k) [1, 0] q = q2 at *
            have HA9 := hide (below_alloc w9 (.cells #[.int .i64 1, .int .i64 0] 3))
            clear HG HOO
            have hand : bits BinOp.andNot IntKind.i64 1 0 = 1 := by kernel_rfl
            have hmn : min (count + 1) 255 = 255 := by omega
            go_wp2_with fail
            generalize (w9.alloc (.cells #[.int .i64 1, .int .i64 0] 3)) = x1 at *
            refine HST.out.mono ?_
            rintro e x5 ⟨⟨o5, k5, rfl, hl5⟩, hp5, hkm5⟩
            have HL5 := hide hl5
            have HP5 := hide hp5
            have HBX : Hid (Below w6.heap.size w6 x5) := (HRB.out.trans (HA9.out.mono HRB.out.size)).trans (hkm5.below (Nat.le_trans HRB.out.size HA9.out.size) (by have := HVB.out; omega) (by have := HVB.out; omega))
            have HSZ5 : Hid (w8.heap.size ≤ x5.heap.size) := Nat.le_trans hsz.out (Nat.le_trans HB9.out.size (Nat.le_trans HA9.out.size hkm5.size))
            clear hl5 hp5 hkm5
            have HWB := hide (below_alloc x5 (.cells #[.int .i64 0, .int .i64 1, .int .i64 (255), .int .i64 1] 3))
            have HEQ := hide (eqI_at [0, 1, 255, 1] _ AnyB (x5.alloc (.cells #[.int .i64 0, .int .i64 1, .int .i64 (255), .int .i64 1] 3)) o5 (some ⟨x5.heap.size, 0, none⟩) k5 4 (HL5.out.below HWB.out) (Lies.blk (cs := intsC [0, 1, 255, 1]) (blk_new x5 (.cells #[.int .i64 0, .int .i64 1, .int .i64 (255), .int .i64 1] 3)) trivial) (by simp))
            simp only [List.length_cons, List.length_nil, Nat.zero_add, Nat.reduceAdd] at HEQ
            go_wp2_with fail
            refine HEQ.out.mono ?_
            rintro e x6 ⟨rfl, hb6⟩
            have HX6 := hide (HWB.out.trans (hb6.mono HWB.out.size))
            clear hb6
            go_wp2_with fail
            exact ⟨⟨j + 1, run + 1, 1, 255, by omega, by go_num, rfl, rfl, rfl, ⟨by omega, by omega⟩, by simp, ⟨by omega, by omega⟩, hide ⟨q2, HBI2.out, HP5.out.of HX6.out, HKN.out⟩, hide (HBX.out.trans (HX6.out.mono HBX.out.size)), hide (Nat.le_trans HSZ5.out HX6.out.size)⟩, by simp [intOf]; omega⟩
        · skip
          by_cases hrn : (k : Int) ≤ run + 1
          · skip
            by_cases hcn : (k : Int) ≤ count + 1
            · skip
              have HG := hide (bgo k run 0 count 1 0 q HBI.out (by simp) (by simp) (by simp) hr0 hc0 hc1 (run + 1) 1 (count + 1) (by simp) (by simp) (by simp [*]))
              have HST := hide (sstep_at ds body [1, 0] (fun c => c < w5.heap.size) (fun c => c ≠ V ∧ c ≠ B) (w9.alloc (.cells #[.int .i64 1, .int .i64 0] 3)) P V B (.slice (some ⟨w9.heap.size, 0, none⟩) 2 2) ca da cc dc q.1 q.2 (kindK ds) (HP9.out.of (below_alloc _ _))
                (IsRow.same HDY.out fun c h1 h2 => (Below.trans HRB.out ((below_alloc w9 _).mono HRB.out.size)).block c h2) (HSY.out.same fun c h1 h2 => (Below.trans HRB.out ((below_alloc w9 _).mono HRB.out.size)).block c h2)
                (fun c h => ⟨Nat.lt_of_lt_of_le (Nat.lt_of_lt_of_le h (by have := HVB.out; have := HRB.out.size; omega)) (below_alloc w9 _).size, by have := HVB.out; have h : c < w5.heap.size := h; exact ⟨by omega, by omega⟩⟩)
                ⟨some ⟨w9.heap.size, 0, none⟩, 2, rfl, Lies.blk (cs := intsC [1, 0]) (blk_new w9 (.cells #[.int .i64 1, .int .i64 0] 3)) (by have := HVB.out; have := hsz.out; have := HB9.out.size; exact ⟨by omega, by omega⟩), Nat.le_refl _, by decide⟩
                (fun c h => h) HK.out HF.out.fit HF.out.qm HF.out.size (by have := HF.out.many; simp only at this; omega))
              have HKN := hide (kok_step (K := kindK ds) (p := (ds, body)) (g := [1, 0]) (q := q) HF.out.fit HK.out)
              rw [HES.out] at HST HKN
              have HOO : Hid (outS (stepS (bDs, bBody k) [1, 0] q).1 ds = [1, 1, count + 1, 1]) := by
                show _ = _
                rw [HDS.out, HG.out.2, if_pos ⟨rfl, hrn⟩, if_pos hcn]
              rw [HOO.out] at HST
              have HBI2 := hide HG.out.1
              generalize stepS (bDs, bBody k) [1, 0] q = q2 at *
              have HA9 := hide (below_alloc w9 (.cells #[.int .i64 1, .int .i64 0] 3))
              clear HG HOO
              have hand : bits BinOp.andNot IntKind.i64 1 0 = 1 := by kernel_rfl
              have hmn : min (count + 1) 255 = count + 1 := by omega
              go_wp2_with fail
              generalize (w9.alloc (.cells #[.int .i64 1, .int .i64 0] 3)) = x1 at *
              refine HST.out.mono ?_
              rintro e x5 ⟨⟨o5, k5, rfl, hl5⟩, hp5, hkm5⟩
              have HL5 := hide hl5
              have HP5 := hide hp5
              have HBX : Hid (Below w6.heap.size w6 x5) := (HRB.out.trans (HA9.out.mono HRB.out.size)).trans (hkm5.below (Nat.le_trans HRB.out.size HA9.out.size) (by have := HVB.out; omega) (by have := HVB.out; omega))
              have HSZ5 : Hid (w8.heap.size ≤ x5.heap.size) := Nat.le_trans hsz.out (Nat.le_trans HB9.out.size (Nat.le_trans HA9.out.size hkm5.size))
              clear hl5 hp5 hkm5
              have HWB := hide (below_alloc x5 (.cells #[.int .i64 1, .int .i64 1, .int .i64 (count + 1), .int .i64 1] 3))
              have HEQ := hide (eqI_at [1, 1, count + 1, 1] _ AnyB (x5.alloc (.cells #[.int .i64 1, .int .i64 1, .int .i64 (count + 1), .int .i64 1] 3)) o5 (some ⟨x5.heap.size, 0, none⟩) k5 4 (HL5.out.below HWB.out) (Lies.blk (cs := intsC [1, 1, count + 1, 1]) (blk_new x5 (.cells #[.int .i64 1, .int .i64 1, .int .i64 (count + 1), .int .i64 1] 3)) trivial) (by simp))
              simp only [List.length_cons, List.length_nil, Nat.zero_add, Nat.reduceAdd] at HEQ
              go_wp2_with fail
              refine HEQ.out.mono ?_
              rintro e x6 ⟨rfl, hb6⟩
              have HX6 := hide (HWB.out.trans (hb6.mono HWB.out.size))
              clear hb6
              go_wp2_with fail
              exact ⟨⟨j + 1, run + 1, 1, count + 1, by omega, by go_num, rfl, rfl, rfl, ⟨by omega, by omega⟩, by simp, ⟨by omega, by omega⟩, hide ⟨q2, HBI2.out, HP5.out.of HX6.out, HKN.out⟩, hide (HBX.out.trans (HX6.out.mono HBX.out.size)), hide (Nat.le_trans HSZ5.out HX6.out.size)⟩, by simp [intOf]; omega⟩
            · skip
              have HG := hide (bgo k run 0 count 1 0 q HBI.out (by simp) (by simp) (by simp) hr0 hc0 hc1 (run + 1) 1 (count + 1) (by simp) (by simp) (by simp [*]))
              have HST := hide (sstep_at ds body [1, 0] (fun c => c < w5.heap.size) (fun c => c ≠ V ∧ c ≠ B) (w9.alloc (.cells #[.int .i64 1, .int .i64 0] 3)) P V B (.slice (some ⟨w9.heap.size, 0, none⟩) 2 2) ca da cc dc q.1 q.2 (kindK ds) (HP9.out.of (below_alloc _ _))
                (IsRow.same HDY.out fun c h1 h2 => (Below.trans HRB.out ((below_alloc w9 _).mono HRB.out.size)).block c h2) (HSY.out.same fun c h1 h2 => (Below.trans HRB.out ((below_alloc w9 _).mono HRB.out.size)).block c h2)
                (fun c h => ⟨Nat.lt_of_lt_of_le (Nat.lt_of_lt_of_le h (by have := HVB.out; have := HRB.out.size; omega)) (below_alloc w9 _).size, by have := HVB.out; have h : c < w5.heap.size := h; exact ⟨by omega, by omega⟩⟩)
                ⟨some ⟨w9.heap.size, 0, none⟩, 2, rfl, Lies.blk (cs := intsC [1, 0]) (blk_new w9 (.cells #[.int .i64 1, .int .i64 0] 3)) (by have := HVB.out; have := hsz.out; have := HB9.out.size; exact ⟨by omega, by omega⟩), Nat.le_refl _, by decide⟩
                (fun c h => h) HK.out HF.out.fit HF.out.qm HF.out.size (by have := HF.out.many; simp only at this; omega))
              have HKN := hide (kok_step (K := kindK ds) (p := (ds, body)) (g := [1, 0]) (q := q) HF.out.fit HK.out)
              rw [HES.out] at HST HKN
              have HOO : Hid (outS (stepS (bDs, bBody k) [1, 0] q).1 ds = [1, 1, count + 1, 0]) := by
                show _ = _
                rw [HDS.out, HG.out.2, if_pos ⟨rfl, hrn⟩, if_neg hcn]
              rw [HOO.out] at HST
              have HBI2 := hide HG.out.1
              generalize stepS (bDs, bBody k) [1, 0] q = q2 at *
              have HA9 := hide (below_alloc w9 (.cells #[.int .i64 1, .int .i64 0] 3))
              clear HG HOO
              have hand : bits BinOp.andNot IntKind.i64 1 0 = 1 := by kernel_rfl
              have hmn : min (count + 1) 255 = count + 1 := by omega
              go_wp2_with fail
              generalize (w9.alloc (.cells #[.int .i64 1, .int .i64 0] 3)) = x1 at *
              refine HST.out.mono ?_
              rintro e x5 ⟨⟨o5, k5, rfl, hl5⟩, hp5, hkm5⟩
              have HL5 := hide hl5
              have HP5 := hide hp5
              have HBX : Hid (Below w6.heap.size w6 x5) := (HRB.out.trans (HA9.out.mono HRB.out.size)).trans (hkm5.below (Nat.le_trans HRB.out.size HA9.out.size) (by have := HVB.out; omega) (by have := HVB.out; omega))
              have HSZ5 : Hid (w8.heap.size ≤ x5.heap.size) := Nat.le_trans hsz.out (Nat.le_trans HB9.out.size (Nat.le_trans HA9.out.size hkm5.size))
              clear hl5 hp5 hkm5
              have HWB := hide (below_alloc x5 (.cells #[.int .i64 1, .int .i64 1, .int .i64 (count + 1), .int .i64 0] 3))
              have HEQ := hide (eqI_at [1, 1, count + 1, 0] _ AnyB (x5.alloc (.cells #[.int .i64 1, .int .i64 1, .int .i64 (count + 1), .int .i64 0] 3)) o5 (some ⟨x5.heap.size, 0, none⟩) k5 4 (HL5.out.below HWB.out) (Lies.blk (cs := intsC [1, 1, count + 1, 0]) (blk_new x5 (.cells #[.int .i64 1, .int .i64 1, .int .i64 (count + 1), .int .i64 0] 3)) trivial) (by simp))
              simp only [List.length_cons, List.length_nil, Nat.zero_add, Nat.reduceAdd] at HEQ
              go_wp2_with fail
              refine HEQ.out.mono ?_
              rintro e x6 ⟨rfl, hb6⟩
              have HX6 := hide (HWB.out.trans (hb6.mono HWB.out.size))
              clear hb6
              go_wp2_with fail
              exact ⟨⟨j + 1, run + 1, 1, count + 1, by omega, by go_num, rfl, rfl, rfl, ⟨by omega, by omega⟩, by simp, ⟨by omega, by omega⟩, hide ⟨q2, HBI2.out, HP5.out.of HX6.out, HKN.out⟩, hide (HBX.out.trans (HX6.out.mono HBX.out.size)), hide (Nat.le_trans HSZ5.out HX6.out.size)⟩, by simp [intOf]; omega⟩
          · skip
            by_cases hcn : (k : Int) ≤ count + 1
            · skip
              have HG := hide (bgo k run 0 count 1 0 q HBI.out (by simp) (by simp) (by simp) hr0 hc0 hc1 (run + 1) 1 (count + 1) (by simp) (by simp) (by simp [*]))
              have HST := hide (sstep_at ds body [1, 0] (fun c => c < w5.heap.size) (fun c => c ≠ V ∧ c ≠ B) (w9.alloc (.cells #[.int .i64 1, .int .i64 0] 3)) P V B (.slice (some ⟨w9.heap.size, 0, none⟩) 2 2) ca da cc dc q.1 q.2 (kindK ds) (HP9.out.of (below_alloc _ _))
                (IsRow.same HDY.out fun c h1 h2 => (Below.trans HRB.out ((below_alloc w9 _).mono HRB.out.size)).block c h2) (HSY.out.same fun c h1 h2 => (Below.trans HRB.out ((below_alloc w9 _).mono HRB.out.size)).block c h2)
                (fun c h => ⟨Nat.lt_of_lt_of_le (Nat.lt_of_lt_of_le h (by have := HVB.out; have := HRB.out.size; omega)) (below_alloc w9 _).size, by have := HVB.out; have h : c < w5.heap.size := h; exact ⟨by omega, by omega⟩⟩)
                ⟨some ⟨w9.heap.size, 0, none⟩, 2, rfl, Lies.blk (cs := intsC [1, 0]) (blk_new w9 (.cells #[.int .i64 1, .int .i64 0] 3)) (by have := HVB.out; have := hsz.out; have := HB9.out.size; exact ⟨by omega, by omega⟩), Nat.le_refl _, by decide⟩
                (fun c h => h) HK.out HF.out.fit HF.out.qm HF.out.size (by have := HF.out.many; simp only at this; omega))
              have HKN := hide (kok_step (K := kindK ds) (p := (ds, body)) (g := [1, 0]) (q := q) HF.out.fit HK.out)
              rw [HES.out] at HST HKN
              have HOO : Hid (outS (stepS (bDs, bBody k) [1, 0] q).1 ds = [0, 1, count + 1, 1]) := by
                show _ = _
                rw [HDS.out, HG.out.2, if_neg (fun h => hrn h.2), if_pos hcn]
              rw [HOO.out] at HST
              have HBI2 := hide HG.out.1
              generalize stepS (bDs, bBody k) [1, 0] q = q2 at *
              have HA9 := hide (below_alloc w9 (.cells #[.int .i64 1, .int .i64 0] 3))
              clear HG HOO
              have hand : bits BinOp.andNot IntKind.i64 1 0 = 1 := by kernel_rfl
              have hmn : min (count + 1) 255 = count + 1 := by omega
              go_wp2_with fail
              generalize (w9.alloc (.cells #[.int .i64 1, .int .i64 0] 3)) = x1 at *
              refine HST.out.mono ?_
              rintro e x5 ⟨⟨o5, k5, rfl, hl5⟩, hp5, hkm5⟩
              have HL5 := hide hl5
              have HP5 := hide hp5
              have HBX : Hid (Below w6.heap.size w6 x5) := (HRB.out.trans (HA9.out.mono HRB.out.size)).trans (hkm5.below (Nat.le_trans HRB.out.size HA9.out.size) (by have := HVB.out; omega) (by have := HVB.out; omega))
              have HSZ5 : Hid (w8.heap.size ≤ x5.heap.size) := Nat.le_trans hsz.out (Nat.le_trans HB9.out.size (Nat.le_trans HA9.out.size hkm5.size))
              clear hl5 hp5 hkm5
              have HWB := hide (below_alloc x5 (.cells #[.int .i64 0, .int .i64 1, .int .i64 (count + 1), .int .i64 1] 3))
              have HEQ := hide (eqI_at [0, 1, count + 1, 1] _ AnyB (x5.alloc (.cells #[.int .i64 0, .int .i64 1, .int .i64 (count + 1), .int .i64 1] 3)) o5 (some ⟨x5.heap.size, 0, none⟩) k5 4 (HL5.out.below HWB.out) (Lies.blk (cs := intsC [0, 1, count + 1, 1]) (blk_new x5 (.cells #[.int .i64 0, .int .i64 1, .int .i64 (count + 1), .int .i64 1] 3)) trivial) (by simp))
              simp only [List.length_cons, List.length_nil, Nat.zero_add, Nat.reduceAdd] at HEQ
              go_wp2_with fail
              refine HEQ.out.mono ?_
              rintro e x6 ⟨rfl, hb6⟩
              have HX6 := hide (HWB.out.trans (hb6.mono HWB.out.size))
              clear hb6
              go_wp2_with fail
              exact ⟨⟨j + 1, run + 1, 1, count + 1, by omega, by go_num, rfl, rfl, rfl, ⟨by omega, by omega⟩, by simp, ⟨by omega, by omega⟩, hide ⟨q2, HBI2.out, HP5.out.of HX6.out, HKN.out⟩, hide (HBX.out.trans (HX6.out.mono HBX.out.size)), hide (Nat.le_trans HSZ5.out HX6.out.size)⟩, by simp [intOf]; omega⟩
            · skip
              have HG := hide (bgo k run 0 count 1 0 q HBI.out (by simp) (by simp) (by simp) hr0 hc0 hc1 (run + 1) 1 (count + 1) (by simp) (by simp) (by simp [*]))
              have HST := hide (sstep_at ds body [1, 0] (fun c => c < w5.heap.size) (fun c => c ≠ V ∧ c ≠ B) (w9.alloc (.cells #[.int .i64 1, .int .i64 0] 3)) P V B (.slice (some ⟨w9.heap.size, 0, none⟩) 2 2) ca da cc dc q.1 q.2 (kindK ds) (HP9.out.of (below_alloc _ _))
                (IsRow.same HDY.out fun c h1 h2 => (Below.trans HRB.out ((below_alloc w9 _).mono HRB.out.size)).block c h2) (HSY.out.same fun c h1 h2 => (Below.trans HRB.out ((below_alloc w9 _).mono HRB.out.size)).block c h2)
                (fun c h => ⟨Nat.lt_of_lt_of_le (Nat.lt_of_lt_of_le h (by have := HVB.out; have := HRB.out.size; omega)) (below_alloc w9 _).size, by have := HVB.out; have h : c < w5.heap.size := h; exact ⟨by omega, by omega⟩⟩)
                ⟨some ⟨w9.heap.size, 0, none⟩, 2, rfl, Lies.blk (cs := intsC [1, 0]) (blk_new w9 (.cells #[.int .i64 1, .int .i64 0] 3)) (by have := HVB.out; have := hsz.out; have := HB9.out.size; exact ⟨by omega, by omega⟩), Nat.le_refl _, by decide⟩
                (fun c h => h) HK.out HF.out.fit HF.out.qm HF.out.size (by have := HF.out.many; simp only at this; omega))
              have HKN := hide (kok_step (K := kindK ds) (p := (ds, body)) (g := [1, 0]) (q := q) HF.out.fit HK.out)
              rw [HES.out] at HST HKN
              have HOO : Hid (outS (stepS (bDs, bBody k) [1, 0] q).1 ds = [0, 1, count + 1, 0]) := by
                show _ = _
                rw [HDS.out, HG.out.2, if_neg (fun h => hrn h.2), if_neg hcn]
              rw [HOO.out] at HST
              have HBI2 := hide HG.out.1
              generalize stepS (bDs, bBody k) [1, 0] q = q2 at *
              have HA9 := hide (below_alloc w9 (.cells #[.int .i64 1, .int .i64 0] 3))
              clear HG HOO
              have hand : bits BinOp.andNot IntKind.i64 1 0 = 1 := by kernel_rfl
              have hmn : min (count + 1) 255 = count + 1 := by omega
              go_wp2_with fail
              generalize (w9.alloc (.cells #[.int .i64 1, .int .i64 0] 3)) = x1 at *
              refine HST.out.mono ?_
              rintro e x5 ⟨⟨o5, k5, rfl, hl5⟩, hp5, hkm5⟩
              have HL5 := hide hl5
              have HP5 := hide hp5
              have HBX : Hid (Below w6.heap.size w6 x5) := (HRB.out.trans (HA9.out.mono HRB.out.size)).trans (hkm5.below (Nat.le_trans HRB.out.size HA9.out.size) (by have := HVB.out; omega) (by have := HVB.out; omega))
              have HSZ5 : Hid (w8.heap.size ≤ x5.heap.size) := Nat.le_trans hsz.out (Nat.le_trans HB9.out.size (Nat.le_trans HA9.out.size hkm5.size))
              clear hl5 hp5 hkm5
              have HWB := hide (below_alloc x5 (.cells #[.int .i64 0, .int .i64 1, .int .i64 (count + 1), .int .i64 0] 3))
              have HEQ := hide (eqI_at [0, 1, count + 1, 0] _ AnyB (x5.alloc (.cells #[.int .i64 0, .int .i64 1, .int .i64 (count + 1), .int .i64 0] 3)) o5 (some ⟨x5.heap.size, 0, none⟩) k5 4 (HL5.out.below HWB.out) (Lies.blk (cs := intsC [0, 1, count + 1, 0]) (blk_new x5 (.cells #[.int .i64 0, .int .i64 1, .int .i64 (count + 1), .int .i64 0] 3)) trivial) (by simp))
              simp only [List.length_cons, List.length_nil, Nat.zero_add, Nat.reduceAdd] at HEQ
              go_wp2_with fail
              refine HEQ.out.mono ?_
              rintro e x6 ⟨rfl, hb6⟩
              have HX6 := hide (HWB.out.trans (hb6.mono HWB.out.size))
              clear hb6
              go_wp2_with fail
              exact ⟨⟨j + 1, run + 1, 1, count + 1, by omega, by go_num, rfl, rfl, rfl, ⟨by omega, by omega⟩, by simp, ⟨by omega, by omega⟩, hide ⟨q2, HBI2.out, HP5.out.of HX6.out, HKN.out⟩, hide (HBX.out.trans (HX6.out.mono HBX.out.size)), hide (Nat.le_trans HSZ5.out HX6.out.size)⟩, by simp [intOf]; omega⟩
      · skip
        by_cases hm : (255 : Int) < count + 1
        · skip
          by_cases hrn : (k : Int) ≤ run + 1
          · skip
            have hcn : ¬ (k : Int) ≤ 0 := by omega
            have HG := hide (bgo k run 0 count 1 1 q HBI.out (by simp) (by simp) (by simp) hr0 hc0 hc1 (run + 1) 1 (0) (by simp) (by simp) (by simp [*]))
            have HST := hide (sstep_at ds body [1, 1] (fun c => c < w5.heap.size) (fun c => c ≠ V ∧ c ≠ B) (w9.alloc (.cells #[.int .i64 1, .int .i64 1] 3)) P V B (.slice (some ⟨w9.heap.size, 0, none⟩) 2 2) ca da cc dc q.1 q.2 (kindK ds) (HP9.out.of (below_alloc _ _))
              (IsRow.same HDY.out fun c h1 h2 => (Below.trans HRB.out ((below_alloc w9 _).mono HRB.out.size)).block c h2) (HSY.out.same fun c h1 h2 => (Below.trans HRB.out ((below_alloc w9 _).mono HRB.out.size)).block c h2)
              (fun c h => ⟨Nat.lt_of_lt_of_le (Nat.lt_of_lt_of_le h (by have := HVB.out; have := HRB.out.size; omega)) (below_alloc w9 _).size, by have := HVB.out; have h : c < w5.heap.size := h; exact ⟨by omega, by omega⟩⟩)
              ⟨some ⟨w9.heap.size, 0, none⟩, 2, rfl, Lies.blk (cs := intsC [1, 1]) (blk_new w9 (.cells #[.int .i64 1, .int .i64 1] 3)) (by have := HVB.out; have := hsz.out; have := HB9.out.size; exact ⟨by omega, by omega⟩), Nat.le_refl _, by decide⟩
              (fun c h => h) HK.out HF.out.fit HF.out.qm HF.out.size (by have := HF.out.many; simp only at this; omega))
            have HKN := hide (kok_step (K := kindK ds) (p := (ds, body)) (g := [1, 1]) (q := q) HF.out.fit HK.out)
            rw [HES.out] at HST HKN
            have HOO : Hid (outS (stepS (bDs, bBody k) [1, 1] q).1 ds = [1, 1, 0, 0]) := by
              show _ = _
              rw [HDS.out, HG.out.2, if_pos ⟨rfl, hrn⟩, if_neg hcn]
            rw [HOO.out] at HST
            have HBI2 := hide HG.out.1
            generalize stepS (bDs, bBody k) [1, 1] q = q2 at *
            have HA9 := hide (below_alloc w9 (.cells #[.int .i64 1, .int .i64 1] 3))
            clear HG HOO
            have hand : bits BinOp.andNot IntKind.i64 1 0 = 1 := by kernel_rfl
            have hmn : min (count + 1) 255 = 255 := by omega
            go_wp2_with fail
            generalize (w9.alloc (.cells #[.int .i64 1, .int .i64 1] 3)) = x1 at *
            refine HST.out.mono ?_
            rintro e x5 ⟨⟨o5, k5, rfl, hl5⟩, hp5, hkm5⟩
            have HL5 := hide hl5
            have HP5 := hide hp5
            have HBX : Hid (Below w6.heap.size w6 x5) := (HRB.out.trans (HA9.out.mono HRB.out.size)).trans (hkm5.below (Nat.le_trans HRB.out.size HA9.out.size) (by have := HVB.out; omega) (by have := HVB.out; omega))
            have HSZ5 : Hid (w8.heap.size ≤ x5.heap.size) := Nat.le_trans hsz.out (Nat.le_trans HB9.out.size (Nat.le_trans HA9.out.size hkm5.size))
            clear hl5 hp5 hkm5
            have HWB := hide (below_alloc x5 (.cells #[.int .i64 1, .int .i64 1, .int .i64 (0), .int .i64 0] 3))
            have HEQ := hide (eqI_at [1, 1, 0, 0] _ AnyB (x5.alloc (.cells #[.int .i64 1, .int .i64 1, .int .i64 (0), .int .i64 0] 3)) o5 (some ⟨x5.heap.size, 0, none⟩) k5 4 (HL5.out.below HWB.out) (Lies.blk (cs := intsC [1, 1, 0, 0]) (blk_new x5 (.cells #[.int .i64 1, .int .i64 1, .int .i64 (0), .int .i64 0] 3)) trivial) (by simp))
            simp only [List.length_cons, List.length_nil, Nat.zero_add, Nat.reduceAdd] at HEQ
            go_wp2_with fail
            refine HEQ.out.mono ?_
            rintro e x6 ⟨rfl, hb6⟩
            have HX6 := hide (HWB.out.trans (hb6.mono HWB.out.size))
            clear hb6
            go_wp2_with fail
            exact ⟨⟨j + 1, run + 1, 1, 0, by omega, by go_num, rfl, rfl, rfl, ⟨by omega, by omega⟩, by simp, ⟨by omega, by omega⟩, hide ⟨q2, HBI2.out, HP5.out.of HX6.out, HKN.out⟩, hide (HBX.out.trans (HX6.out.mono HBX.out.size)), hide (Nat.le_trans HSZ5.out HX6.out.size)⟩, by simp [intOf]; omega⟩
          · skip
            have hcn : ¬ (k : Int) ≤ 0 := by omega
            have HG := hide (bgo k run 0 count 1 1 q HBI.out (by simp) (by simp) (by simp) hr0 hc0 hc1 (run + 1) 1 (0) (by simp) (by simp) (by simp [*]))
            have HST := hide (sstep_at ds body [1, 1] (fun c => c < w5.heap.size) (fun c => c ≠ V ∧ c ≠ B) (w9.alloc (.cells #[.int .i64 1, .int .i64 1] 3)) P V B (.slice (some ⟨w9.heap.size, 0, none⟩) 2 2) ca da cc dc q.1 q.2 (kindK ds) (HP9.out.of (below_alloc _ _))
              (IsRow.same HDY.out fun c h1 h2 => (Below.trans HRB.out ((below_alloc w9 _).mono HRB.out.size)).block c h2) (HSY.out.same fun c h1 h2 => (Below.trans HRB.out ((below_alloc w9 _).mono HRB.out.size)).block c h2)
              (fun c h => ⟨Nat.lt_of_lt_of_le (Nat.lt_of_lt_of_le h (by have := HVB.out; have := HRB.out.size; omega)) (below_alloc w9 _).size, by have := HVB.out; have h : c < w5.heap.size := h; exact ⟨by omega, by omega⟩⟩)
              ⟨some ⟨w9.heap.size, 0, none⟩, 2, rfl, Lies.blk (cs := intsC [1, 1]) (blk_new w9 (.cells #[.int .i64 1, .int .i64 1] 3)) (by have := HVB.out; have := hsz.out; have := HB9.out.size; exact ⟨by omega, by omega⟩), Nat.le_refl _, by decide⟩
              (fun c h => h) HK.out HF.out.fit HF.out.qm HF.out.size (by have := HF.out.many; simp only at this; omega))
            have HKN := hide (kok_step (K := kindK ds) (p := (ds, body)) (g := [1, 1]) (q := q) HF.out.fit HK.out)
            rw [HES.out] at HST HKN
            have HOO : Hid (outS (stepS (bDs, bBody k) [1, 1] q).1 ds = [0, 1, 0, 0]) := by
              show _ = _
              rw [HDS.out, HG.out.2, if_neg (fun h => hrn h.2), if_neg hcn]
            rw [HOO.out] at HST
            have HBI2 := hide HG.out.1
            generalize stepS (bDs, bBody k) [1, 1] q = q2 at *
            have HA9 := hide (below_alloc w9 (.cells #[.int .i64 1, .int .i64 1] 3))
            clear HG HOO
            have hand : bits BinOp.andNot IntKind.i64 1 0 = 1 := by kernel_rfl
            have hmn : min (count + 1) 255 = 255 := by omega
            go_wp2_with fail
            generalize (w9.alloc (.cells #[.int .i64 1, .int .i64 1] 3)) = x1 at *
            refine HST.out.mono ?_
            rintro e x5 ⟨⟨o5, k5, rfl, hl5⟩, hp5, hkm5⟩
            have HL5 := hide hl5
            have HP5 := hide hp5
            have HBX : Hid (Below w6.heap.size w6 x5) := (HRB.out.trans (HA9.out.mono HRB.out.size)).trans (hkm5.below (Nat.le_trans HRB.out.size HA9.out.size) (by have := HVB.out; omega) (by have := HVB.out; omega))
            have HSZ5 : Hid (w8.heap.size ≤ x5.heap.size) := Nat.le_trans hsz.out (Nat.le_trans HB9.out.size (Nat.le_trans HA9.out.size hkm5.size))
            clear hl5 hp5 hkm5
            have HWB := hide (below_alloc x5 (.cells #[.int .i64 0, .int .i64 1, .int .i64 (0), .int .i64 0] 3))
            have HEQ := hide (eqI_at [0, 1, 0, 0] _ AnyB (x5.alloc (.cells #[.int .i64 0, .int .i64 1, .int .i64 (0), .int .i64 0] 3)) o5 (some ⟨x5.heap.size, 0, none⟩) k5 4 (HL5.out.below HWB.out) (Lies.blk (cs := intsC [0, 1, 0, 0]) (blk_new x5 (.cells #[.int .i64 0, .int .i64 1, .int .i64 (0), .int .i64 0] 3)) trivial) (by simp))
            simp only [List.length_cons, List.length_nil, Nat.zero_add, Nat.reduceAdd] at HEQ
            go_wp2_with fail
            refine HEQ.out.mono ?_
            rintro e x6 ⟨rfl, hb6⟩
            have HX6 := hide (HWB.out.trans (hb6.mono HWB.out.size))
            clear hb6
            go_wp2_with fail
            exact ⟨⟨j + 1, run + 1, 1, 0, by omega, by go_num, rfl, rfl, rfl, ⟨by omega, by omega⟩, by simp, ⟨by omega, by omega⟩, hide ⟨q2, HBI2.out, HP5.out.of HX6.out, HKN.out⟩, hide (HBX.out.trans (HX6.out.mono HBX.out.size)), hide (Nat.le_trans HSZ5.out HX6.out.size)⟩, by simp [intOf]; omega⟩
        · skip
          by_cases hrn : (k : Int) ≤ run + 1
          · skip
            have hcn : ¬ (k : Int) ≤ 0 := by omega
            have HG := hide (bgo k run 0 count 1 1 q HBI.out (by simp) (by simp) (by simp) hr0 hc0 hc1 (run + 1) 1 (0) (by simp) (by simp) (by simp [*]))
            have HST := hide (sstep_at ds body [1, 1] (fun c => c < w5.heap.size) (fun c => c ≠ V ∧ c ≠ B) (w9.alloc (.cells #[.int .i64 1, .int .i64 1] 3)) P V B (.slice (some ⟨w9.heap.size, 0, none⟩) 2 2) ca da cc dc q.1 q.2 (kindK ds) (HP9.out.of (below_alloc _ _))
              (IsRow.same HDY.out fun c h1 h2 => (Below.trans HRB.out ((below_alloc w9 _).mono HRB.out.size)).block c h2) (HSY.out.same fun c h1 h2 => (Below.trans HRB.out ((below_alloc w9 _).mono HRB.out.size)).block c h2)
              (fun c h => ⟨Nat.lt_of_lt_of_le (Nat.lt_of_lt_of_le h (by have := HVB.out; have := HRB.out.size; omega)) (below_alloc w9 _).size, by have := HVB.out; have h : c < w5.heap.size := h; exact ⟨by omega, by omega⟩⟩)
              ⟨some ⟨w9.heap.size, 0, none⟩, 2, rfl, Lies.blk (cs := intsC [1, 1]) (blk_new w9 (.cells #[.int .i64 1, .int .i64 1] 3)) (by have := HVB.out; have := hsz.out; have := HB9.out.size; exact ⟨by omega, by omega⟩), Nat.le_refl _, by decide⟩
              (fun c h => h) HK.out HF.out.fit HF.out.qm HF.out.size (by have := HF.out.many; simp only at this; omega))
            have HKN := hide (kok_step (K := kindK ds) (p := (ds, body)) (g := [1, 1]) (q := q) HF.out.fit HK.out)
            rw [HES.out] at HST HKN
            have HOO : Hid (outS (stepS (bDs, bBody k) [1, 1] q).1 ds = [1, 1, 0, 0]) := by
              show _ = _
              rw [HDS.out, HG.out.2, if_pos ⟨rfl, hrn⟩, if_neg hcn]
            rw [HOO.out] at HST
            have HBI2 := hide HG.out.1
            generalize stepS (bDs, bBody k) [1, 1] q = q2 at *
            have HA9 := hide (below_alloc w9 (.cells #[.int .i64 1, .int .i64 1] 3))
            clear HG HOO
            have hand : bits BinOp.andNot IntKind.i64 1 0 = 1 := by kernel_rfl
            have hmn : min (count + 1) 255 = count + 1 := by omega
            go_wp2_with fail
            generalize (w9.alloc (.cells #[.int .i64 1, .int .i64 1] 3)) = x1 at *
            refine HST.out.mono ?_
            rintro e x5 ⟨⟨o5, k5, rfl, hl5⟩, hp5, hkm5⟩
            have HL5 := hide hl5
            have HP5 := hide hp5
            have HBX : Hid (Below w6.heap.size w6 x5) := (HRB.out.trans (HA9.out.mono HRB.out.size)).trans (hkm5.below (Nat.le_trans HRB.out.size HA9.out.size) (by have := HVB.out; omega) (by have := HVB.out; omega))
            have HSZ5 : Hid (w8.heap.size ≤ x5.heap.size) := Nat.le_trans hsz.out (Nat.le_trans HB9.out.size (Nat.le_trans HA9.out.size hkm5.size))
            clear hl5 hp5 hkm5
            have HWB := hide (below_alloc x5 (.cells #[.int .i64 1, .int .i64 1, .int .i64 (0), .int .i64 0] 3))
            have HEQ := hide (eqI_at [1, 1, 0, 0] _ AnyB (x5.alloc (.cells #[.int .i64 1, .int .i64 1, .int .i64 (0), .int .i64 0] 3)) o5 (some ⟨x5.heap.size, 0, none⟩) k5 4 (HL5.out.below HWB.out) (Lies.blk (cs := intsC [1, 1, 0, 0]) (blk_new x5 (.cells #[.int .i64 1, .int .i64 1, .int .i64 (0), .int .i64 0] 3)) trivial) (by simp))
            simp only [List.length_cons, List.length_nil, Nat.zero_add, Nat.reduceAdd] at HEQ
            go_wp2_with fail
            refine HEQ.out.mono ?_
            rintro e x6 ⟨rfl, hb6⟩
            have HX6 := hide (HWB.out.trans (hb6.mono HWB.out.size))
            clear hb6
            go_wp2_with fail
            exact ⟨⟨j + 1, run + 1, 1, 0, by omega, by go_num, rfl, rfl, rfl, ⟨by omega, by omega⟩, by simp, ⟨by omega, by omega⟩, hide ⟨q2, HBI2.out, HP5.out.of HX6.out, HKN.out⟩, hide (HBX.out.trans (HX6.out.mono HBX.out.size)), hide (Nat.le_trans HSZ5.out HX6.out.size)⟩, by simp [intOf]; omega⟩
          · skip
            have hcn : ¬ (k : Int) ≤ 0 := by omega
            have HG := hide (bgo k run 0 count 1 1 q HBI.out (by simp) (by simp) (by simp) hr0 hc0 hc1 (run + 1) 1 (0) (by simp) (by simp) (by simp [*]))
            have HST := hide (sstep_at ds body [1, 1] (fun c => c < w5.heap.size) (fun c => c ≠ V ∧ c ≠ B) (w9.alloc (.cells #[.int .i64 1, .int .i64 1] 3)) P V B (.slice (some ⟨w9.heap.size, 0, none⟩) 2 2) ca da cc dc q.1 q.2 (kindK ds) (HP9.out.of (below_alloc _ _))
              (IsRow.same HDY.out fun c h1 h2 => (Below.trans HRB.out ((below_alloc w9 _).mono HRB.out.size)).block c h2) (HSY.out.same fun c h1 h2 => (Below.trans HRB.out ((below_alloc w9 _).mono HRB.out.size)).block c h2)
              (fun c h => ⟨Nat.lt_of_lt_of_le (Nat.lt_of_lt_of_le h (by have := HVB.out; have := HRB.out.size; omega)) (below_alloc w9 _).size, by have := HVB.out; have h : c < w5.heap.size := h; exact ⟨by omega, by omega⟩⟩)
              ⟨some ⟨w9.heap.size, 0, none⟩, 2, rfl, Lies.blk (cs := intsC [1, 1]) (blk_new w9 (.cells #[.int .i64 1, .int .i64 1] 3)) (by have := HVB.out; have := hsz.out; have := HB9.out.size; exact ⟨by omega, by omega⟩), Nat.le_refl _, by decide⟩
              (fun c h => h) HK.out HF.out.fit HF.out.qm HF.out.size (by have := HF.out.many; simp only at this; omega))
            have HKN := hide (kok_step (K := kindK ds) (p := (ds, body)) (g := [1, 1]) (q := q) HF.out.fit HK.out)
            rw [HES.out] at HST HKN
            have HOO : Hid (outS (stepS (bDs, bBody k) [1, 1] q).1 ds = [0, 1, 0, 0]) := by
              show _ = _
              rw [HDS.out, HG.out.2, if_neg (fun h => hrn h.2), if_neg hcn]
            rw [HOO.out] at HST
            have HBI2 := hide HG.out.1
            generalize stepS (bDs, bBody k) [1, 1] q = q2 at *
            have HA9 := hide (below_alloc w9 (.cells #[.int .i64 1, .int .i64 1] 3))
            clear HG HOO
            have hand : bits BinOp.andNot IntKind.i64 1 0 = 1 := by kernel_rfl
            have hmn : min (count + 1) 255 = count + 1 := by omega
            go_wp2_with fail
            generalize (w9.alloc (.cells #[.int .i64 1, .int .i64 1] 3)) = x1 at *
            refine HST.out.mono ?_
            rintro e x5 ⟨⟨o5, k5, rfl, hl5⟩, hp5, hkm5⟩
            have HL5 := hide hl5
            have HP5 := hide hp5
            have HBX : Hid (Below w6.heap.size w6 x5) := (HRB.out.trans (HA9.out.mono HRB.out.size)).trans (hkm5.below (Nat.le_trans HRB.out.size HA9.out.size) (by have := HVB.out; omega) (by have := HVB.out; omega))
            have HSZ5 : Hid (w8.heap.size ≤ x5.heap.size) := Nat.le_trans hsz.out (Nat.le_trans HB9.out.size (Nat.le_trans HA9.out.size hkm5.size))
            clear hl5 hp5 hkm5
            have HWB := hide (below_alloc x5 (.cells #[.int .i64 0, .int .i64 1, .int .i64 (0), .int .i64 0] 3))
            have HEQ := hide (eqI_at [0, 1, 0, 0] _ AnyB (x5.alloc (.cells #[.int .i64 0, .int .i64 1, .int .i64 (0), .int .i64 0] 3)) o5 (some ⟨x5.heap.size, 0, none⟩) k5 4 (HL5.out.below HWB.out) (Lies.blk (cs := intsC [0, 1, 0, 0]) (blk_new x5 (.cells #[.int .i64 0, .int .i64 1, .int .i64 (0), .int .i64 0] 3)) trivial) (by simp))
            simp only [List.length_cons, List.length_nil, Nat.zero_add, Nat.reduceAdd] at HEQ
            go_wp2_with fail
            refine HEQ.out.mono ?_
            rintro e x6 ⟨rfl, hb6⟩
            have HX6 := hide (HWB.out.trans (hb6.mono HWB.out.size))
            clear hb6
            go_wp2_with fail
            exact ⟨⟨j + 1, run + 1, 1, 0, by omega, by go_num, rfl, rfl, rfl, ⟨by omega, by omega⟩, by simp, ⟨by omega, by omega⟩, hide ⟨q2, HBI2.out, HP5.out.of HX6.out, HKN.out⟩, hide (HBX.out.trans (HX6.out.mono HBX.out.size)), hide (Nat.le_trans HSZ5.out HX6.out.size)⟩, by simp [intOf]; omega⟩
      · skip
        have hm : ¬ (255 : Int) < count := by omega
        by_cases hcn : (k : Int) ≤ count
        · skip
          have HG := hide (bgo k run 1 count 0 0 q HBI.out (by simp) (by simp) (by simp) hr0 hc0 hc1 (0) 0 (count) (by simp) (by simp) (by simp [*]))
          have HST := hide (sstep_at ds body [0, 0] (fun c => c < w5.heap.size) (fun c => c ≠ V ∧ c ≠ B) (w9.alloc (.cells #[.int .i64 0, .int .i64 0] 3)) P V B (.slice (some ⟨w9.heap.size, 0, none⟩) 2 2) ca da cc dc q.1 q.2 (kindK ds) (HP9.out.of (below_alloc _ _))
            (IsRow.same HDY.out fun c h1 h2 => (Below.trans HRB.out ((below_alloc w9 _).mono HRB.out.size)).block c h2) (HSY.out.same fun c h1 h2 => (Below.trans HRB.out ((below_alloc w9 _).mono HRB.out.size)).block c h2)
            (fun c h => ⟨Nat.lt_of_lt_of_le (Nat.lt_of_lt_of_le h (by have := HVB.out; have := HRB.out.size; omega)) (below_alloc w9 _).size, by have := HVB.out; have h : c < w5.heap.size := h; exact ⟨by omega, by omega⟩⟩)
            ⟨some ⟨w9.heap.size, 0, none⟩, 2, rfl, Lies.blk (cs := intsC [0, 0]) (blk_new w9 (.cells #[.int .i64 0, .int .i64 0] 3)) (by have := HVB.out; have := hsz.out; have := HB9.out.size; exact ⟨by omega, by omega⟩), Nat.le_refl _, by decide⟩
            (fun c h => h) HK.out HF.out.fit HF.out.qm HF.out.size (by have := HF.out.many; simp only at this; omega))
          have HKN := hide (kok_step (K := kindK ds) (p := (ds, body)) (g := [0, 0]) (q := q) HF.out.fit HK.out)
          rw [HES.out] at HST HKN
          have HOO : Hid (outS (stepS (bDs, bBody k) [0, 0] q).1 ds = [0, 0, count, 1]) := by
            show _ = _
            rw [HDS.out, HG.out.2, if_neg (fun h => absurd h.1 (by decide)), if_pos hcn]
          rw [HOO.out] at HST
          have HBI2 := hide HG.out.1
          generalize stepS (bDs, bBody k) [0, 0] q = q2 at *
          have HA9 := hide (below_alloc w9 (.cells #[.int .i64 0, .int .i64 0] 3))
          clear HG HOO
          have hand : bits BinOp.andNot IntKind.i64 0 1 = 0 := by kernel_rfl
          have hmn : min (count) 255 = count := by omega
          go_wp2_with fail
          generalize (w9.alloc (.cells #[.int .i64 0, .int .i64 0] 3)) = x1 at *
          refine HST.out.mono ?_
          rintro e x5 ⟨⟨o5, k5, rfl, hl5⟩, hp5, hkm5⟩
          have HL5 := hide hl5
          have HP5 := hide hp5
          have HBX : Hid (Below w6.heap.size w6 x5) := (HRB.out.trans (HA9.out.mono HRB.out.size)).trans (hkm5.below (Nat.le_trans HRB.out.size HA9.out.size) (by have := HVB.out; omega) (by have := HVB.out; omega))
          have HSZ5 : Hid (w8.heap.size ≤ x5.heap.size) := Nat.le_trans hsz.out (Nat.le_trans HB9.out.size (Nat.le_trans HA9.out.size hkm5.size))
          clear hl5 hp5 hkm5
          have HWB := hide (below_alloc x5 (.cells #[.int .i64 0, .int .i64 0, .int .i64 (count), .int .i64 1] 3))
          have HEQ := hide (eqI_at [0, 0, count, 1] _ AnyB (x5.alloc (.cells #[.int .i64 0, .int .i64 0, .int .i64 (count), .int .i64 1] 3)) o5 (some ⟨x5.heap.size, 0, none⟩) k5 4 (HL5.out.below HWB.out) (Lies.blk (cs := intsC [0, 0, count, 1]) (blk_new x5 (.cells #[.int .i64 0, .int .i64 0, .int .i64 (count), .int .i64 1] 3)) trivial) (by simp))
          simp only [List.length_cons, List.length_nil, Nat.zero_add, Nat.reduceAdd] at HEQ
          go_wp2_with fail
          refine HEQ.out.mono ?_
          rintro e x6 ⟨rfl, hb6⟩
          have HX6 := hide (HWB.out.trans (hb6.mono HWB.out.size))
          clear hb6
          go_wp2_with fail
          exact ⟨⟨j + 1, 0, 0, count, by omega, by go_num, rfl, rfl, rfl, ⟨by omega, by omega⟩, by simp, ⟨by omega, by omega⟩, hide ⟨q2, HBI2.out, HP5.out.of HX6.out, HKN.out⟩, hide (HBX.out.trans (HX6.out.mono HBX.out.size)), hide (Nat.le_trans HSZ5.out HX6.out.size)⟩, by simp [intOf]; omega⟩
        · skip
          have HG := hide (bgo k run 1 count 0 0 q HBI.out (by simp) (by simp) (by simp) hr0 hc0 hc1 (0) 0 (count) (by simp) (by simp) (by simp [*]))
          have HST := hide (sstep_at ds body [0, 0] (fun c => c < w5.heap.size) (fun c => c ≠ V ∧ c ≠ B) (w9.alloc (.cells #[.int .i64 0, .int .i64 0] 3)) P V B (.slice (some ⟨w9.heap.size, 0, none⟩) 2 2) ca da cc dc q.1 q.2 (kindK ds) (HP9.out.of (below_alloc _ _))
            (IsRow.same HDY.out fun c h1 h2 => (Below.trans HRB.out ((below_alloc w9 _).mono HRB.out.size)).block c h2) (HSY.out.same fun c h1 h2 => (Below.trans HRB.out ((below_alloc w9 _).mono HRB.out.size)).block c h2)
            (fun c h => ⟨Nat.lt_of_lt_of_le (Nat.lt_of_lt_of_le h (by have := HVB.out; have := HRB.out.size; omega)) (below_alloc w9 _).size, by have := HVB.out; have h : c < w5.heap.size := h; exact ⟨by omega, by omega⟩⟩)
            ⟨some ⟨w9.heap.size, 0, none⟩, 2, rfl, Lies.blk (cs := intsC [0, 0]) (blk_new w9 (.cells #[.int .i64 0, .int .i64 0] 3)) (by have := HVB.out; have := hsz.out; have := HB9.out.size; exact ⟨by omega, by omega⟩), Nat.le_refl _, by decide⟩
            (fun c h => h) HK.out HF.out.fit HF.out.qm HF.out.size (by have := HF.out.many; simp only at this; omega))
          have HKN := hide (kok_step (K := kindK ds) (p := (ds, body)) (g := [0, 0]) (q := q) HF.out.fit HK.out)
          rw [HES.out] at HST HKN
          have HOO : Hid (outS (stepS (bDs, bBody k) [0, 0] q).1 ds = [0, 0, count, 0]) := by
            show _ = _
            rw [HDS.out, HG.out.2, if_neg (fun h => absurd h.1 (by decide)), if_neg hcn]
          rw [HOO.out] at HST
          have HBI2 := hide HG.out.1
          generalize stepS (bDs, bBody k) [0, 0] q = q2 at *
          have HA9 := hide (below_alloc w9 (.cells #[.int .i64 0, .int .i64 0] 3))
          clear HG HOO
          have hand : bits BinOp.andNot IntKind.i64 0 1 = 0 := by kernel_rfl
          have hmn : min (count) 255 = count := by omega
          go_wp2_with fail
          generalize (w9.alloc (.cells #[.int .i64 0, .int .i64 0] 3)) = x1 at *
          refine HST.out.mono ?_
          rintro e x5 ⟨⟨o5, k5, rfl, hl5⟩, hp5, hkm5⟩
          have HL5 := hide hl5
          have HP5 := hide hp5
          have HBX : Hid (Below w6.heap.size w6 x5) := (HRB.out.trans (HA9.out.mono HRB.out.size)).trans (hkm5.below (Nat.le_trans HRB.out.size HA9.out.size) (by have := HVB.out; omega) (by have := HVB.out; omega))
          have HSZ5 : Hid (w8.heap.size ≤ x5.heap.size) := Nat.le_trans hsz.out (Nat.le_trans HB9.out.size (Nat.le_trans HA9.out.size hkm5.size))
          clear hl5 hp5 hkm5
          have HWB := hide (below_alloc x5 (.cells #[.int .i64 0, .int .i64 0, .int .i64 (count), .int .i64 0] 3))
          have HEQ := hide (eqI_at [0, 0, count, 0] _ AnyB (x5.alloc (.cells #[.int .i64 0, .int .i64 0, .int .i64 (count), .int .i64 0] 3)) o5 (some ⟨x5.heap.size, 0, none⟩) k5 4 (HL5.out.below HWB.out) (Lies.blk (cs := intsC [0, 0, count, 0]) (blk_new x5 (.cells #[.int .i64 0, .int .i64 0, .int .i64 (count), .int .i64 0] 3)) trivial) (by simp))
          simp only [List.length_cons, List.length_nil, Nat.zero_add, Nat.reduceAdd] at HEQ
          go_wp2_with fail
          refine HEQ.out.mono ?_
          rintro e x6 ⟨rfl, hb6⟩
          have HX6 := hide (HWB.out.trans (hb6.mono HWB.out.size))
          clear hb6
          go_wp2_with fail
          exact ⟨⟨j + 1, 0, 0, count, by omega, by go_num, rfl, rfl, rfl, ⟨by omega, by omega⟩, by simp, ⟨by omega, by omega⟩, hide ⟨q2, HBI2.out, HP5.out.of HX6.out, HKN.out⟩, hide (HBX.out.trans (HX6.out.mono HBX.out.size)), hide (Nat.le_trans HSZ5.out HX6.out.size)⟩, by simp [intOf]; omega⟩
      · skip
        have hm : ¬ (255 : Int) < count := by omega
        have hcn : ¬ (k : Int) ≤ 0 := by omega
        have HG := hide (bgo k run 1 count 0 1 q HBI.out (by simp) (by simp) (by simp) hr0 hc0 hc1 (0) 0 (0) (by simp) (by simp) (by simp [*]))
        have HST := hide (sstep_at ds body [0, 1] (fun c => c < w5.heap.size) (fun c => c ≠ V ∧ c ≠ B) (w9.alloc (.cells #[.int .i64 0, .int .i64 1] 3)) P V B (.slice (some ⟨w9.heap.size, 0, none⟩) 2 2) ca da cc dc q.1 q.2 (kindK ds) (HP9.out.of (below_alloc _ _))
          (IsRow.same HDY.out fun c h1 h2 => (Below.trans HRB.out ((below_alloc w9 _).mono HRB.out.size)).block c h2) (HSY.out.same fun c h1 h2 => (Below.trans HRB.out ((below_alloc w9 _).mono HRB.out.size)).block c h2)
          (fun c h => ⟨Nat.lt_of_lt_of_le (Nat.lt_of_lt_of_le h (by have := HVB.out; have := HRB.out.size; omega)) (below_alloc w9 _).size, by have := HVB.out; have h : c < w5.heap.size := h; exact ⟨by omega, by omega⟩⟩)
          ⟨some ⟨w9.heap.size, 0, none⟩, 2, rfl, Lies.blk (cs := intsC [0, 1]) (blk_new w9 (.cells #[.int .i64 0, .int .i64 1] 3)) (by have := HVB.out; have := hsz.out; have := HB9.out.size; exact ⟨by omega, by omega⟩), Nat.le_refl _, by decide⟩
          (fun c h => h) HK.out HF.out.fit HF.out.qm HF.out.size (by have := HF.out.many; simp only at this; omega))
        have HKN := hide (kok_step (K := kindK ds) (p := (ds, body)) (g := [0, 1]) (q := q) HF.out.fit HK.out)
        rw [HES.out] at HST HKN
        have HOO : Hid (outS (stepS (bDs, bBody k) [0, 1] q).1 ds = [0, 0, 0, 0]) := by
          show _ = _
          rw [HDS.out, HG.out.2, if_neg (fun h => absurd h.1 (by decide)), if_neg hcn]
        rw [HOO.out] at HST
        have HBI2 := hide HG.out.1
        generalize stepS (bDs, bBody k) [0, 1] q = q2 at *
        have HA9 := hide (below_alloc w9 (.cells #[.int .i64 0, .int .i64 1] 3))
        clear HG HOO
        have hand : bits BinOp.andNot IntKind.i64 0 1 = 0 := by kernel_rfl
        have hmn : min (count) 255 = count := by omega
        go_wp2_with fail
        generalize (w9.alloc (.cells #[.int .i64 0, .int .i64 1] 3)) = x1 at *
        refine HST.out.mono ?_
        rintro e x5 ⟨⟨o5, k5, rfl, hl5⟩, hp5, hkm5⟩
        have HL5 := hide hl5
        have HP5 := hide hp5
        have HBX : Hid (Below w6.heap.size w6 x5) := (HRB.out.trans (HA9.out.mono HRB.out.size)).trans (hkm5.below (Nat.le_trans HRB.out.size HA9.out.size) (by have := HVB.out; omega) (by have := HVB.out; omega))
        have HSZ5 : Hid (w8.heap.size ≤ x5.heap.size) := Nat.le_trans hsz.out (Nat.le_trans HB9.out.size (Nat.le_trans HA9.out.size hkm5.size))
        clear hl5 hp5 hkm5
        have HWB := hide (below_alloc x5 (.cells #[.int .i64 0, .int .i64 0, .int .i64 (0), .int .i64 0] 3))
        have HEQ := hide (eqI_at [0, 0, 0, 0] _ AnyB (x5.alloc (.cells #[.int .i64 0, .int .i64 0, .int .i64 (0), .int .i64 0] 3)) o5 (some ⟨x5.heap.size, 0, none⟩) k5 4 (HL5.out.below HWB.out) (Lies.blk (cs := intsC [0, 0, 0, 0]) (blk_new x5 (.cells #[.int .i64 0, .int .i64 0, .int .i64 (0), .int .i64 0] 3)) trivial) (by simp))
        simp only [List.length_cons, List.length_nil, Nat.zero_add, Nat.reduceAdd] at HEQ
        go_wp2_with fail
        refine HEQ.out.mono ?_
        rintro e x6 ⟨rfl, hb6⟩
        have HX6 := hide (HWB.out.trans (hb6.mono HWB.out.size))
        clear hb6
        go_wp2_with fail
        exact ⟨⟨j + 1, 0, 0, 0, by omega, by go_num, rfl, rfl, rfl, ⟨by omega, by omega⟩, by simp, ⟨by omega, by omega⟩, hide ⟨q2, HBI2.out, HP5.out.of HX6.out, HKN.out⟩, hide (HBX.out.trans (HX6.out.mono HBX.out.size)), hide (Nat.le_trans HSZ5.out HX6.out.size)⟩, by simp [intOf]; omega⟩
      · skip
        have hm : ¬ (255 : Int) < count := by omega
        by_cases hrn : (k : Int) ≤ run + 1
        · skip
          by_cases hcn : (k : Int) ≤ count
          · skip
            have HG := hide (bgo k run 1 count 1 0 q HBI.out (by simp) (by simp) (by simp) hr0 hc0 hc1 (run + 1) 0 (count) (by simp) (by simp) (by simp [*]))
            have HST := hide (sstep_at ds body [1, 0] (fun c => c < w5.heap.size) (fun c => c ≠ V ∧ c ≠ B) (w9.alloc (.cells #[.int .i64 1, .int .i64 0] 3)) P V B (.slice (some ⟨w9.heap.size, 0, none⟩) 2 2) ca da cc dc q.1 q.2 (kindK ds) (HP9.out.of (below_alloc _ _))
              (IsRow.same HDY.out fun c h1 h2 => (Below.trans HRB.out ((below_alloc w9 _).mono HRB.out.size)).block c h2) (HSY.out.same fun c h1 h2 => (Below.trans HRB.out ((below_alloc w9 _).mono HRB.out.size)).block c h2)
              (fun c h => ⟨Nat.lt_of_lt_of_le (Nat.lt_of_lt_of_le h (by have := HVB.out; have := HRB.out.size; omega)) (below_alloc w9 _).size, by have := HVB.out; have h : c < w5.heap.size := h; exact ⟨by omega, by omega⟩⟩)
              ⟨some ⟨w9.heap.size, 0, none⟩, 2, rfl, Lies.blk (cs := intsC [1, 0]) (blk_new w9 (.cells #[.int .i64 1, .int .i64 0] 3)) (by have := HVB.out; have := hsz.out; have := HB9.out.size; exact ⟨by omega, by omega⟩), Nat.le_refl _, by decide⟩
              (fun c h => h) HK.out HF.out.fit HF.out.qm HF.out.size (by have := HF.out.many; simp only at this; omega))
            have HKN := hide (kok_step (K := kindK ds) (p := (ds, body)) (g := [1, 0]) (q := q) HF.out.fit HK.out)
            rw [HES.out] at HST HKN
            have HOO : Hid (outS (stepS (bDs, bBody k) [1, 0] q).1 ds = [1, 0, count, 1]) := by
              show _ = _
              rw [HDS.out, HG.out.2, if_pos ⟨rfl, hrn⟩, if_pos hcn]
            rw [HOO.out] at HST
            have HBI2 := hide HG.out.1
            generalize stepS (bDs, bBody k) [1, 0] q = q2 at *
            have HA9 := hide (below_alloc w9 (.cells #[.int .i64 1, .int .i64 0] 3))
            clear HG HOO
            have hand : bits BinOp.andNot IntKind.i64 1 1 = 0 := by kernel_rfl
            have hmn : min (count) 255 = count := by omega
            go_wp2_with fail
            generalize (w9.alloc (.cells #[.int .i64 1, .int .i64 0] 3)) = x1 at *
            refine HST.out.mono ?_
            rintro e x5 ⟨⟨o5, k5, rfl, hl5⟩, hp5, hkm5⟩
            have HL5 := hide hl5
            have HP5 := hide hp5
            have HBX : Hid (Below w6.heap.size w6 x5) := (HRB.out.trans (HA9.out.mono HRB.out.size)).trans (hkm5.below (Nat.le_trans HRB.out.size HA9.out.size) (by have := HVB.out; omega) (by have := HVB.out; omega))
            have HSZ5 : Hid (w8.heap.size ≤ x5.heap.size) := Nat.le_trans hsz.out (Nat.le_trans HB9.out.size (Nat.le_trans HA9.out.size hkm5.size))
            clear hl5 hp5 hkm5
            have HWB := hide (below_alloc x5 (.cells #[.int .i64 1, .int .i64 0, .int .i64 (count), .int .i64 1] 3))
            have HEQ := hide (eqI_at [1, 0, count, 1] _ AnyB (x5.alloc (.cells #[.int .i64 1, .int .i64 0, .int .i64 (count), .int .i64 1] 3)) o5 (some ⟨x5.heap.size, 0, none⟩) k5 4 (HL5.out.below HWB.out) (Lies.blk (cs := intsC [1, 0, count, 1]) (blk_new x5 (.cells #[.int .i64 1, .int .i64 0, .int .i64 (count), .int .i64 1] 3)) trivial) (by simp))
            simp only [List.length_cons, List.length_nil, Nat.zero_add, Nat.reduceAdd] at HEQ
            go_wp2_with fail
            refine HEQ.out.mono ?_
            rintro e x6 ⟨rfl, hb6⟩
            have HX6 := hide (HWB.out.trans (hb6.mono HWB.out.size))
            clear hb6
            go_wp2_with fail
            exact ⟨⟨j + 1, run + 1, 1, count, by omega, by go_num, rfl, rfl, rfl, ⟨by omega, by omega⟩, by simp, ⟨by omega, by omega⟩, hide ⟨q2, HBI2.out, HP5.out.of HX6.out, HKN.out⟩, hide (HBX.out.trans (HX6.out.mono HBX.out.size)), hide (Nat.le_trans HSZ5.out HX6.out.size)⟩, by simp [intOf]; omega⟩
          · skip
            have HG := hide (bgo k run 1 count 1 0 q HBI.out (by simp) (by simp) (by simp) hr0 hc0 hc1 (run + 1) 0 (count) (by simp) (by simp) (by simp [*]))
            have HST := hide (sstep_at ds body [1, 0] (fun c => c < w5.heap.size) (fun c => c ≠ V ∧ c ≠ B) (w9.alloc (.cells #[.int .i64 1, .int .i64 0] 3)) P V B (.slice (some ⟨w9.heap.size, 0, none⟩) 2 2) ca da cc dc q.1 q.2 (kindK ds) (HP9.out.of (below_alloc _ _))
              (IsRow.same HDY.out fun c h1 h2 => (Below.trans HRB.out ((below_alloc w9 _).mono HRB.out.size)).block c h2) (HSY.out.same fun c h1 h2 => (Below.trans HRB.out ((below_alloc w9 _).mono HRB.out.size)).block c h2)
              (fun c h => ⟨Nat.lt_of_lt_of_le (Nat.lt_of_lt_of_le h (by have := HVB.out; have := HRB.out.size; omega)) (below_alloc w9 _).size, by have := HVB.out; have h : c < w5.heap.size := h; exact ⟨by omega, by omega⟩⟩)
              ⟨some ⟨w9.heap.size, 0, none⟩, 2, rfl, Lies.blk (cs := intsC [1, 0]) (blk_new w9 (.cells #[.int .i64 1, .int .i64 0] 3)) (by have := HVB.out; have := hsz.out; have := HB9.out.size; exact ⟨by omega, by omega⟩), Nat.le_refl _, by decide⟩
              (fun c h => h) HK.out HF.out.fit HF.out.qm HF.out.size (by have := HF.out.many; simp only at this; omega))
            have HKN := hide (kok_step (K := kindK ds) (p := (ds, body)) (g := [1, 0]) (q := q) HF.out.fit HK.out)
            rw [HES.out] at HST HKN
            have HOO : Hid (outS (stepS (bDs, bBody k) [1, 0] q).1 ds = [1, 0, count, 0]) := by
              show _ = _
              rw [HDS.out, HG.out.2, if_pos ⟨rfl, hrn⟩, if_neg hcn]
            rw [HOO.out] at HST
            have HBI2 := hide HG.out.1
            generalize stepS (bDs, bBody k) [1, 0] q = q2 at *
            have HA9 := hide (below_alloc w9 (.cells #[.int .i64 1, .int .i64 0] 3))
            clear HG HOO
            have hand : bits BinOp.andNot IntKind.i64 1 1 = 0 := by kernel_rfl
            have hmn : min (count) 255 = count := by omega
            go_wp2_with fail
            generalize (w9.alloc (.cells #[.int .i64 1, .int .i64 0] 3)) = x1 at *
            refine HST.out.mono ?_
            rintro e x5 ⟨⟨o5, k5, rfl, hl5⟩, hp5, hkm5⟩
            have HL5 := hide hl5
            have HP5 := hide hp5
            have HBX : Hid (Below w6.heap.size w6 x5) := (HRB.out.trans (HA9.out.mono HRB.out.size)).trans (hkm5.below (Nat.le_trans HRB.out.size HA9.out.size) (by have := HVB.out; omega) (by have := HVB.out; omega))
            have HSZ5 : Hid (w8.heap.size ≤ x5.heap.size) := Nat.le_trans hsz.out (Nat.le_trans HB9.out.size (Nat.le_trans HA9.out.size hkm5.size))
            clear hl5 hp5 hkm5
            have HWB := hide (below_alloc x5 (.cells #[.int .i64 1, .int .i64 0, .int .i64 (count), .int .i64 0] 3))
            have HEQ := hide (eqI_at [1, 0, count, 0] _ AnyB (x5.alloc (.cells #[.int .i64 1, .int .i64 0, .int .i64 (count), .int .i64 0] 3)) o5 (some ⟨x5.heap.size, 0, none⟩) k5 4 (HL5.out.below HWB.out) (Lies.blk (cs := intsC [1, 0, count, 0]) (blk_new x5 (.cells #[.int .i64 1, .int .i64 0, .int .i64 (count), .int .i64 0] 3)) trivial) (by simp))
            simp only [List.length_cons, List.length_nil, Nat.zero_add, Nat.reduceAdd] at HEQ
            go_wp2_with fail
            refine HEQ.out.mono ?_
            rintro e x6 ⟨rfl, hb6⟩
            have HX6 := hide (HWB.out.trans (hb6.mono HWB.out.size))
            clear hb6
            go_wp2_with fail
            exact ⟨⟨j + 1, run + 1, 1, count, by omega, by go_num, rfl, rfl, rfl, ⟨by omega, by omega⟩, by simp, ⟨by omega, by omega⟩, hide ⟨q2, HBI2.out, HP5.out.of HX6.out, HKN.out⟩, hide (HBX.out.trans (HX6.out.mono HBX.out.size)), hide (Nat.le_trans HSZ5.out HX6.out.size)⟩, by simp [intOf]; omega⟩
        · skip
          by_cases hcn : (k : Int) ≤ count
          · skip
            have HG := hide (bgo k run 1 count 1 0 q HBI.out (by simp) (by simp) (by simp) hr0 hc0 hc1 (run + 1) 0 (count) (by simp) (by simp) (by simp [*]))
            have HST := hide (sstep_at ds body [1, 0] (fun c => c < w5.heap.size) (fun c => c ≠ V ∧ c ≠ B) (w9.alloc (.cells #[.int .i64 1, .int .i64 0] 3)) P V B (.slice (some ⟨w9.heap.size, 0, none⟩) 2 2) ca da cc dc q.1 q.2 (kindK ds) (HP9.out.of (below_alloc _ _))
              (IsRow.same HDY.out fun c h1 h2 => (Below.trans HRB.out ((below_alloc w9 _).mono HRB.out.size)).block c h2) (HSY.out.same fun c h1 h2 => (Below.trans HRB.out ((below_alloc w9 _).mono HRB.out.size)).block c h2)
              (fun c h => ⟨Nat.lt_of_lt_of_le (Nat.lt_of_lt_of_le h (by have := HVB.out; have := HRB.out.size; omega)) (below_alloc w9 _).size, by have := HVB.out; have h : c < w5.heap.size := h; exact ⟨by omega, by omega⟩⟩)
              ⟨some ⟨w9.heap.size, 0, none⟩, 2, rfl, Lies.blk (cs := intsC [1, 0]) (blk_new w9 (.cells #[.int .i64 1, .int .i64 0] 3)) (by have := HVB.out; have := hsz.out; have := HB9.out.size; exact ⟨by omega, by omega⟩), Nat.le_refl _, by decide⟩
              (fun c h => h) HK.out HF.out.fit HF.out.qm HF.out.size (by have := HF.out.many; simp only at this; omega))
            have HKN := hide (kok_step (K := kindK ds) (p := (ds, body)) (g := [1, 0]) (q := q) HF.out.fit HK.out)
            rw [HES.out] at HST HKN
            have HOO : Hid (outS (stepS (bDs, bBody k) [1, 0] q).1 ds = [0, 0, count, 1]) := by
              show _ = _
              rw [HDS.out, HG.out.2, if_neg (fun h => hrn h.2), if_pos hcn]
            rw [HOO.out] at HST
            have HBI2 := hide HG.out.1
            generalize stepS (bDs, bBody k) [1, 0] q = q2 at *
            have HA9 := hide (below_alloc w9 (.cells #[.int .i64 1, .int .i64 0] 3))
            clear HG HOO
            have hand : bits BinOp.andNot IntKind.i64 1 1 = 0 := by kernel_rfl
            have hmn : min (count) 255 = count := by omega
            go_wp2_with fail
            generalize (w9.alloc (.cells #[.int .i64 1, .int .i64 0] 3)) = x1 at *
            refine HST.out.mono ?_
            rintro e x5 ⟨⟨o5, k5, rfl, hl5⟩, hp5, hkm5⟩
            have HL5 := hide hl5
            have HP5 := hide hp5
            have HBX : Hid (Below w6.heap.size w6 x5) := (HRB.out.trans (HA9.out.mono HRB.out.size)).trans (hkm5.below (Nat.le_trans HRB.out.size HA9.out.size) (by have := HVB.out; omega) (by have := HVB.out; omega))
            have HSZ5 : Hid (w8.heap.size ≤ x5.heap.size) := Nat.le_trans hsz.out (Nat.le_trans HB9.out.size (Nat.le_trans HA9.out.size hkm5.size))
            clear hl5 hp5 hkm5
            have HWB := hide (below_alloc x5 (.cells #[.int .i64 0, .int .i64 0, .int .i64 (count), .int .i64 1] 3))
            have HEQ := hide (eqI_at [0, 0, count, 1] _ AnyB (x5.alloc (.cells #[.int .i64 0, .int .i64 0, .int .i64 (count), .int .i64 1] 3)) o5 (some ⟨x5.heap.size, 0, none⟩) k5 4 (HL5.out.below HWB.out) (Lies.blk (cs := intsC [0, 0, count, 1]) (blk_new x5 (.cells #[.int .i64 0, .int .i64 0, .int .i64 (count), .int .i64 1] 3)) trivial) (by simp))
            simp only [List.length_cons, List.length_nil, Nat.zero_add, Nat.reduceAdd] at HEQ
            go_wp2_with fail
            refine HEQ.out.mono ?_
            rintro e x6 ⟨rfl, hb6⟩
            have HX6 := hide (HWB.out.trans (hb6.mono HWB.out.size))
            clear hb6
            go_wp2_with fail
            exact ⟨⟨j + 1, run + 1, 1, count, by omega, by go_num, rfl, rfl, rfl, ⟨by omega, by omega⟩, by simp, ⟨by omega, by omega⟩, hide ⟨q2, HBI2.out, HP5.out.of HX6.out, HKN.out⟩, hide (HBX.out.trans (HX6.out.mono HBX.out.size)), hide (Nat.le_trans HSZ5.out HX6.out.size)⟩, by simp [intOf]; omega⟩
          · skip
            have HG := hide (bgo k run 1 count 1 0 q HBI.out (by simp) (by simp) (by simp) hr0 hc0 hc1 (run + 1) 0 (count) (by simp) (by simp) (by simp [*]))
            have HST := hide (sstep_at ds body [1, 0] (fun c => c < w5.heap.size) (fun c => c ≠ V ∧ c ≠ B) (w9.alloc (.cells #[.int .i64 1, .int .i64 0] 3)) P V B (.slice (some ⟨w9.heap.size, 0, none⟩) 2 2) ca da cc dc q.1 q.2 (kindK ds) (HP9.out.of (below_alloc _ _))
              (IsRow.same HDY.out fun c h1 h2 => (Below.trans HRB.out ((below_alloc w9 _).mono HRB.out.size)).block c h2) (HSY.out.same fun c h1 h2 => (Below.trans HRB.out ((below_alloc w9 _).mono HRB.out.size)).block c h2)
              (fun c h => ⟨Nat.lt_of_lt_of_le (Nat.lt_of_lt_of_le h (by have := HVB.out; have := HRB.out.size; omega)) (below_alloc w9 _).size, by have := HVB.out; have h : c < w5.heap.size := h; exact ⟨by omega, by omega⟩⟩)
              ⟨some ⟨w9.heap.size, 0, none⟩, 2, rfl, Lies.blk (cs := intsC [1, 0]) (blk_new w9 (.cells #[.int .i64 1, .int .i64 0] 3)) (by have := HVB.out; have := hsz.out; have := HB9.out.size; exact ⟨by omega, by omega⟩), Nat.le_refl _, by decide⟩
              (fun c h => h) HK.out HF.out.fit HF.out.qm HF.out.size (by have := HF.out.many; simp only at this; omega))
            have HKN := hide (kok_step (K := kindK ds) (p := (ds, body)) (g := [1, 0]) (q := q) HF.out.fit HK.out)
            rw [HES.out] at HST HKN
            have HOO : Hid (outS (stepS (bDs, bBody k) [1, 0] q).1 ds = [0, 0, count, 0]) := by
              show _ = _
              rw [HDS.out, HG.out.2, if_neg (fun h => hrn h.2), if_neg hcn]
            rw [HOO.out] at HST
            have HBI2 := hide HG.out.1
            generalize stepS (bDs, bBody k) [1, 0] q = q2 at *
            have HA9 := hide (below_alloc w9 (.cells #[.int .i64 1, .int .i64 0] 3))
            clear HG HOO
            have hand : bits BinOp.andNot IntKind.i64 1 1 = 0 := by kernel_rfl
            have hmn : min (count) 255 = count := by omega
            go_wp2_with fail
            generalize (w9.alloc (.cells #[.int .i64 1, .int .i64 0] 3)) = x1 at *
            refine HST.out.mono ?_
            rintro e x5 ⟨⟨o5, k5, rfl, hl5⟩, hp5, hkm5⟩
            have HL5 := hide hl5
            have HP5 := hide hp5
            have HBX : Hid (Below w6.heap.size w6 x5) := (HRB.out.trans (HA9.out.mono HRB.out.size)).trans (hkm5.below (Nat.le_trans HRB.out.size HA9.out.size) (by have := HVB.out; omega) (by have := HVB.out; omega))
            have HSZ5 : Hid (w8.heap.size ≤ x5.heap.size) := Nat.le_trans hsz.out (Nat.le_trans HB9.out.size (Nat.le_trans HA9.out.size hkm5.size))
            clear hl5 hp5 hkm5
            have HWB := hide (below_alloc x5 (.cells #[.int .i64 0, .int .i64 0, .int .i64 (count), .int .i64 0] 3))
            have HEQ := hide (eqI_at [0, 0, count, 0] _ AnyB (x5.alloc (.cells #[.int .i64 0, .int .i64 0, .int .i64 (count), .int .i64 0] 3)) o5 (some ⟨x5.heap.size, 0, none⟩) k5 4 (HL5.out.below HWB.out) (Lies.blk (cs := intsC [0, 0, count, 0]) (blk_new x5 (.cells #[.int .i64 0, .int .i64 0, .int .i64 (count), .int .i64 0] 3)) trivial) (by simp))
            simp only [List.length_cons, List.length_nil, Nat.zero_add, Nat.reduceAdd] at HEQ
            go_wp2_with fail
            refine HEQ.out.mono ?_
            rintro e x6 ⟨rfl, hb6⟩
            have HX6 := hide (HWB.out.trans (hb6.mono HWB.out.size))
            clear hb6
            go_wp2_with fail
            exact ⟨⟨j + 1, run + 1, 1, count, by omega, by go_num, rfl, rfl, rfl, ⟨by omega, by omega⟩, by simp, ⟨by omega, by omega⟩, hide ⟨q2, HBI2.out, HP5.out.of HX6.out, HKN.out⟩, hide (HBX.out.trans (HX6.out.mono HBX.out.size)), hide (Nat.le_trans HSZ5.out HX6.out.size)⟩, by simp [intOf]; omega⟩
      · skip
        have hm : ¬ (255 : Int) < count := by omega
        by_cases hrn : (k : Int) ≤ run + 1
        · skip
          have hcn : ¬ (k : Int) ≤ 0 := by omega
          have HG := hide (bgo k run 1 count 1 1 q HBI.out (by simp) (by simp) (by simp) hr0 hc0 hc1 (run + 1) 0 (0) (by simp) (by simp) (by simp [*]))
          have HST := hide (sstep_at ds body [1, 1] (fun c => c < w5.heap.size) (fun c => c ≠ V ∧ c ≠ B) (w9.alloc (.cells #[.int .i64 1, .int .i64 1] 3)) P V B (.slice (some ⟨w9.heap.size, 0, none⟩) 2 2) ca da cc dc q.1 q.2 (kindK ds) (HP9.out.of (below_alloc _ _))
            (IsRow.same HDY.out fun c h1 h2 => (Below.trans HRB.out ((below_alloc w9 _).mono HRB.out.size)).block c h2) (HSY.out.same fun c h1 h2 => (Below.trans HRB.out ((below_alloc w9 _).mono HRB.out.size)).block c h2)
            (fun c h => ⟨Nat.lt_of_lt_of_le (Nat.lt_of_lt_of_le h (by have := HVB.out; have := HRB.out.size; omega)) (below_alloc w9 _).size, by have := HVB.out; have h : c < w5.heap.size := h; exact ⟨by omega, by omega⟩⟩)
            ⟨some ⟨w9.heap.size, 0, none⟩, 2, rfl, Lies.blk (cs := intsC [1, 1]) (blk_new w9 (.cells #[.int .i64 1, .int .i64 1] 3)) (by have := HVB.out; have := hsz.out; have := HB9.out.size; exact ⟨by omega, by omega⟩), Nat.le_refl _, by decide⟩
            (fun c h => h) HK.out HF.out.fit HF.out.qm HF.out.size (by have := HF.out.many; simp only at this; omega))
          have HKN := hide (kok_step (K := kindK ds) (p := (ds, body)) (g := [1, 1]) (q := q) HF.out.fit HK.out)
          rw [HES.out] at HST HKN
          have HOO : Hid (outS (stepS (bDs, bBody k) [1, 1] q).1 ds = [1, 0, 0, 0]) := by
            show _ = _
            rw [HDS.out, HG.out.2, if_pos ⟨rfl, hrn⟩, if_neg hcn]
          rw [HOO.out] at HST
          have HBI2 := hide HG.out.1
          generalize stepS (bDs, bBody k) [1, 1] q = q2 at *
          have HA9 := hide (below_alloc w9 (.cells #[.int .i64 1, .int .i64 1] 3))
          clear HG HOO
          have hand : bits BinOp.andNot IntKind.i64 1 1 = 0 := by kernel_rfl
          have hmn : min (count) 255 = count := by omega
          go_wp2_with fail
          generalize (w9.alloc (.cells #[.int .i64 1, .int .i64 1] 3)) = x1 at *
          refine HST.out.mono ?_
          rintro e x5 ⟨⟨o5, k5, rfl, hl5⟩, hp5, hkm5⟩
          have HL5 := hide hl5
          have HP5 := hide hp5
          have HBX : Hid (Below w6.heap.size w6 x5) := (HRB.out.trans (HA9.out.mono HRB.out.size)).trans (hkm5.below (Nat.le_trans HRB.out.size HA9.out.size) (by have := HVB.out; omega) (by have := HVB.out; omega))
          have HSZ5 : Hid (w8.heap.size ≤ x5.heap.size) := Nat.le_trans hsz.out (Nat.le_trans HB9.out.size (Nat.le_trans HA9.out.size hkm5.size))
          clear hl5 hp5 hkm5
          have HWB := hide (below_alloc x5 (.cells #[.int .i64 1, .int .i64 0, .int .i64 (0), .int .i64 0] 3))
          have HEQ := hide (eqI_at [1, 0, 0, 0] _ AnyB (x5.alloc (.cells #[.int .i64 1, .int .i64 0, .int .i64 (0), .int .i64 0] 3)) o5 (some ⟨x5.heap.size, 0, none⟩) k5 4 (HL5.out.below HWB.out) (Lies.blk (cs := intsC [1, 0, 0, 0]) (blk_new x5 (.cells #[.int .i64 1, .int .i64 0, .int .i64 (0), .int .i64 0] 3)) trivial) (by simp))
          simp only [List.length_cons, List.length_nil, Nat.zero_add, Nat.reduceAdd] at HEQ
          go_wp2_with fail
          refine HEQ.out.mono ?_
          rintro e x6 ⟨rfl, hb6⟩
          have HX6 := hide (HWB.out.trans (hb6.mono HWB.out.size))
          clear hb6
          go_wp2_with fail
          exact ⟨⟨j + 1, run + 1, 1, 0, by omega, by go_num, rfl, rfl, rfl, ⟨by omega, by omega⟩, by simp, ⟨by omega, by omega⟩, hide ⟨q2, HBI2.out, HP5.out.of HX6.out, HKN.out⟩, hide (HBX.out.trans (HX6.out.mono HBX.out.size)), hide (Nat.le_trans HSZ5.out HX6.out.size)⟩, by simp [intOf]; omega⟩
        · skip
          have hcn : ¬ (k : Int) ≤ 0 := by omega
          have HG := hide (bgo k run 1 count 1 1 q HBI.out (by simp) (by simp) (by simp) hr0 hc0 hc1 (run + 1) 0 (0) (by simp) (by simp) (by simp [*]))
          have HST := hide (sstep_at ds body [1, 1] (fun c => c < w5.heap.size) (fun c => c ≠ V ∧ c ≠ B) (w9.alloc (.cells #[.int .i64 1, .int .i64 1] 3)) P V B (.slice (some ⟨w9.heap.size, 0, none⟩) 2 2) ca da cc dc q.1 q.2 (kindK ds) (HP9.out.of (below_alloc _ _))
            (IsRow.same HDY.out fun c h1 h2 => (Below.trans HRB.out ((below_alloc w9 _).mono HRB.out.size)).block c h2) (HSY.out.same fun c h1 h2 => (Below.trans HRB.out ((below_alloc w9 _).mono HRB.out.size)).block c h2)
            (fun c h => ⟨Nat.lt_of_lt_of_le (Nat.lt_of_lt_of_le h (by have := HVB.out; have := HRB.out.size; omega)) (below_alloc w9 _).size, by have := HVB.out; have h : c < w5.heap.size := h; exact ⟨by omega, by omega⟩⟩)
            ⟨some ⟨w9.heap.size, 0, none⟩, 2, rfl, Lies.blk (cs := intsC [1, 1]) (blk_new w9 (.cells #[.int .i64 1, .int .i64 1] 3)) (by have := HVB.out; have := hsz.out; have := HB9.out.size; exact ⟨by omega, by omega⟩), Nat.le_refl _, by decide⟩
            (fun c h => h) HK.out HF.out.fit HF.out.qm HF.out.size (by have := HF.out.many; simp only at this; omega))
          have HKN := hide (kok_step (K := kindK ds) (p := (ds, body)) (g := [1, 1]) (q := q) HF.out.fit HK.out)
          rw [HES.out] at HST HKN
          have HOO : Hid (outS (stepS (bDs, bBody k) [1, 1] q).1 ds = [0, 0, 0, 0]) := by
            show _ = _
            rw [HDS.out, HG.out.2, if_neg (fun h => hrn h.2), if_neg hcn]
          rw [HOO.out] at HST
          have HBI2 := hide HG.out.1
          generalize stepS (bDs, bBody k) [1, 1] q = q2 at *
          have HA9 := hide (below_alloc w9 (.cells #[.int .i64 1, .int .i64 1] 3))
          clear HG HOO
          have hand : bits BinOp.andNot IntKind.i64 1 1 = 0 := by kernel_rfl
          have hmn : min (count) 255 = count := by omega
          go_wp2_with fail
          generalize (w9.alloc (.cells #[.int .i64 1, .int .i64 1] 3)) = x1 at *
          refine HST.out.mono ?_
          rintro e x5 ⟨⟨o5, k5, rfl, hl5⟩, hp5, hkm5⟩
          have HL5 := hide hl5
          have HP5 := hide hp5
          have HBX : Hid (Below w6.heap.size w6 x5) := (HRB.out.trans (HA9.out.mono HRB.out.size)).trans (hkm5.below (Nat.le_trans HRB.out.size HA9.out.size) (by have := HVB.out; omega) (by have := HVB.out; omega))
          have HSZ5 : Hid (w8.heap.size ≤ x5.heap.size) := Nat.le_trans hsz.out (Nat.le_trans HB9.out.size (Nat.le_trans HA9.out.size hkm5.size))
          clear hl5 hp5 hkm5
          have HWB := hide (below_alloc x5 (.cells #[.int .i64 0, .int .i64 0, .int .i64 (0), .int .i64 0] 3))
          have HEQ := hide (eqI_at [0, 0, 0, 0] _ AnyB (x5.alloc (.cells #[.int .i64 0, .int .i64 0, .int .i64 (0), .int .i64 0] 3)) o5 (some ⟨x5.heap.size, 0, none⟩) k5 4 (HL5.out.below HWB.out) (Lies.blk (cs := intsC [0, 0, 0, 0]) (blk_new x5 (.cells #[.int .i64 0, .int .i64 0, .int .i64 (0), .int .i64 0] 3)) trivial) (by simp))
          simp only [List.length_cons, List.length_nil, Nat.zero_add, Nat.reduceAdd] at HEQ
          go_wp2_with fail
          refine HEQ.out.mono ?_
          rintro e x6 ⟨rfl, hb6⟩
          have HX6 := hide (HWB.out.trans (hb6.mono HWB.out.size))
          clear hb6
          go_wp2_with fail
          exact ⟨⟨j + 1, run + 1, 1, 0, by omega, by go_num, rfl, rfl, rfl, ⟨by omega, by omega⟩, by simp, ⟨by omega, by omega⟩, hide ⟨q2, HBI2.out, HP5.out.of HX6.out, HKN.out⟩, hide (HBX.out.trans (HX6.out.mono HBX.out.size)), hide (Nat.le_trans HSZ5.out HX6.out.size)⟩, by simp [intOf]; omega⟩
    · have hji : ¬ (j : Int) < (asks.length : Int) := by omega
      go_wp2_with fail
      go_ret
      exact ⟨rfl, HBW.out⟩

set_option maxRecDepth 100000 in
set_option maxHeartbeats 12800000 in
theorem blocks_zero (n : Int) (kk : Nat) (ds : List De) (body : List St) (T : List UInt8) (hpk : wrap64 ((IntKind.u64.wrap n).tmod 20) = (0 : Int)) (hpar : parse2 ⟨T.toArray⟩ = .ok (ds, body) kk) (hts : T.length ≤ 1000) (hfine : Fine (ds, body)) (hds : ds = bDs) (hes : ∀ g q, stepS (ds, body) g q = stepS (bDs, bBody 0) g q) (htx : ∀ D : ByteArray, D = ⟨(Lib.decDigits 0).toArray⟩ → (⟨bA.toArray⟩ ++ D ++ ⟨bB.toArray⟩ ++ D ++ ⟨bC.toArray⟩ : ByteArray) = ⟨T.toArray⟩) (asks : List Int) (ga : Option Addr) (gc : Nat) (w : World) (h60 : ¬ 60 < asks.length) (hlie : Lies (fun c => c < w.heap.size) w ga (intsC asks)) (hv : Vars w) (ht : Tab w) (h14 : 8 ≤ w.heap.size) :
    Calls Tryz.prog 3 #[.slice ga asks.length gc, .int .i64 n] w fun e w' => e = .returned (.bool true) ∧ Below w.heap.size w w' := by
  have hi : ¬ (60 : Int) < (asks.length : Int) := by omega
  have HV := hide hv
  have HT := hide ht
  have HLI := hide hlie
  have HTM := hide (timed_at w hv h14)
  have HPK := hide (fun W => pick20 n 0 hpk W)
  have HF := hide hfine
  have HES := hide hes
  have HDS := hide hds
  have HTX := hide htx
  have HPA : Hid (∀ s W, s = ⟨T.toArray⟩ → Vars W → 8 ≤ W.heap.size → Calls Tryz.prog 7 #[.string s] W (Parsed W (Res.ok (ds, body) kk))) := fun s W e h1 h2 => by
    subst e
    exact hpar ▸ parse_at ⟨T.toArray⟩ W (by rw [str_sz]; omega) h1 h2
  have HIT := hide (fun W h => Tryz.strconv_Itoa (0 : Int) (by omega) (by omega) W h)
  have HV9 : Hid (Lib.itoa (0 : Int) = Lib.decDigits 0) := by
    show _ = _
    have : ¬ (0 : Int) < 0 := by omega
    simp [Lib.itoa, this]
  have hdl := dec_len (show 0 ≤ 255 by omega)
  clear hv ht hlie hpk hpar hfine hes hds htx hts
  go_enter Tryz.func3, Tryz.ntmps3
  go_wp2_with fail
  refine HTM.out.mono ?_
  rintro e w1 ⟨rfl, hb1⟩
  have HB1 := hide hb1
  have HV1 := hide (HV.out.below hb1)
  have HT1 := hide (HT.out.below hb1 h14)
  have H141 := hide (Nat.le_trans h14 hb1.size)
  clear hb1
  go_wp2_with fail
  refine (HPK.out _).mono ?_
  rintro e w1' ⟨rfl, hw⟩
  obtain rfl : w1 = w1' := hw.symm
  clear hw
  go_wp2_with fail
  refine (HIT.out w1 HT1.out).mono ?_
  rintro e w2 ⟨rfl, q, os, rfl⟩
  have hb2 := below_grow w1 q os
  have HB2 := hide hb2
  have HV2 := hide (HV1.out.below hb2)
  have HT2 := hide (HT1.out.below hb2 H141.out)
  have H142 := hide (Nat.le_trans H141.out hb2.size)
  generalize Sort.grow (w1.drewN q) os = w2 at *
  rw [HV9.out]
  generalize hD : (⟨(Lib.decDigits 0).toArray⟩ : ByteArray) = D at *
  have HD := hide hD
  have hDs : D.size ≤ 10 := by rw [← hD, str_sz]; omega
  clear hb2 hD
  go_wp2_with fail
  refine (HIT.out w2 HT2.out).mono ?_
  rintro e w3 ⟨rfl, q3, os3, rfl⟩
  have hb3 := below_grow w2 q3 os3
  have HB3 := hide (Below.step HB1.out (Below.step HB2.out hb3))
  have HV3 := hide (HV2.out.below hb3)
  have H143 := hide (Nat.le_trans H142.out hb3.size)
  generalize Sort.grow (w2.drewN q3) os3 = w3 at *
  rw [HV9.out]
  have HDD : Hid ((⟨(Lib.decDigits 0).toArray⟩ : ByteArray) = D) := HD.out
  rw [HDD.out]
  clear hb3
  go_wp2_with fail
  refine (HPA.out _ w3 (HTX.out D rfl) HV3.out H143.out).mono ?_
  rintro e w5 ⟨hb5, v, rfl, hrep⟩
  obtain ⟨ca, cc, da, dc, rfl, hd, hs⟩ := prRep_2 hrep
  simp only at hd hs
  have hb6 := below_alloc w5 (.cells #[.slice ca ds.length cc, .slice da body.length dc] 28)
  have HB6 := hide (Below.step HB3.out (Below.step hb5 hb6))
  have HSZ : Hid ((w5.alloc (.cells #[.slice ca ds.length cc, .slice da body.length dc] 28)).heap.size = w5.heap.size + 1) := by show _ = _; simp
  have HDY : Hid (IsDes (fun c => c < w5.heap.size) (w5.alloc (.cells #[.slice ca ds.length cc, .slice da body.length dc] 28)) ds (.slice ca ds.length cc)) := IsRow.same (IsRow.imp (S' := fun c => c < w5.heap.size) hd fun b h1 _ => h1) fun c _ h2 => hb6.block c h2
  have HSY : Hid (IsSts (fun c => c < w5.heap.size) (w5.alloc (.cells #[.slice ca ds.length cc, .slice da body.length dc] 28)) body (.slice da body.length dc)) := (hs.imp (S' := fun c => c < w5.heap.size) fun b h1 _ => h1).same fun c _ h2 => hb6.block c h2
  have HNY := hide (new_at ds body (fun c => c < w5.heap.size) (w5.alloc (.cells #[.slice ca ds.length cc, .slice da body.length dc] 28)) ca da cc dc HDY.out HSY.out HF.out.many HF.out.deep HF.out.size HF.out.sm HF.out.ok)
  have HW5 : Hid (w.heap.size ≤ w5.heap.size) := Nat.le_trans HB3.out.size hb5.size
  clear hb5 hb6 hrep hd hs
  go_wp2_with fail
  generalize (w5.alloc (.cells #[.slice ca ds.length cc, .slice da body.length dc] 28)) = w6 at *
  refine HNY.out.mono ?_
  rintro e w8 ⟨P, V, B, rfl, hm2⟩
  have HM := hide hm2
  clear hm2
  have HVB : Hid (w5.heap.size < V ∧ w5.heap.size < B ∧ w5.heap.size < P ∧ V < w8.heap.size ∧ B < w8.heap.size ∧ P < w8.heap.size ∧ w6.heap.size = w5.heap.size + 1 ∧ w.heap.size ≤ w5.heap.size) := by
    have h1 := HM.out.vN; have h2 := HM.out.bN; have h3 := HM.out.pN; have h4 := HSZ.out
    have a1 := blk_lt (show w8.heap[V]? = some _ from HM.out.at_.vals); have a2 := blk_lt (show w8.heap[B]? = some _ from HM.out.at_.blks); have a3 := blk_lt HM.out.at_.me
    exact ⟨by omega, by omega, by omega, a1, a2, a3, h4, HW5.out⟩
  have HB68 := hide HM.out.below
  have HP8 := hide HM.out.at_
  have HQ0 : Hid (∃ q : Vs × Ks, BInv 0 0 0 0 q ∧ Plt w8 P V B (.slice ca ds.length cc) (.slice da body.length dc) q.1 q.2 ∧ KOK (kindK ds) q.2) := ⟨newS ds ([], []), by rw [HDS.out]; exact binv0 0, HP8.out, kok_new ds⟩
  clear HM HNY HPA HTX HB1 HB2 HB3 HV1 HV2 HV3 HT1 HT2 H141 H142 H143 HTM HPK HIT HV9 HD HDD hDs hdl HW5 HSZ HP8
  go_wp2_with fail
  go_loopw [8, 9, 10, 11, 12, 13, 14, 15, 16] (fun rn wa co i _ _ _ _ _ wr => ∃ (j : Nat) (run was count : Int), j ≤ asks.length ∧ i = .int .i64 j ∧ rn = .int .i64 run ∧ wa = .int .i64 was ∧ co = .int .i64 count ∧ (0 ≤ run ∧ run ≤ j) ∧ (was = 0 ∨ was = 1) ∧ (0 ≤ count ∧ count ≤ 255) ∧ Hid (∃ q : Vs × Ks, BInv 0 run was count q ∧ Plt wr P V B (.slice ca ds.length cc) (.slice da body.length dc) q.1 q.2 ∧ KOK (kindK ds) q.2) ∧ Hid (Below w6.heap.size w6 wr) ∧ Hid (w8.heap.size ≤ wr.heap.size)) (fun _ _ _ i _ _ _ _ _ _ => asks.length - (intOf i).toNat)
  case atStart => exact ⟨0, 0, 0, 0, Nat.zero_le _, rfl, rfl, rfl, rfl, ⟨Int.le_refl _, Int.le_refl _⟩, .inl rfl, ⟨Int.le_refl _, by decide⟩, HQ0, HB68, hide (Nat.le_refl _)⟩
  case round =>
    obtain ⟨j, run, was, count, hj, rfl, rfl, rfl, rfl, ⟨hr0, hr1⟩, hwas, ⟨hc0, hc1⟩, hq, hbw, hsz⟩ := hrel
    obtain ⟨q, hbi, hpy, hko⟩ := hq.out
    have HBI := hide hbi
    have HPY := hide hpy
    have HK := hide hko
    have HWAS := hide hwas
    clear hq hbi hpy hko hwas
    have HBW := hide (Below.trans HB6.out (hbw.out.mono HB6.out.size))
    by_cases hlt : j < asks.length
    · have hji : (j : Int) < (asks.length : Int) := by omega
      obtain ⟨gb, go, rfl, _, _, hgc⟩ := HLI.out.ints hlt
      have g0 : wr.cell? ⟨gb, go + j, none⟩ = some (.int .i64 (outAt asks j)) := (HBW.out.cell (cell_lt hgc)).trans hgc
      clear hgc
      generalize outAt asks j = y at *
      go_wp2_with fail
      go_quiet (fail)
      have HB9 : Hid (Below wr.heap.size wr (wr.drewN nq)) := ⟨rfl, rfl, rfl, Nat.le_refl _, fun _ _ => rfl⟩
      generalize wr.drewN nq = w9 at *
      rw [i64_mask1, i64_mask1]
      have ha : y % 2 = 0 ∨ y % 2 = 1 := by omega
      have hr : y / 2 % 2 = 0 ∨ y / 2 % 2 = 1 := by omega
      generalize y % 2 = a at *
      generalize y / 2 % 2 = r at *
      clear g0
      have HRB : Hid (Below w6.heap.size w6 w9) := hbw.out.trans (HB9.out.mono hbw.out.size)
      have HP9 := hide (HPY.out.of HB9.out)
      have hrj : run ≤ 60 := by omega
      rcases HWAS.out with rfl | rfl <;> rcases ha with rfl | rfl <;> rcases hr with rfl | rfl
      · skip
        have hm : ¬ (255 : Int) < count := by omega
        have hcn : (0 : Int) ≤ count := by omega
        have HG := hide (bgo 0 run 0 count 0 0 q HBI.out (by simp) (by simp) (by simp) hr0 hc0 hc1 (0) 0 (count) (by simp) (by simp) (by simp [*]))
        have HST := hide (sstep_at ds body [0, 0] (fun c => c < w5.heap.size) (fun c => c ≠ V ∧ c ≠ B) (w9.alloc (.cells #[.int .i64 0, .int .i64 0] 3)) P V B (.slice (some ⟨w9.heap.size, 0, none⟩) 2 2) ca da cc dc q.1 q.2 (kindK ds) (HP9.out.of (below_alloc _ _))
          (IsRow.same HDY.out fun c h1 h2 => (Below.trans HRB.out ((below_alloc w9 _).mono HRB.out.size)).block c h2) (HSY.out.same fun c h1 h2 => (Below.trans HRB.out ((below_alloc w9 _).mono HRB.out.size)).block c h2)
          (fun c h => ⟨Nat.lt_of_lt_of_le (Nat.lt_of_lt_of_le h (by have := HVB.out; have := HRB.out.size; omega)) (below_alloc w9 _).size, by have := HVB.out; have h : c < w5.heap.size := h; exact ⟨by omega, by omega⟩⟩)
          ⟨some ⟨w9.heap.size, 0, none⟩, 2, rfl, Lies.blk (cs := intsC [0, 0]) (blk_new w9 (.cells #[.int .i64 0, .int .i64 0] 3)) (by have := HVB.out; have := hsz.out; have := HB9.out.size; exact ⟨by omega, by omega⟩), Nat.le_refl _, by decide⟩
          (fun c h => h) HK.out HF.out.fit HF.out.qm HF.out.size (by have := HF.out.many; simp only at this; omega))
        have HKN := hide (kok_step (K := kindK ds) (p := (ds, body)) (g := [0, 0]) (q := q) HF.out.fit HK.out)
        rw [HES.out] at HST HKN
        have HOO : Hid (outS (stepS (bDs, bBody 0) [0, 0] q).1 ds = [0, 0, count, 1]) := by
          show _ = _
          rw [HDS.out, HG.out.2, if_neg (fun h => absurd h.1 (by decide)), if_pos (show (((0 : Nat) : Int)) ≤ count from hcn)]
        rw [HOO.out] at HST
        have HBI2 := hide HG.out.1
        generalize stepS (bDs, bBody 0) [0, 0] q = q2 at *
        have HA9 := hide (below_alloc w9 (.cells #[.int .i64 0, .int .i64 0] 3))
        clear HG HOO
        have hand : bits BinOp.andNot IntKind.i64 0 0 = 0 := by kernel_rfl
        have hmn : min (count) 255 = count := by omega
        go_wp2_with fail
        generalize (w9.alloc (.cells #[.int .i64 0, .int .i64 0] 3)) = x1 at *
        refine HST.out.mono ?_
        rintro e x5 ⟨⟨o5, k5, rfl, hl5⟩, hp5, hkm5⟩
        have HL5 := hide hl5
        have HP5 := hide hp5
        have HBX : Hid (Below w6.heap.size w6 x5) := (HRB.out.trans (HA9.out.mono HRB.out.size)).trans (hkm5.below (Nat.le_trans HRB.out.size HA9.out.size) (by have := HVB.out; omega) (by have := HVB.out; omega))
        have HSZ5 : Hid (w8.heap.size ≤ x5.heap.size) := Nat.le_trans hsz.out (Nat.le_trans HB9.out.size (Nat.le_trans HA9.out.size hkm5.size))
        clear hl5 hp5 hkm5
        have HWB := hide (below_alloc x5 (.cells #[.int .i64 0, .int .i64 0, .int .i64 (count), .int .i64 1] 3))
        have HEQ := hide (eqI_at [0, 0, count, 1] _ AnyB (x5.alloc (.cells #[.int .i64 0, .int .i64 0, .int .i64 (count), .int .i64 1] 3)) o5 (some ⟨x5.heap.size, 0, none⟩) k5 4 (HL5.out.below HWB.out) (Lies.blk (cs := intsC [0, 0, count, 1]) (blk_new x5 (.cells #[.int .i64 0, .int .i64 0, .int .i64 (count), .int .i64 1] 3)) trivial) (by simp))
        simp only [List.length_cons, List.length_nil, Nat.zero_add, Nat.reduceAdd] at HEQ
        go_wp2_with fail
        refine HEQ.out.mono ?_
        rintro e x6 ⟨rfl, hb6⟩
        have HX6 := hide (HWB.out.trans (hb6.mono HWB.out.size))
        clear hb6
        go_wp2_with fail
        exact ⟨⟨j + 1, 0, 0, count, by omega, by go_num, rfl, rfl, rfl, ⟨by omega, by omega⟩, by simp, ⟨by omega, by omega⟩, hide ⟨q2, HBI2.out, HP5.out.of HX6.out, HKN.out⟩, hide (HBX.out.trans (HX6.out.mono HBX.out.size)), hide (Nat.le_trans HSZ5.out HX6.out.size)⟩, by simp [intOf]; omega⟩
      · skip
        have hm : ¬ (255 : Int) < count := by omega
        have hcn : (0 : Int) ≤ 0 := by omega
        have HG := hide (bgo 0 run 0 count 0 1 q HBI.out (by simp) (by simp) (by simp) hr0 hc0 hc1 (0) 0 (0) (by simp) (by simp) (by simp [*]))
        have HST := hide (sstep_at ds body [0, 1] (fun c => c < w5.heap.size) (fun c => c ≠ V ∧ c ≠ B) (w9.alloc (.cells #[.int .i64 0, .int .i64 1] 3)) P V B (.slice (some ⟨w9.heap.size, 0, none⟩) 2 2) ca da cc dc q.1 q.2 (kindK ds) (HP9.out.of (below_alloc _ _))
          (IsRow.same HDY.out fun c h1 h2 => (Below.trans HRB.out ((below_alloc w9 _).mono HRB.out.size)).block c h2) (HSY.out.same fun c h1 h2 => (Below.trans HRB.out ((below_alloc w9 _).mono HRB.out.size)).block c h2)
          (fun c h => ⟨Nat.lt_of_lt_of_le (Nat.lt_of_lt_of_le h (by have := HVB.out; have := HRB.out.size; omega)) (below_alloc w9 _).size, by have := HVB.out; have h : c < w5.heap.size := h; exact ⟨by omega, by omega⟩⟩)
          ⟨some ⟨w9.heap.size, 0, none⟩, 2, rfl, Lies.blk (cs := intsC [0, 1]) (blk_new w9 (.cells #[.int .i64 0, .int .i64 1] 3)) (by have := HVB.out; have := hsz.out; have := HB9.out.size; exact ⟨by omega, by omega⟩), Nat.le_refl _, by decide⟩
          (fun c h => h) HK.out HF.out.fit HF.out.qm HF.out.size (by have := HF.out.many; simp only at this; omega))
        have HKN := hide (kok_step (K := kindK ds) (p := (ds, body)) (g := [0, 1]) (q := q) HF.out.fit HK.out)
        rw [HES.out] at HST HKN
        have HOO : Hid (outS (stepS (bDs, bBody 0) [0, 1] q).1 ds = [0, 0, 0, 1]) := by
          show _ = _
          rw [HDS.out, HG.out.2, if_neg (fun h => absurd h.1 (by decide)), if_pos (show (((0 : Nat) : Int)) ≤ 0 from hcn)]
        rw [HOO.out] at HST
        have HBI2 := hide HG.out.1
        generalize stepS (bDs, bBody 0) [0, 1] q = q2 at *
        have HA9 := hide (below_alloc w9 (.cells #[.int .i64 0, .int .i64 1] 3))
        clear HG HOO
        have hand : bits BinOp.andNot IntKind.i64 0 0 = 0 := by kernel_rfl
        have hmn : min (count) 255 = count := by omega
        go_wp2_with fail
        generalize (w9.alloc (.cells #[.int .i64 0, .int .i64 1] 3)) = x1 at *
        refine HST.out.mono ?_
        rintro e x5 ⟨⟨o5, k5, rfl, hl5⟩, hp5, hkm5⟩
        have HL5 := hide hl5
        have HP5 := hide hp5
        have HBX : Hid (Below w6.heap.size w6 x5) := (HRB.out.trans (HA9.out.mono HRB.out.size)).trans (hkm5.below (Nat.le_trans HRB.out.size HA9.out.size) (by have := HVB.out; omega) (by have := HVB.out; omega))
        have HSZ5 : Hid (w8.heap.size ≤ x5.heap.size) := Nat.le_trans hsz.out (Nat.le_trans HB9.out.size (Nat.le_trans HA9.out.size hkm5.size))
        clear hl5 hp5 hkm5
        have HWB := hide (below_alloc x5 (.cells #[.int .i64 0, .int .i64 0, .int .i64 (0), .int .i64 1] 3))
        have HEQ := hide (eqI_at [0, 0, 0, 1] _ AnyB (x5.alloc (.cells #[.int .i64 0, .int .i64 0, .int .i64 (0), .int .i64 1] 3)) o5 (some ⟨x5.heap.size, 0, none⟩) k5 4 (HL5.out.below HWB.out) (Lies.blk (cs := intsC [0, 0, 0, 1]) (blk_new x5 (.cells #[.int .i64 0, .int .i64 0, .int .i64 (0), .int .i64 1] 3)) trivial) (by simp))
        simp only [List.length_cons, List.length_nil, Nat.zero_add, Nat.reduceAdd] at HEQ
        go_wp2_with fail
        refine HEQ.out.mono ?_
        rintro e x6 ⟨rfl, hb6⟩
        have HX6 := hide (HWB.out.trans (hb6.mono HWB.out.size))
        clear hb6
        go_wp2_with fail
        exact ⟨⟨j + 1, 0, 0, 0, by omega, by go_num, rfl, rfl, rfl, ⟨by omega, by omega⟩, by simp, ⟨by omega, by omega⟩, hide ⟨q2, HBI2.out, HP5.out.of HX6.out, HKN.out⟩, hide (HBX.out.trans (HX6.out.mono HBX.out.size)), hide (Nat.le_trans HSZ5.out HX6.out.size)⟩, by simp [intOf]; omega⟩
      · skip
        by_cases hm : (255 : Int) < count + 1
        · skip
          have hrn : (0 : Int) ≤ run + 1 := by omega
          have hcn : (0 : Int) ≤ 255 := by omega
          have HG := hide (bgo 0 run 0 count 1 0 q HBI.out (by simp) (by simp) (by simp) hr0 hc0 hc1 (run + 1) 1 (255) (by simp) (by simp) (by simp [*]))
          have HST := hide (sstep_at ds body [1, 0] (fun c => c < w5.heap.size) (fun c => c ≠ V ∧ c ≠ B) (w9.alloc (.cells #[.int .i64 1, .int .i64 0] 3)) P V B (.slice (some ⟨w9.heap.size, 0, none⟩) 2 2) ca da cc dc q.1 q.2 (kindK ds) (HP9.out.of (below_alloc _ _))
            (IsRow.same HDY.out fun c h1 h2 => (Below.trans HRB.out ((below_alloc w9 _).mono HRB.out.size)).block c h2) (HSY.out.same fun c h1 h2 => (Below.trans HRB.out ((below_alloc w9 _).mono HRB.out.size)).block c h2)
            (fun c h => ⟨Nat.lt_of_lt_of_le (Nat.lt_of_lt_of_le h (by have := HVB.out; have := HRB.out.size; omega)) (below_alloc w9 _).size, by have := HVB.out; have h : c < w5.heap.size := h; exact ⟨by omega, by omega⟩⟩)
            ⟨some ⟨w9.heap.size, 0, none⟩, 2, rfl, Lies.blk (cs := intsC [1, 0]) (blk_new w9 (.cells #[.int .i64 1, .int .i64 0] 3)) (by have := HVB.out; have := hsz.out; have := HB9.out.size; exact ⟨by omega, by omega⟩), Nat.le_refl _, by decide⟩
            (fun c h => h) HK.out HF.out.fit HF.out.qm HF.out.size (by have := HF.out.many; simp only at this; omega))
          have HKN := hide (kok_step (K := kindK ds) (p := (ds, body)) (g := [1, 0]) (q := q) HF.out.fit HK.out)
          rw [HES.out] at HST HKN
          have HOO : Hid (outS (stepS (bDs, bBody 0) [1, 0] q).1 ds = [1, 1, 255, 1]) := by
            show _ = _
            rw [HDS.out, HG.out.2, if_pos ⟨rfl, hrn⟩, if_pos (show (((0 : Nat) : Int)) ≤ 255 from hcn)]
          rw [HOO.out] at HST
          have HBI2 := hide HG.out.1
          generalize stepS (bDs, bBody 0) [1, 0] q = q2 at *
          have HA9 := hide (below_alloc w9 (.cells #[.int .i64 1, .int .i64 0] 3))
          clear HG HOO
          have hand : bits BinOp.andNot IntKind.i64 1 0 = 1 := by kernel_rfl
          have hmn : min (count + 1) 255 = 255 := by omega
          go_wp2_with fail
          generalize (w9.alloc (.cells #[.int .i64 1, .int .i64 0] 3)) = x1 at *
          refine HST.out.mono ?_
          rintro e x5 ⟨⟨o5, k5, rfl, hl5⟩, hp5, hkm5⟩
          have HL5 := hide hl5
          have HP5 := hide hp5
          have HBX : Hid (Below w6.heap.size w6 x5) := (HRB.out.trans (HA9.out.mono HRB.out.size)).trans (hkm5.below (Nat.le_trans HRB.out.size HA9.out.size) (by have := HVB.out; omega) (by have := HVB.out; omega))
          have HSZ5 : Hid (w8.heap.size ≤ x5.heap.size) := Nat.le_trans hsz.out (Nat.le_trans HB9.out.size (Nat.le_trans HA9.out.size hkm5.size))
          clear hl5 hp5 hkm5
          have HWB := hide (below_alloc x5 (.cells #[.int .i64 1, .int .i64 1, .int .i64 (255), .int .i64 1] 3))
          have HEQ := hide (eqI_at [1, 1, 255, 1] _ AnyB (x5.alloc (.cells #[.int .i64 1, .int .i64 1, .int .i64 (255), .int .i64 1] 3)) o5 (some ⟨x5.heap.size, 0, none⟩) k5 4 (HL5.out.below HWB.out) (Lies.blk (cs := intsC [1, 1, 255, 1]) (blk_new x5 (.cells #[.int .i64 1, .int .i64 1, .int .i64 (255), .int .i64 1] 3)) trivial) (by simp))
          simp only [List.length_cons, List.length_nil, Nat.zero_add, Nat.reduceAdd] at HEQ
          go_wp2_with fail
          refine HEQ.out.mono ?_
          rintro e x6 ⟨rfl, hb6⟩
          have HX6 := hide (HWB.out.trans (hb6.mono HWB.out.size))
          clear hb6
          go_wp2_with fail
          exact ⟨⟨j + 1, run + 1, 1, 255, by omega, by go_num, rfl, rfl, rfl, ⟨by omega, by omega⟩, by simp, ⟨by omega, by omega⟩, hide ⟨q2, HBI2.out, HP5.out.of HX6.out, HKN.out⟩, hide (HBX.out.trans (HX6.out.mono HBX.out.size)), hide (Nat.le_trans HSZ5.out HX6.out.size)⟩, by simp [intOf]; omega⟩
        · skip
          have hrn : (0 : Int) ≤ run + 1 := by omega
          have hcn : (0 : Int) ≤ count + 1 := by omega
          have HG := hide (bgo 0 run 0 count 1 0 q HBI.out (by simp) (by simp) (by simp) hr0 hc0 hc1 (run + 1) 1 (count + 1) (by simp) (by simp) (by simp [*]))
          have HST := hide (sstep_at ds body [1, 0] (fun c => c < w5.heap.size) (fun c => c ≠ V ∧ c ≠ B) (w9.alloc (.cells #[.int .i64 1, .int .i64 0] 3)) P V B (.slice (some ⟨w9.heap.size, 0, none⟩) 2 2) ca da cc dc q.1 q.2 (kindK ds) (HP9.out.of (below_alloc _ _))
            (IsRow.same HDY.out fun c h1 h2 => (Below.trans HRB.out ((below_alloc w9 _).mono HRB.out.size)).block c h2) (HSY.out.same fun c h1 h2 => (Below.trans HRB.out ((below_alloc w9 _).mono HRB.out.size)).block c h2)
            (fun c h => ⟨Nat.lt_of_lt_of_le (Nat.lt_of_lt_of_le h (by have := HVB.out; have := HRB.out.size; omega)) (below_alloc w9 _).size, by have := HVB.out; have h : c < w5.heap.size := h; exact ⟨by omega, by omega⟩⟩)
            ⟨some ⟨w9.heap.size, 0, none⟩, 2, rfl, Lies.blk (cs := intsC [1, 0]) (blk_new w9 (.cells #[.int .i64 1, .int .i64 0] 3)) (by have := HVB.out; have := hsz.out; have := HB9.out.size; exact ⟨by omega, by omega⟩), Nat.le_refl _, by decide⟩
            (fun c h => h) HK.out HF.out.fit HF.out.qm HF.out.size (by have := HF.out.many; simp only at this; omega))
          have HKN := hide (kok_step (K := kindK ds) (p := (ds, body)) (g := [1, 0]) (q := q) HF.out.fit HK.out)
          rw [HES.out] at HST HKN
          have HOO : Hid (outS (stepS (bDs, bBody 0) [1, 0] q).1 ds = [1, 1, count + 1, 1]) := by
            show _ = _
            rw [HDS.out, HG.out.2, if_pos ⟨rfl, hrn⟩, if_pos (show (((0 : Nat) : Int)) ≤ count + 1 from hcn)]
          rw [HOO.out] at HST
          have HBI2 := hide HG.out.1
          generalize stepS (bDs, bBody 0) [1, 0] q = q2 at *
          have HA9 := hide (below_alloc w9 (.cells #[.int .i64 1, .int .i64 0] 3))
          clear HG HOO
          have hand : bits BinOp.andNot IntKind.i64 1 0 = 1 := by kernel_rfl
          have hmn : min (count + 1) 255 = count + 1 := by omega
          go_wp2_with fail
          generalize (w9.alloc (.cells #[.int .i64 1, .int .i64 0] 3)) = x1 at *
          refine HST.out.mono ?_
          rintro e x5 ⟨⟨o5, k5, rfl, hl5⟩, hp5, hkm5⟩
          have HL5 := hide hl5
          have HP5 := hide hp5
          have HBX : Hid (Below w6.heap.size w6 x5) := (HRB.out.trans (HA9.out.mono HRB.out.size)).trans (hkm5.below (Nat.le_trans HRB.out.size HA9.out.size) (by have := HVB.out; omega) (by have := HVB.out; omega))
          have HSZ5 : Hid (w8.heap.size ≤ x5.heap.size) := Nat.le_trans hsz.out (Nat.le_trans HB9.out.size (Nat.le_trans HA9.out.size hkm5.size))
          clear hl5 hp5 hkm5
          have HWB := hide (below_alloc x5 (.cells #[.int .i64 1, .int .i64 1, .int .i64 (count + 1), .int .i64 1] 3))
          have HEQ := hide (eqI_at [1, 1, count + 1, 1] _ AnyB (x5.alloc (.cells #[.int .i64 1, .int .i64 1, .int .i64 (count + 1), .int .i64 1] 3)) o5 (some ⟨x5.heap.size, 0, none⟩) k5 4 (HL5.out.below HWB.out) (Lies.blk (cs := intsC [1, 1, count + 1, 1]) (blk_new x5 (.cells #[.int .i64 1, .int .i64 1, .int .i64 (count + 1), .int .i64 1] 3)) trivial) (by simp))
          simp only [List.length_cons, List.length_nil, Nat.zero_add, Nat.reduceAdd] at HEQ
          go_wp2_with fail
          refine HEQ.out.mono ?_
          rintro e x6 ⟨rfl, hb6⟩
          have HX6 := hide (HWB.out.trans (hb6.mono HWB.out.size))
          clear hb6
          go_wp2_with fail
          exact ⟨⟨j + 1, run + 1, 1, count + 1, by omega, by go_num, rfl, rfl, rfl, ⟨by omega, by omega⟩, by simp, ⟨by omega, by omega⟩, hide ⟨q2, HBI2.out, HP5.out.of HX6.out, HKN.out⟩, hide (HBX.out.trans (HX6.out.mono HBX.out.size)), hide (Nat.le_trans HSZ5.out HX6.out.size)⟩, by simp [intOf]; omega⟩
      · skip
        by_cases hm : (255 : Int) < count + 1
        · skip
          have hrn : (0 : Int) ≤ run + 1 := by omega
          have hcn : (0 : Int) ≤ 0 := by omega
          have HG := hide (bgo 0 run 0 count 1 1 q HBI.out (by simp) (by simp) (by simp) hr0 hc0 hc1 (run + 1) 1 (0) (by simp) (by simp) (by simp [*]))
          have HST := hide (sstep_at ds body [1, 1] (fun c => c < w5.heap.size) (fun c => c ≠ V ∧ c ≠ B) (w9.alloc (.cells #[.int .i64 1, .int .i64 1] 3)) P V B (.slice (some ⟨w9.heap.size, 0, none⟩) 2 2) ca da cc dc q.1 q.2 (kindK ds) (HP9.out.of (below_alloc _ _))
            (IsRow.same HDY.out fun c h1 h2 => (Below.trans HRB.out ((below_alloc w9 _).mono HRB.out.size)).block c h2) (HSY.out.same fun c h1 h2 => (Below.trans HRB.out ((below_alloc w9 _).mono HRB.out.size)).block c h2)
            (fun c h => ⟨Nat.lt_of_lt_of_le (Nat.lt_of_lt_of_le h (by have := HVB.out; have := HRB.out.size; omega)) (below_alloc w9 _).size, by have := HVB.out; have h : c < w5.heap.size := h; exact ⟨by omega, by omega⟩⟩)
            ⟨some ⟨w9.heap.size, 0, none⟩, 2, rfl, Lies.blk (cs := intsC [1, 1]) (blk_new w9 (.cells #[.int .i64 1, .int .i64 1] 3)) (by have := HVB.out; have := hsz.out; have := HB9.out.size; exact ⟨by omega, by omega⟩), Nat.le_refl _, by decide⟩
            (fun c h => h) HK.out HF.out.fit HF.out.qm HF.out.size (by have := HF.out.many; simp only at this; omega))
          have HKN := hide (kok_step (K := kindK ds) (p := (ds, body)) (g := [1, 1]) (q := q) HF.out.fit HK.out)
          rw [HES.out] at HST HKN
          have HOO : Hid (outS (stepS (bDs, bBody 0) [1, 1] q).1 ds = [1, 1, 0, 1]) := by
            show _ = _
            rw [HDS.out, HG.out.2, if_pos ⟨rfl, hrn⟩, if_pos (show (((0 : Nat) : Int)) ≤ 0 from hcn)]
          rw [HOO.out] at HST
          have HBI2 := hide HG.out.1
          generalize stepS (bDs, bBody 0) [1, 1] q = q2 at *
          have HA9 := hide (below_alloc w9 (.cells #[.int .i64 1, .int .i64 1] 3))
          clear HG HOO
          have hand : bits BinOp.andNot IntKind.i64 1 0 = 1 := by kernel_rfl
          have hmn : min (count + 1) 255 = 255 := by omega
          go_wp2_with fail
          generalize (w9.alloc (.cells #[.int .i64 1, .int .i64 1] 3)) = x1 at *
          refine HST.out.mono ?_
          rintro e x5 ⟨⟨o5, k5, rfl, hl5⟩, hp5, hkm5⟩
          have HL5 := hide hl5
          have HP5 := hide hp5
          have HBX : Hid (Below w6.heap.size w6 x5) := (HRB.out.trans (HA9.out.mono HRB.out.size)).trans (hkm5.below (Nat.le_trans HRB.out.size HA9.out.size) (by have := HVB.out; omega) (by have := HVB.out; omega))
          have HSZ5 : Hid (w8.heap.size ≤ x5.heap.size) := Nat.le_trans hsz.out (Nat.le_trans HB9.out.size (Nat.le_trans HA9.out.size hkm5.size))
          clear hl5 hp5 hkm5
          have HWB := hide (below_alloc x5 (.cells #[.int .i64 1, .int .i64 1, .int .i64 (0), .int .i64 1] 3))
          have HEQ := hide (eqI_at [1, 1, 0, 1] _ AnyB (x5.alloc (.cells #[.int .i64 1, .int .i64 1, .int .i64 (0), .int .i64 1] 3)) o5 (some ⟨x5.heap.size, 0, none⟩) k5 4 (HL5.out.below HWB.out) (Lies.blk (cs := intsC [1, 1, 0, 1]) (blk_new x5 (.cells #[.int .i64 1, .int .i64 1, .int .i64 (0), .int .i64 1] 3)) trivial) (by simp))
          simp only [List.length_cons, List.length_nil, Nat.zero_add, Nat.reduceAdd] at HEQ
          go_wp2_with fail
          refine HEQ.out.mono ?_
          rintro e x6 ⟨rfl, hb6⟩
          have HX6 := hide (HWB.out.trans (hb6.mono HWB.out.size))
          clear hb6
          go_wp2_with fail
          exact ⟨⟨j + 1, run + 1, 1, 0, by omega, by go_num, rfl, rfl, rfl, ⟨by omega, by omega⟩, by simp, ⟨by omega, by omega⟩, hide ⟨q2, HBI2.out, HP5.out.of HX6.out, HKN.out⟩, hide (HBX.out.trans (HX6.out.mono HBX.out.size)), hide (Nat.le_trans HSZ5.out HX6.out.size)⟩, by simp [intOf]; omega⟩
        · skip
          have hrn : (0 : Int) ≤ run + 1 := by omega
          have hcn : (0 : Int) ≤ 0 := by omega
          have HG := hide (bgo 0 run 0 count 1 1 q HBI.out (by simp) (by simp) (by simp) hr0 hc0 hc1 (run + 1) 1 (0) (by simp) (by simp) (by simp [*]))
          have HST := hide (sstep_at ds body [1, 1] (fun c => c < w5.heap.size) (fun c => c ≠ V ∧ c ≠ B) (w9.alloc (.cells #[.int .i64 1, .int .i64 1] 3)) P V B (.slice (some ⟨w9.heap.size, 0, none⟩) 2 2) ca da cc dc q.1 q.2 (kindK ds) (HP9.out.of (below_alloc _ _))
            (IsRow.same HDY.out fun c h1 h2 => (Below.trans HRB.out ((below_alloc w9 _).mono HRB.out.size)).block c h2) (HSY.out.same fun c h1 h2 => (Below.trans HRB.out ((below_alloc w9 _).mono HRB.out.size)).block c h2)
            (fun c h => ⟨Nat.lt_of_lt_of_le (Nat.lt_of_lt_of_le h (by have := HVB.out; have := HRB.out.size; omega)) (below_alloc w9 _).size, by have := HVB.out; have h : c < w5.heap.size := h; exact ⟨by omega, by omega⟩⟩)
            ⟨some ⟨w9.heap.size, 0, none⟩, 2, rfl, Lies.blk (cs := intsC [1, 1]) (blk_new w9 (.cells #[.int .i64 1, .int .i64 1] 3)) (by have := HVB.out; have := hsz.out; have := HB9.out.size; exact ⟨by omega, by omega⟩), Nat.le_refl _, by decide⟩
            (fun c h => h) HK.out HF.out.fit HF.out.qm HF.out.size (by have := HF.out.many; simp only at this; omega))
          have HKN := hide (kok_step (K := kindK ds) (p := (ds, body)) (g := [1, 1]) (q := q) HF.out.fit HK.out)
          rw [HES.out] at HST HKN
          have HOO : Hid (outS (stepS (bDs, bBody 0) [1, 1] q).1 ds = [1, 1, 0, 1]) := by
            show _ = _
            rw [HDS.out, HG.out.2, if_pos ⟨rfl, hrn⟩, if_pos (show (((0 : Nat) : Int)) ≤ 0 from hcn)]
          rw [HOO.out] at HST
          have HBI2 := hide HG.out.1
          generalize stepS (bDs, bBody 0) [1, 1] q = q2 at *
          have HA9 := hide (below_alloc w9 (.cells #[.int .i64 1, .int .i64 1] 3))
          clear HG HOO
          have hand : bits BinOp.andNot IntKind.i64 1 0 = 1 := by kernel_rfl
          have hmn : min (count + 1) 255 = count + 1 := by omega
          go_wp2_with fail
          generalize (w9.alloc (.cells #[.int .i64 1, .int .i64 1] 3)) = x1 at *
          refine HST.out.mono ?_
          rintro e x5 ⟨⟨o5, k5, rfl, hl5⟩, hp5, hkm5⟩
          have HL5 := hide hl5
          have HP5 := hide hp5
          have HBX : Hid (Below w6.heap.size w6 x5) := (HRB.out.trans (HA9.out.mono HRB.out.size)).trans (hkm5.below (Nat.le_trans HRB.out.size HA9.out.size) (by have := HVB.out; omega) (by have := HVB.out; omega))
          have HSZ5 : Hid (w8.heap.size ≤ x5.heap.size) := Nat.le_trans hsz.out (Nat.le_trans HB9.out.size (Nat.le_trans HA9.out.size hkm5.size))
          clear hl5 hp5 hkm5
          have HWB := hide (below_alloc x5 (.cells #[.int .i64 1, .int .i64 1, .int .i64 (0), .int .i64 1] 3))
          have HEQ := hide (eqI_at [1, 1, 0, 1] _ AnyB (x5.alloc (.cells #[.int .i64 1, .int .i64 1, .int .i64 (0), .int .i64 1] 3)) o5 (some ⟨x5.heap.size, 0, none⟩) k5 4 (HL5.out.below HWB.out) (Lies.blk (cs := intsC [1, 1, 0, 1]) (blk_new x5 (.cells #[.int .i64 1, .int .i64 1, .int .i64 (0), .int .i64 1] 3)) trivial) (by simp))
          simp only [List.length_cons, List.length_nil, Nat.zero_add, Nat.reduceAdd] at HEQ
          go_wp2_with fail
          refine HEQ.out.mono ?_
          rintro e x6 ⟨rfl, hb6⟩
          have HX6 := hide (HWB.out.trans (hb6.mono HWB.out.size))
          clear hb6
          go_wp2_with fail
          exact ⟨⟨j + 1, run + 1, 1, 0, by omega, by go_num, rfl, rfl, rfl, ⟨by omega, by omega⟩, by simp, ⟨by omega, by omega⟩, hide ⟨q2, HBI2.out, HP5.out.of HX6.out, HKN.out⟩, hide (HBX.out.trans (HX6.out.mono HBX.out.size)), hide (Nat.le_trans HSZ5.out HX6.out.size)⟩, by simp [intOf]; omega⟩
      · skip
        have hm : ¬ (255 : Int) < count := by omega
        have hcn : (0 : Int) ≤ count := by omega
        have HG := hide (bgo 0 run 1 count 0 0 q HBI.out (by simp) (by simp) (by simp) hr0 hc0 hc1 (0) 0 (count) (by simp) (by simp) (by simp [*]))
        have HST := hide (sstep_at ds body [0, 0] (fun c => c < w5.heap.size) (fun c => c ≠ V ∧ c ≠ B) (w9.alloc (.cells #[.int .i64 0, .int .i64 0] 3)) P V B (.slice (some ⟨w9.heap.size, 0, none⟩) 2 2) ca da cc dc q.1 q.2 (kindK ds) (HP9.out.of (below_alloc _ _))
          (IsRow.same HDY.out fun c h1 h2 => (Below.trans HRB.out ((below_alloc w9 _).mono HRB.out.size)).block c h2) (HSY.out.same fun c h1 h2 => (Below.trans HRB.out ((below_alloc w9 _).mono HRB.out.size)).block c h2)
          (fun c h => ⟨Nat.lt_of_lt_of_le (Nat.lt_of_lt_of_le h (by have := HVB.out; have := HRB.out.size; omega)) (below_alloc w9 _).size, by have := HVB.out; have h : c < w5.heap.size := h; exact ⟨by omega, by omega⟩⟩)
          ⟨some ⟨w9.heap.size, 0, none⟩, 2, rfl, Lies.blk (cs := intsC [0, 0]) (blk_new w9 (.cells #[.int .i64 0, .int .i64 0] 3)) (by have := HVB.out; have := hsz.out; have := HB9.out.size; exact ⟨by omega, by omega⟩), Nat.le_refl _, by decide⟩
          (fun c h => h) HK.out HF.out.fit HF.out.qm HF.out.size (by have := HF.out.many; simp only at this; omega))
        have HKN := hide (kok_step (K := kindK ds) (p := (ds, body)) (g := [0, 0]) (q := q) HF.out.fit HK.out)
        rw [HES.out] at HST HKN
        have HOO : Hid (outS (stepS (bDs, bBody 0) [0, 0] q).1 ds = [0, 0, count, 1]) := by
          show _ = _
          rw [HDS.out, HG.out.2, if_neg (fun h => absurd h.1 (by decide)), if_pos (show (((0 : Nat) : Int)) ≤ count from hcn)]
        rw [HOO.out] at HST
        have HBI2 := hide HG.out.1
        generalize stepS (bDs, bBody 0) [0, 0] q = q2 at *
        have HA9 := hide (below_alloc w9 (.cells #[.int .i64 0, .int .i64 0] 3))
        clear HG HOO
        have hand : bits BinOp.andNot IntKind.i64 0 1 = 0 := by kernel_rfl
        have hmn : min (count) 255 = count := by omega
        go_wp2_with fail
        generalize (w9.alloc (.cells #[.int .i64 0, .int .i64 0] 3)) = x1 at *
        refine HST.out.mono ?_
        rintro e x5 ⟨⟨o5, k5, rfl, hl5⟩, hp5, hkm5⟩
        have HL5 := hide hl5
        have HP5 := hide hp5
        have HBX : Hid (Below w6.heap.size w6 x5) := (HRB.out.trans (HA9.out.mono HRB.out.size)).trans (hkm5.below (Nat.le_trans HRB.out.size HA9.out.size) (by have := HVB.out; omega) (by have := HVB.out; omega))
        have HSZ5 : Hid (w8.heap.size ≤ x5.heap.size) := Nat.le_trans hsz.out (Nat.le_trans HB9.out.size (Nat.le_trans HA9.out.size hkm5.size))
        clear hl5 hp5 hkm5
        have HWB := hide (below_alloc x5 (.cells #[.int .i64 0, .int .i64 0, .int .i64 (count), .int .i64 1] 3))
        have HEQ := hide (eqI_at [0, 0, count, 1] _ AnyB (x5.alloc (.cells #[.int .i64 0, .int .i64 0, .int .i64 (count), .int .i64 1] 3)) o5 (some ⟨x5.heap.size, 0, none⟩) k5 4 (HL5.out.below HWB.out) (Lies.blk (cs := intsC [0, 0, count, 1]) (blk_new x5 (.cells #[.int .i64 0, .int .i64 0, .int .i64 (count), .int .i64 1] 3)) trivial) (by simp))
        simp only [List.length_cons, List.length_nil, Nat.zero_add, Nat.reduceAdd] at HEQ
        go_wp2_with fail
        refine HEQ.out.mono ?_
        rintro e x6 ⟨rfl, hb6⟩
        have HX6 := hide (HWB.out.trans (hb6.mono HWB.out.size))
        clear hb6
        go_wp2_with fail
        exact ⟨⟨j + 1, 0, 0, count, by omega, by go_num, rfl, rfl, rfl, ⟨by omega, by omega⟩, by simp, ⟨by omega, by omega⟩, hide ⟨q2, HBI2.out, HP5.out.of HX6.out, HKN.out⟩, hide (HBX.out.trans (HX6.out.mono HBX.out.size)), hide (Nat.le_trans HSZ5.out HX6.out.size)⟩, by simp [intOf]; omega⟩
      · skip
        have hm : ¬ (255 : Int) < count := by omega
        have hcn : (0 : Int) ≤ 0 := by omega
        have HG := hide (bgo 0 run 1 count 0 1 q HBI.out (by simp) (by simp) (by simp) hr0 hc0 hc1 (0) 0 (0) (by simp) (by simp) (by simp [*]))
        have HST := hide (sstep_at ds body [0, 1] (fun c => c < w5.heap.size) (fun c => c ≠ V ∧ c ≠ B) (w9.alloc (.cells #[.int .i64 0, .int .i64 1] 3)) P V B (.slice (some ⟨w9.heap.size, 0, none⟩) 2 2) ca da cc dc q.1 q.2 (kindK ds) (HP9.out.of (below_alloc _ _))
          (IsRow.same HDY.out fun c h1 h2 => (Below.trans HRB.out ((below_alloc w9 _).mono HRB.out.size)).block c h2) (HSY.out.same fun c h1 h2 => (Below.trans HRB.out ((below_alloc w9 _).mono HRB.out.size)).block c h2)
          (fun c h => ⟨Nat.lt_of_lt_of_le (Nat.lt_of_lt_of_le h (by have := HVB.out; have := HRB.out.size; omega)) (below_alloc w9 _).size, by have := HVB.out; have h : c < w5.heap.size := h; exact ⟨by omega, by omega⟩⟩)
          ⟨some ⟨w9.heap.size, 0, none⟩, 2, rfl, Lies.blk (cs := intsC [0, 1]) (blk_new w9 (.cells #[.int .i64 0, .int .i64 1] 3)) (by have := HVB.out; have := hsz.out; have := HB9.out.size; exact ⟨by omega, by omega⟩), Nat.le_refl _, by decide⟩
          (fun c h => h) HK.out HF.out.fit HF.out.qm HF.out.size (by have := HF.out.many; simp only at this; omega))
        have HKN := hide (kok_step (K := kindK ds) (p := (ds, body)) (g := [0, 1]) (q := q) HF.out.fit HK.out)
        rw [HES.out] at HST HKN
        have HOO : Hid (outS (stepS (bDs, bBody 0) [0, 1] q).1 ds = [0, 0, 0, 1]) := by
          show _ = _
          rw [HDS.out, HG.out.2, if_neg (fun h => absurd h.1 (by decide)), if_pos (show (((0 : Nat) : Int)) ≤ 0 from hcn)]
        rw [HOO.out] at HST
        have HBI2 := hide HG.out.1
        generalize stepS (bDs, bBody 0) [0, 1] q = q2 at *
        have HA9 := hide (below_alloc w9 (.cells #[.int .i64 0, .int .i64 1] 3))
        clear HG HOO
        have hand : bits BinOp.andNot IntKind.i64 0 1 = 0 := by kernel_rfl
        have hmn : min (count) 255 = count := by omega
        go_wp2_with fail
        generalize (w9.alloc (.cells #[.int .i64 0, .int .i64 1] 3)) = x1 at *
        refine HST.out.mono ?_
        rintro e x5 ⟨⟨o5, k5, rfl, hl5⟩, hp5, hkm5⟩
        have HL5 := hide hl5
        have HP5 := hide hp5
        have HBX : Hid (Below w6.heap.size w6 x5) := (HRB.out.trans (HA9.out.mono HRB.out.size)).trans (hkm5.below (Nat.le_trans HRB.out.size HA9.out.size) (by have := HVB.out; omega) (by have := HVB.out; omega))
        have HSZ5 : Hid (w8.heap.size ≤ x5.heap.size) := Nat.le_trans hsz.out (Nat.le_trans HB9.out.size (Nat.le_trans HA9.out.size hkm5.size))
        clear hl5 hp5 hkm5
        have HWB := hide (below_alloc x5 (.cells #[.int .i64 0, .int .i64 0, .int .i64 (0), .int .i64 1] 3))
        have HEQ := hide (eqI_at [0, 0, 0, 1] _ AnyB (x5.alloc (.cells #[.int .i64 0, .int .i64 0, .int .i64 (0), .int .i64 1] 3)) o5 (some ⟨x5.heap.size, 0, none⟩) k5 4 (HL5.out.below HWB.out) (Lies.blk (cs := intsC [0, 0, 0, 1]) (blk_new x5 (.cells #[.int .i64 0, .int .i64 0, .int .i64 (0), .int .i64 1] 3)) trivial) (by simp))
        simp only [List.length_cons, List.length_nil, Nat.zero_add, Nat.reduceAdd] at HEQ
        go_wp2_with fail
        refine HEQ.out.mono ?_
        rintro e x6 ⟨rfl, hb6⟩
        have HX6 := hide (HWB.out.trans (hb6.mono HWB.out.size))
        clear hb6
        go_wp2_with fail
        exact ⟨⟨j + 1, 0, 0, 0, by omega, by go_num, rfl, rfl, rfl, ⟨by omega, by omega⟩, by simp, ⟨by omega, by omega⟩, hide ⟨q2, HBI2.out, HP5.out.of HX6.out, HKN.out⟩, hide (HBX.out.trans (HX6.out.mono HBX.out.size)), hide (Nat.le_trans HSZ5.out HX6.out.size)⟩, by simp [intOf]; omega⟩
      · skip
        have hm : ¬ (255 : Int) < count := by omega
        have hrn : (0 : Int) ≤ run + 1 := by omega
        have hcn : (0 : Int) ≤ count := by omega
        have HG := hide (bgo 0 run 1 count 1 0 q HBI.out (by simp) (by simp) (by simp) hr0 hc0 hc1 (run + 1) 0 (count) (by simp) (by simp) (by simp [*]))
        have HST := hide (sstep_at ds body [1, 0] (fun c => c < w5.heap.size) (fun c => c ≠ V ∧ c ≠ B) (w9.alloc (.cells #[.int .i64 1, .int .i64 0] 3)) P V B (.slice (some ⟨w9.heap.size, 0, none⟩) 2 2) ca da cc dc q.1 q.2 (kindK ds) (HP9.out.of (below_alloc _ _))
          (IsRow.same HDY.out fun c h1 h2 => (Below.trans HRB.out ((below_alloc w9 _).mono HRB.out.size)).block c h2) (HSY.out.same fun c h1 h2 => (Below.trans HRB.out ((below_alloc w9 _).mono HRB.out.size)).block c h2)
          (fun c h => ⟨Nat.lt_of_lt_of_le (Nat.lt_of_lt_of_le h (by have := HVB.out; have := HRB.out.size; omega)) (below_alloc w9 _).size, by have := HVB.out; have h : c < w5.heap.size := h; exact ⟨by omega, by omega⟩⟩)
          ⟨some ⟨w9.heap.size, 0, none⟩, 2, rfl, Lies.blk (cs := intsC [1, 0]) (blk_new w9 (.cells #[.int .i64 1, .int .i64 0] 3)) (by have := HVB.out; have := hsz.out; have := HB9.out.size; exact ⟨by omega, by omega⟩), Nat.le_refl _, by decide⟩
          (fun c h => h) HK.out HF.out.fit HF.out.qm HF.out.size (by have := HF.out.many; simp only at this; omega))
        have HKN := hide (kok_step (K := kindK ds) (p := (ds, body)) (g := [1, 0]) (q := q) HF.out.fit HK.out)
        rw [HES.out] at HST HKN
        have HOO : Hid (outS (stepS (bDs, bBody 0) [1, 0] q).1 ds = [1, 0, count, 1]) := by
          show _ = _
          rw [HDS.out, HG.out.2, if_pos ⟨rfl, hrn⟩, if_pos (show (((0 : Nat) : Int)) ≤ count from hcn)]
        rw [HOO.out] at HST
        have HBI2 := hide HG.out.1
        generalize stepS (bDs, bBody 0) [1, 0] q = q2 at *
        have HA9 := hide (below_alloc w9 (.cells #[.int .i64 1, .int .i64 0] 3))
        clear HG HOO
        have hand : bits BinOp.andNot IntKind.i64 1 1 = 0 := by kernel_rfl
        have hmn : min (count) 255 = count := by omega
        go_wp2_with fail
        generalize (w9.alloc (.cells #[.int .i64 1, .int .i64 0] 3)) = x1 at *
        refine HST.out.mono ?_
        rintro e x5 ⟨⟨o5, k5, rfl, hl5⟩, hp5, hkm5⟩
        have HL5 := hide hl5
        have HP5 := hide hp5
        have HBX : Hid (Below w6.heap.size w6 x5) := (HRB.out.trans (HA9.out.mono HRB.out.size)).trans (hkm5.below (Nat.le_trans HRB.out.size HA9.out.size) (by have := HVB.out; omega) (by have := HVB.out; omega))
        have HSZ5 : Hid (w8.heap.size ≤ x5.heap.size) := Nat.le_trans hsz.out (Nat.le_trans HB9.out.size (Nat.le_trans HA9.out.size hkm5.size))
        clear hl5 hp5 hkm5
        have HWB := hide (below_alloc x5 (.cells #[.int .i64 1, .int .i64 0, .int .i64 (count), .int .i64 1] 3))
        have HEQ := hide (eqI_at [1, 0, count, 1] _ AnyB (x5.alloc (.cells #[.int .i64 1, .int .i64 0, .int .i64 (count), .int .i64 1] 3)) o5 (some ⟨x5.heap.size, 0, none⟩) k5 4 (HL5.out.below HWB.out) (Lies.blk (cs := intsC [1, 0, count, 1]) (blk_new x5 (.cells #[.int .i64 1, .int .i64 0, .int .i64 (count), .int .i64 1] 3)) trivial) (by simp))
        simp only [List.length_cons, List.length_nil, Nat.zero_add, Nat.reduceAdd] at HEQ
        go_wp2_with fail
        refine HEQ.out.mono ?_
        rintro e x6 ⟨rfl, hb6⟩
        have HX6 := hide (HWB.out.trans (hb6.mono HWB.out.size))
        clear hb6
        go_wp2_with fail
        exact ⟨⟨j + 1, run + 1, 1, count, by omega, by go_num, rfl, rfl, rfl, ⟨by omega, by omega⟩, by simp, ⟨by omega, by omega⟩, hide ⟨q2, HBI2.out, HP5.out.of HX6.out, HKN.out⟩, hide (HBX.out.trans (HX6.out.mono HBX.out.size)), hide (Nat.le_trans HSZ5.out HX6.out.size)⟩, by simp [intOf]; omega⟩
      · skip
        have hm : ¬ (255 : Int) < count := by omega
        have hrn : (0 : Int) ≤ run + 1 := by omega
        have hcn : (0 : Int) ≤ 0 := by omega
        have HG := hide (bgo 0 run 1 count 1 1 q HBI.out (by simp) (by simp) (by simp) hr0 hc0 hc1 (run + 1) 0 (0) (by simp) (by simp) (by simp [*]))
        have HST := hide (sstep_at ds body [1, 1] (fun c => c < w5.heap.size) (fun c => c ≠ V ∧ c ≠ B) (w9.alloc (.cells #[.int .i64 1, .int .i64 1] 3)) P V B (.slice (some ⟨w9.heap.size, 0, none⟩) 2 2) ca da cc dc q.1 q.2 (kindK ds) (HP9.out.of (below_alloc _ _))
          (IsRow.same HDY.out fun c h1 h2 => (Below.trans HRB.out ((below_alloc w9 _).mono HRB.out.size)).block c h2) (HSY.out.same fun c h1 h2 => (Below.trans HRB.out ((below_alloc w9 _).mono HRB.out.size)).block c h2)
          (fun c h => ⟨Nat.lt_of_lt_of_le (Nat.lt_of_lt_of_le h (by have := HVB.out; have := HRB.out.size; omega)) (below_alloc w9 _).size, by have := HVB.out; have h : c < w5.heap.size := h; exact ⟨by omega, by omega⟩⟩)
          ⟨some ⟨w9.heap.size, 0, none⟩, 2, rfl, Lies.blk (cs := intsC [1, 1]) (blk_new w9 (.cells #[.int .i64 1, .int .i64 1] 3)) (by have := HVB.out; have := hsz.out; have := HB9.out.size; exact ⟨by omega, by omega⟩), Nat.le_refl _, by decide⟩
          (fun c h => h) HK.out HF.out.fit HF.out.qm HF.out.size (by have := HF.out.many; simp only at this; omega))
        have HKN := hide (kok_step (K := kindK ds) (p := (ds, body)) (g := [1, 1]) (q := q) HF.out.fit HK.out)
        rw [HES.out] at HST HKN
        have HOO : Hid (outS (stepS (bDs, bBody 0) [1, 1] q).1 ds = [1, 0, 0, 1]) := by
          show _ = _
          rw [HDS.out, HG.out.2, if_pos ⟨rfl, hrn⟩, if_pos (show (((0 : Nat) : Int)) ≤ 0 from hcn)]
        rw [HOO.out] at HST
        have HBI2 := hide HG.out.1
        generalize stepS (bDs, bBody 0) [1, 1] q = q2 at *
        have HA9 := hide (below_alloc w9 (.cells #[.int .i64 1, .int .i64 1] 3))
        clear HG HOO
        have hand : bits BinOp.andNot IntKind.i64 1 1 = 0 := by kernel_rfl
        have hmn : min (count) 255 = count := by omega
        go_wp2_with fail
        generalize (w9.alloc (.cells #[.int .i64 1, .int .i64 1] 3)) = x1 at *
        refine HST.out.mono ?_
        rintro e x5 ⟨⟨o5, k5, rfl, hl5⟩, hp5, hkm5⟩
        have HL5 := hide hl5
        have HP5 := hide hp5
        have HBX : Hid (Below w6.heap.size w6 x5) := (HRB.out.trans (HA9.out.mono HRB.out.size)).trans (hkm5.below (Nat.le_trans HRB.out.size HA9.out.size) (by have := HVB.out; omega) (by have := HVB.out; omega))
        have HSZ5 : Hid (w8.heap.size ≤ x5.heap.size) := Nat.le_trans hsz.out (Nat.le_trans HB9.out.size (Nat.le_trans HA9.out.size hkm5.size))
        clear hl5 hp5 hkm5
        have HWB := hide (below_alloc x5 (.cells #[.int .i64 1, .int .i64 0, .int .i64 (0), .int .i64 1] 3))
        have HEQ := hide (eqI_at [1, 0, 0, 1] _ AnyB (x5.alloc (.cells #[.int .i64 1, .int .i64 0, .int .i64 (0), .int .i64 1] 3)) o5 (some ⟨x5.heap.size, 0, none⟩) k5 4 (HL5.out.below HWB.out) (Lies.blk (cs := intsC [1, 0, 0, 1]) (blk_new x5 (.cells #[.int .i64 1, .int .i64 0, .int .i64 (0), .int .i64 1] 3)) trivial) (by simp))
        simp only [List.length_cons, List.length_nil, Nat.zero_add, Nat.reduceAdd] at HEQ
        go_wp2_with fail
        refine HEQ.out.mono ?_
        rintro e x6 ⟨rfl, hb6⟩
        have HX6 := hide (HWB.out.trans (hb6.mono HWB.out.size))
        clear hb6
        go_wp2_with fail
        exact ⟨⟨j + 1, run + 1, 1, 0, by omega, by go_num, rfl, rfl, rfl, ⟨by omega, by omega⟩, by simp, ⟨by omega, by omega⟩, hide ⟨q2, HBI2.out, HP5.out.of HX6.out, HKN.out⟩, hide (HBX.out.trans (HX6.out.mono HBX.out.size)), hide (Nat.le_trans HSZ5.out HX6.out.size)⟩, by simp [intOf]; omega⟩
    · have hji : ¬ (j : Int) < (asks.length : Int) := by omega
      go_wp2_with fail
      go_ret
      exact ⟨rfl, HBW.out⟩

theorem blocks_all (n : Int) (k : Nat) (hk20 : k < 20) (hpk : wrap64 ((IntKind.u64.wrap n).tmod 20) = (k : Int)) (p : List De × List St) (kk : Nat) (T : List UInt8) (hT : T = bTxt k) (hp : parse2 ⟨T.toArray⟩ = .ok p kk) (hc : checkC p = .ok ()) (hd : p.1 = bDs) (he : erL p.2 = bBody k) (hl : T.length ≤ 1000) (asks : List Int) (ga : Option Addr) (gc : Nat) (w : World) (h60 : ¬ 60 < asks.length) (hlie : Lies (fun c => c < w.heap.size) w ga (intsC asks)) (hv : Vars w) (ht : Tab w) (h14 : 8 ≤ w.heap.size) :
    Calls Tryz.prog 3 #[.slice ga asks.length gc, .int .i64 n] w fun e w' => e = .returned (.bool true) ∧ Below w.heap.size w w' := by
  have hfine := fine_of (by rw [str_sz]; omega) hp hc
  obtain ⟨ds, body⟩ := p
  simp only at hd he
  have hes : ∀ g q, stepS (ds, body) g q = stepS (bDs, bBody k) g q := fun g q => by rw [hd]; exact bes he g q
  have htx : ∀ D : ByteArray, D = ⟨(Lib.decDigits k).toArray⟩ → (⟨bA.toArray⟩ ++ D ++ ⟨bB.toArray⟩ ++ D ++ ⟨bC.toArray⟩ : ByteArray) = ⟨T.toArray⟩ := fun D h => by rw [hT]; exact btext k D h
  clear hT he
  rcases Nat.eq_zero_or_pos k with h0 | h0
  · subst h0
    exact blocks_zero n kk ds body T hpk hp hl hfine hd hes htx asks ga gc w h60 hlie hv ht h14
  · exact blocks_pos n k kk ds body T hk20 h0 hpk hp hl hfine hd hes htx asks ga gc w h60 hlie hv ht h14
theorem sblocks_at (n : Int) (asks : List Int) (ga : Option Addr) (gc : Nat) (w : World) (h60 : ¬ 60 < asks.length) (hlie : Lies (fun c => c < w.heap.size) w ga (intsC asks)) (hv : Vars w) (ht : Tab w) (h14 : 8 ≤ w.heap.size) :
    Calls Tryz.prog 3 #[.slice ga asks.length gc, .int .i64 n] w fun e w' => e = .returned (.bool true) ∧ Below w.heap.size w w' := by
  obtain ⟨k, hk, hpk⟩ := small20 n
  obtain ⟨h1, h2, h3, h4, h5⟩ := ball k hk
  exact blocks_all n k hk hpk (bPr k) (bKk k) (bTxt k) rfl h1 h2 h3 h4 h5 asks ga gc w h60 hlie hv ht h14
end Go.Proofs.YtpblellbffmolaaGreatDoor
