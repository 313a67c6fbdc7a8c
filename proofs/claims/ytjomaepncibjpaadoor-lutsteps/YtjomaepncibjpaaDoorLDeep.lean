/-
  CONTRACTS of behind, Depth.
-/
import Derived.Test.YtjomaepncibjpaaDoorLRt
import Derived.Lib.MinMax
set_option linter.unusedSimpArgs false
set_option linter.unusedVariables false
namespace Go.Proofs.YtjomaepncibjpaaDoor
open Go.RowKit

theorem ints_cellT {w : World} {b : Nat} {l : List Int} {t : TypeId} {z : Nat × Nat} (h : w.heap[b]? = some (.cells (intsC l).toArray t z)) {i : Nat} (hi : i < l.length) : w.cell? ⟨b, i, none⟩ = some (.int .i64 (outAt l i)) := by
  rw [blk_cell h]; simp [intsC, outAt, hi]
theorem made_ints (n : Nat) : madeCells #[Value.int .i64 0] n = (intsC (List.replicate n 0)).toArray := by
  apply Array.ext_getElem?
  intro j
  by_cases hj : j < n
  · simp [madeCells, hj, Nat.mod_one, intsC]
  · simp [madeCells, hj, intsC]
theorem mk_ints (n : Nat) (hn : n ≤ 100000) (w : World) : (Instr.makeSlice 24 (.int .i64 n) (.int .i64 n)).run Tryd.prog w = .ok (.slice (some ⟨w.heap.size, 0, none⟩) n n) (w.alloc (.cells (intsC (List.replicate n 0)).toArray 3)) := by
  obtain ⟨i, hi, hz, hs, hby⟩ := info_in
  have h := run_make (P := Tryd.prog) w 24 3 i _ (by kernel_rfl) hi hz .i64 .i64 n n (by omega) (Int.le_refl _) (by rw [hby]; omega) (by omega)
  rw [Int.toNat_natCast, hs, Nat.mul_one] at h
  rw [show (Value.int .i64 0).cells = #[Value.int .i64 0] from rfl, made_ints] at h
  exact h
theorem ints_setT (l : List Int) (k : Nat) (b : Int) : (intsC l).toArray.setIfInBounds k (.int .i64 b) = (intsC (l.set k b)).toArray := by
  simp [intsC, List.map_set]

set_option maxRecDepth 100000 in
set_option maxHeartbeats 3200000 in
theorem behind_at {S : Nat → Prop} (a : Option Addr) (ins : List Int) (c : Nat) (t : Int) (D f m : Nat) (ls : List Lt) (k0 : Nat) (w : World) (hl : Lies S w a (intsC ins)) (hD : w.heap[D]? = some (.cells (intsC (deepR f ls k0)).toArray 3 (0, 0))) (hm : m = f + ls.length) (hk : k0 ≤ ls.length) (hb : m ≤ 100000) (hi4 : (ins.length : Int) ≤ 4) (hin : ∀ i, i < ins.length → inR (outAt ins i) (f + k0 : Nat) = true) :
    Calls Tryd.prog 24 #[.agg #[.slice a ins.length c, .int .i64 t], .slice (some ⟨D, 0, none⟩) m m] w fun e w' => e = .returned (.int .i64 (behd f (dpsTo f ls k0) ins)) ∧ Below w.heap.size w w' := by
  have HB := hide (below_alloc w (.cells #[.slice a ins.length c, .int .i64 t] 56))
  have HL := hide (hl.below HB.out)
  have HD := hide (Below.blk HB.out hD)
  have HI := hide hin
  have HLE := hide (behTo_le2 f ls k0 ins)
  have HDL := hide (deepR_len f ls k0)
  clear hl hD hin
  go_enter Tryd.func24, Tryd.ntmps24
  go_wp2_with fail
  generalize (w.alloc (.cells #[.slice a ins.length c, .int .i64 t] 56)) = W at *
  go_loop [5, 7, 11] (fun v _ i => ∃ k : Nat, k ≤ ins.length ∧ i = .int .i64 k ∧ v = .int .i64 (behTo f (dpsTo f ls k0) ins k)) (fun _ _ i => ins.length - (intOf i).toNat)
  case atStart => exact ⟨0, Nat.zero_le _, rfl, rfl⟩
  case round =>
    obtain ⟨k, hk2, rfl, rfl⟩ := hrel
    by_cases hlt : k < ins.length
    · have hki : (k : Int) < (ins.length : Int) := by omega
      obtain ⟨b, off, ha, _, hbl, n0⟩ := HL.out.ints hlt
      obtain ⟨hq0, hq1⟩ := inR_iff.1 (HI.out k hlt)
      have HA := hide ha
      rw [HA.out]
      have hle := HLE.out k
      have HE : Hid ((behTo f (dpsTo f ls k0) ins (k + 1) : Int) = max (behTo f (dpsTo f ls k0) ins k : Int) (depS f (dpsTo f ls k0) (outAt ins k).toNat : Nat)) := hide (by simp only [behTo]; omega)
      generalize behTo f (dpsTo f ls k0) ins k = bk at *
      obtain ⟨q, hq⟩ := Int.eq_ofNat_of_zero_le hq0
      rw [hq] at n0 hq1 HE
      rw [Int.toNat_natCast] at HE
      have hqm : (q : Int) < (m : Int) := by omega
      have d0 := ints_cellT HD.out (i := q) (by rw [HDL.out]; omega)
      rw [deepR_at f ls k0 q (by omega)] at d0
      generalize depS f (dpsTo f ls k0) q = dq at *
      clear ha hbl hq hq0
      go_wp2_with fail
      exact ⟨⟨k + 1, by omega, by go_num, by rw [HE.out]⟩, by simp [intOf]; omega⟩
    · have HK : Hid (k = ins.length) := hide (by omega)
      go_wp2_with fail
      go_ret
      exact ⟨ret_int (by rw [HK.out]; rfl), HB.out⟩

/-- so far in a look for depths -/
structure Dpg (w : World) (D f : Nat) (ls : List Lt) (k : Nat) (wr : World) : Prop where
  below : Below w.heap.size w wr
  row : wr.heap[D]? = some (.cells (intsC (deepR f ls k)).toArray 3 (0, 0))

set_option maxRecDepth 100000 in
set_option maxHeartbeats 3200000 in
theorem Depth_at {s : NetQ} {S : Nat → Prop} {w : World} {gn : Nat} {rs : List Rg} {ls : List Lt} {os : List Int} (h : NetT s S w gn rs ls os) (hr : RightT gn rs ls os) :
    Calls Tryd.prog 9 #[.pointer (some ⟨s.p, 0, none⟩)] w fun e w' => e = .returned (.int .i64 (depthP (gn + rs.length) ls)) ∧ Below w.heap.size w w' := by
  have hRF := hr.luts
  have HC := LRight_at h hr.r1 hr.l1 hr.o1
  rw [rightT_iff.2 hr] at HC
  have HC := hide HC
  have hg := hr.g1
  have hrl := hr.r1
  have hll := hr.l1
  have hfl : gn + rs.length ≤ 40000 := by omega
  have hmk := mk_ints (gn + rs.length + ls.length) (by omega)
  have H := hide h
  have HR := hide hr
  have HS : Hid (∀ W, Below w.heap.size w W → W.cell? ⟨s.p, 0, none⟩ = some (.int .i64 gn) ∧ W.cell? ⟨s.p, 1, none⟩ = some (.slice s.ra rs.length s.rc) ∧ W.cell? ⟨s.p, 2, none⟩ = some (.slice s.la ls.length s.lc)) := hide fun W hb => ⟨(h.below hb).c0, (h.below hb).c1, (h.below hb).c2⟩
  have HFI : Hid (∀ W, Below w.heap.size w W → Calls Tryd.prog 19 #[.pointer (some ⟨s.p, 0, none⟩)] W fun e w' => e = .returned (.int .i64 (gn + rs.length : Nat)) ∧ ∃ m, w' = W.drewN m) := hide fun W hb => lfirst_at s.p gn _ s.ra rs.length s.rc W (h.below hb).c0 (h.below hb).c1 rfl (by omega)
  clear h hr HR
  generalize gn + rs.length = f at *
  have HR := hide hRF
  clear hRF
  generalize hm : f + ls.length = m at *
  have HMQ := hide hm
  have hmb : m ≤ 60000 := by omega
  clear hm
  go_enter Tryd.func9, Tryd.ntmps9
  go_wp2_with fail
  refine HC.out.mono ?_
  rintro e w1 ⟨rfl, hb⟩
  have HB0 := hide hb.drew
  clear hb HC
  go_wp2_with fail
  refine wp_region_held_drew (S := fun W => W.cell? ⟨s.p, 0, none⟩ = some (.int .i64 gn) ∧ W.cell? ⟨s.p, 1, none⟩ = some (.slice s.ra rs.length s.rc) ∧ W.cell? ⟨s.p, 2, none⟩ = some (.slice s.la ls.length s.lc)) (by kernel_rfl) (HS.out _ HB0.out) (fun _ => ?_)
  generalize w1.drew = wd at *
  refine wpAnyH_take (i := 0) (oi := ⟨some 11, _, _, _, _, _⟩) (v := (.pointer (some ⟨s.p, 0, none⟩))) rfl (by kernel_rfl) (by kernel_rfl) (by kernel_rfl) (fun _ _ _ h => h) (Or.inl ⟨by rfl, fun W hS => by (obtain ⟨s0, s1, s2⟩ := hS; go_simp)⟩) (HS.out _ HB0.out) ?_
  simp only [Act.put, List.setIfInBounds_toArray, List.set_cons_zero, List.set_cons_succ]
  refine wpAnyH_take (i := 2) (oi := ⟨some 13, _, _, _, _, _⟩) (v := (.pointer (some ⟨s.p, 0, none⟩))) rfl (by kernel_rfl) (by kernel_rfl) (by kernel_rfl) (fun _ _ _ h => h) (Or.inl ⟨by rfl, fun W hS => by (obtain ⟨s0, s1, s2⟩ := hS; go_simp)⟩) (HS.out _ HB0.out) ?_
  simp only [Act.put, List.setIfInBounds_toArray, List.set_cons_zero, List.set_cons_succ]
  refine wpAnyH_take (i := 3) (oi := ⟨some 14, _, _, _, _, _⟩) (v := (.pointer (some ⟨s.p, 0, none⟩))) rfl (by kernel_rfl) (by kernel_rfl) (by kernel_rfl) (fun _ _ _ h => h) (Or.inl ⟨by rfl, fun W hS => by (obtain ⟨s0, s1, s2⟩ := hS; go_simp)⟩) (HS.out _ HB0.out) ?_
  simp only [Act.put, List.setIfInBounds_toArray, List.set_cons_zero, List.set_cons_succ]
  refine wpAnyH_take (i := 4) (oi := ⟨some 15, _, _, _, _, _⟩) (v := (.pointer (some ⟨s.p, 2, none⟩))) rfl (by kernel_rfl) (by kernel_rfl) (by kernel_rfl) (fun _ _ _ h => h) (Or.inl ⟨by rfl, fun W hS => by (obtain ⟨s0, s1, s2⟩ := hS; go_simp)⟩) (HS.out _ HB0.out) ?_
  simp only [Act.put, List.setIfInBounds_toArray, List.set_cons_zero, List.set_cons_succ]
  refine wpAnyH_take (i := 5) (oi := ⟨some 16, _, _, _, _, _⟩) (v := (.slice s.la ls.length s.lc)) rfl (by kernel_rfl) (by kernel_rfl) (by kernel_rfl) (fun _ _ _ h => h) (Or.inl ⟨by rfl, fun W hS => by (obtain ⟨s0, s1, s2⟩ := hS; go_simp)⟩) (HS.out _ HB0.out) ?_
  simp only [Act.put, List.setIfInBounds_toArray, List.set_cons_zero, List.set_cons_succ]
  refine wpAnyH_take (i := 6) (oi := ⟨some 17, _, _, _, _, _⟩) (v := (.int .i64 ls.length)) rfl (by kernel_rfl) (by kernel_rfl) (by kernel_rfl) (fun _ _ _ h => h) (Or.inl ⟨by rfl, fun W hS => by (obtain ⟨s0, s1, s2⟩ := hS; go_simp)⟩) (HS.out _ HB0.out) ?_
  simp only [Act.put, List.setIfInBounds_toArray, List.set_cons_zero, List.set_cons_succ]
  refine wpAnyH_ready (rs := [1]) (by kernel_rfl) (by simp) ?_
  refine AllReadyH.cons rfl (fun K hK => ?_) AllReadyH.nil
  go_simp
  refine (HFI.out _ HB0.out).mono ?_
  rintro e w2 ⟨rfl, mq, rfl⟩
  have HB2 := hide (Below.drewNs HB0.out mq)
  refine hK.out _ _ (HS.out _ HB2.out) (fun _ => ?_)
  clear hK K
  refine wpAnyH_take (i := 7) (oi := ⟨some 18, _, _, _, _, _⟩) (v := (.int .i64 m)) rfl (by kernel_rfl) (by kernel_rfl) (by kernel_rfl) (fun _ _ _ h => h) (Or.inl ⟨by rfl, fun W hS => by (obtain ⟨s0, s1, s2⟩ := hS; go_simp; have := HMQ.out; exact wrap_id (by omega) (by omega) (by omega))⟩) (HS.out _ HB2.out) ?_
  simp only [Act.put, List.setIfInBounds_toArray, List.set_cons_zero, List.set_cons_succ]
  refine wpAnyH_ready (rs := [8]) (by kernel_rfl) (by simp) ?_
  refine AllReadyH.cons rfl (fun K hK => ?_) AllReadyH.nil
  go_simp
  have HB3 : Hid (Below w.heap.size w ((wd.drewN mq).alloc (.cells (intsC (List.replicate m 0)).toArray 3))) := hide (Below.step HB2.out (below_alloc _ _))
  have HN3 := hide (blk_new (wd.drewN mq) (.cells (intsC (List.replicate m 0)).toArray 3))
  refine hK.out _ _ (HS.out _ HB3.out) (fun _ => ?_)
  clear hK K
  generalize (wd.drewN mq).alloc (.cells (intsC (List.replicate m 0)).toArray 3) = w3 at *
  refine wpAnyH_take (i := 9) (oi := ⟨some 3, _, _, _, _, _⟩) (v := (.slice (some ⟨wd.heap.size, 0, none⟩) m m)) rfl (by kernel_rfl) (by kernel_rfl) (by kernel_rfl) (fun _ _ _ h => h) (Or.inl ⟨by rfl, fun W hS => by (obtain ⟨s0, s1, s2⟩ := hS; go_simp)⟩) (HS.out _ HB3.out) ?_
  simp only [Act.put, List.setIfInBounds_toArray, List.set_cons_zero, List.set_cons_succ]
  refine wpAnyH_take (i := 10) (oi := ⟨some 4, _, _, _, _, _⟩) (v := (.int .i64 0)) rfl (by kernel_rfl) (by kernel_rfl) (by kernel_rfl) (fun _ _ _ h => h) (Or.inl ⟨by rfl, fun W hS => by (obtain ⟨s0, s1, s2⟩ := hS; go_simp)⟩) (HS.out _ HB3.out) ?_
  simp only [Act.put, List.setIfInBounds_toArray, List.set_cons_zero, List.set_cons_succ]
  refine wpAnyH_done (by kernel_rfl) ?_ _
  clear hmk
  have HP0 : Hid (Dpg w wd.heap.size f ls 0 w3) := hide ⟨HB3.out, by rw [deepR_zero, HMQ.out]; exact HN3.out⟩
  have c2 := (HS.out _ HB3.out).2.2
  go_wp2_with fail
  clear c2
  generalize hD : wd.heap.size = D at *
  have HDG : Hid (w.heap.size ≤ D) := hide (by rw [← hD]; exact HB0.out.size)
  clear hD HB0 HB2 HB3 HN3
  go_loopw [4, 5, 6, 7, 25] (fun v _ _ _ i wr => ∃ k : Nat, k ≤ ls.length ∧ i = .int .i64 k ∧ v = .int .i64 (deepTo f ls k) ∧ Hid (Dpg w D f ls k wr)) (fun _ _ _ _ i _ => ls.length - (intOf i).toNat)
  case atStart => exact ⟨0, Nat.zero_le _, rfl, rfl, HP0⟩
  case round =>
    obtain ⟨k, hk, rfl, rfl, hp⟩ := hrel
    by_cases hlt : k < ls.length
    · have hki : (k : Int) < (ls.length : Int) := by omega
      have hnet := H.out.below hp.out.below
      obtain ⟨b, off, ha, _, hbl, n0, n1⟩ := hnet.luts.row.pair hlt
      have hins := hnet.luts.ins k hlt
      simp only [lutF, lutG] at n0 n1
      have HA := hide ha
      rw [HA.out]
      have hRL := rightL_iff.1 (HR.out k hlt)
      have HB1 : Hid (Below wr.heap.size wr (wr.alloc (.cells #[.slice (s.A k) (ltAt ls k).ins.length (s.C k), .int .i64 (ltAt ls k).table] 56))) := hide (below_alloc _ _)
      have hp1 := hide (Below.blk HB1.out hp.out.row)
      have HBH := hide (behind_at (s.A k) (ltAt ls k).ins (s.C k) (ltAt ls k).table D f m ls k _ (hins.below HB1.out) hp1.out HMQ.out.symm (by omega) (by omega) (by have := hRL.n4; omega) hRL.ins)
      have x0 : (wr.alloc (.cells #[.slice (s.A k) (ltAt ls k).ins.length (s.C k), .int .i64 (ltAt ls k).table] 56)).cell? ⟨wr.heap.size, 0, none⟩ = some (.slice (s.A k) (ltAt ls k).ins.length (s.C k)) := by rw [blk_cell (blk_new _ _)]; rfl
      have x1 : (wr.alloc (.cells #[.slice (s.A k) (ltAt ls k).ins.length (s.C k), .int .i64 (ltAt ls k).table] 56)).cell? ⟨wr.heap.size, 1, none⟩ = some (.int .i64 (ltAt ls k).table) := by rw [blk_cell (blk_new _ _)]; rfl
      have hb1 := behd_le f ls k (ltAt ls k).ins
      have hb2 := deepTo_le f ls k
      have HST := hide (deepR_set f ls k)
      have HSD : Hid ((deepTo f ls (k + 1) : Int) = max (deepTo f ls k : Int) (1 + behd f (dpsTo f ls k) (ltAt ls k).ins : Nat)) := hide (by simp only [deepTo]; omega)
      generalize behd f (dpsTo f ls k) (ltAt ls k).ins = bq at *
      generalize deepTo f ls k = dq at *
      clear ha hbl hnet hins hRL
      go_wp2_with fail
      refine HBH.out.mono ?_
      rintro e w4 ⟨rfl, hb4⟩
      have HB4 := hide (Below.step (Below.step hp.out.below HB1.out) hb4)
      have HP4 := hide (Below.blk hb4 hp1.out)
      have c43 : w4.cell? ⟨D, f + k, none⟩ = some (.int .i64 (outAt (deepR f ls k) (f + k))) := ints_cellT HP4.out (by rw [deepR_len]; omega)
      have z43 : w4.frozen? ⟨D, f + k, none⟩ = false := blk_frozen HP4.out _
      have HF4 := hide (HFI.out w4 HB4.out)
      clear HBH hb4 x0 x1 n0 n1 hp1 HB1 hp
      go_wp2_with fail
      refine HF4.out.mono ?_
      rintro e w5 ⟨rfl, mq, rfl⟩
      have hfm : (f : Int) + (k : Int) < (m : Int) := by have := HMQ.out; omega
      have HP5 := hide (Below.blk (Below.drewNs (Below.refl w4.heap.size w4) mq) HP4.out)
      have HB5 := hide (Below.drewNs HB4.out mq)
      clear HB4 HP4 HF4
      go_wp2_with fail
      refine ⟨⟨k + 1, by omega, by go_num, ?_, hide ⟨HB5.out.setCell HDG.out _, ?_⟩⟩, by simp [intOf]; omega⟩
      · rw [HSD.out]; go_num
      · rw [blk_set HP5.out, ints_setT, ← HST.out]; rfl
    · have HK : Hid (k = ls.length) := hide (by omega)
      go_wp2_with fail
      go_ret
      exact ⟨ret_int (by rw [HK.out]; rfl), hp.out.below⟩
end Go.Proofs.YtjomaepncibjpaaDoor
