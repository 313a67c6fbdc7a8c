/-
  CONTRACT of readers.
-/
import Derived.Test.YtlnmemeejgnbeaaClR
set_option linter.unusedSimpArgs false
set_option linter.unusedVariables false
namespace Go.Proofs.Ytlnmemeejgnbeaa
open Go.RowKit

theorem rw_cell {w : World} {RB : Nat} {rs : List Rw} {t : TypeId} {z : Nat × Nat} (h : w.heap[RB]? = some (.cells (rwC rs).toArray t z)) {j : Nat} {r : Rw} (hj : rs[j]? = some r) : w.cell? ⟨RB, j, none⟩ = some (.slice r.na r.l.length r.nc) := by
  rw [blk_cell h]; simp [rwC, hj]
theorem info_sl : ∃ i : TypeInfo, Try.prog.info? 23 = some i ∧ i.zero = some (.slice none 0 0) ∧ i.size = 1 ∧ i.bytes = 24 := info_of (by kernel_rfl)
theorem made_rows (n : Nat) : madeCells #[Value.slice none 0 0] n = (rwC (List.replicate n ⟨none, 0, []⟩)).toArray := by
  apply Array.ext_getElem?
  intro j
  by_cases hj : j < n
  · simp [madeCells, hj, Nat.mod_one, rwC]
  · simp [madeCells, hj, rwC]
theorem mk_rows (n : Nat) (hn : n ≤ 20000) (w : World) : (Instr.makeSlice 69 (.int .i64 n) (.int .i64 n)).run Try.prog w = .ok (.slice (some ⟨w.heap.size, 0, none⟩) n n) (w.alloc (.cells (rwC (List.replicate n ⟨none, 0, []⟩)).toArray 23)) := by
  obtain ⟨i, hi, hz, hs, hby⟩ := info_sl
  have h := run_make (P := Try.prog) w 69 23 i _ (by kernel_rfl) hi hz .i64 .i64 n n (by omega) (Int.le_refl _) (by rw [hby]; omega) (by omega)
  rw [Int.toNat_natCast, hs, Nat.mul_one] at h
  rw [show (Value.slice none 0 0).cells = #[Value.slice none 0 0] from rfl, made_rows] at h
  exact h
/-- so far -/
structure Rdg (w : World) (ns : List Nd) (k : Nat) (wr : World) (rs : List Rw) : Prop where
  below : Below w.heap.size w wr
  rows : RdsAt w.heap.size wr w.heap.size rs
  is : rs.map (·.l) = rdTo ns k
  short : ∀ (j : Nat) (r : Rw), rs[j]? = some r → r.l.length ≤ 2 * k
theorem rdAdd_len (rd : List (List Int)) (j : Int) (i : Nat) : (rdAdd rd j i).length = rd.length := by simp [rdAdd]
theorem rdStep_len (rd : List (List Int)) (x : Nd) (i : Nat) : (rdStep rd x i).length = rd.length := by
  unfold rdStep
  repeat' split
  all_goals simp [rdAdd_len]
theorem rdTo_len (ns : List Nd) : ∀ k, (rdTo ns k).length = ns.length
  | 0 => by simp [rdTo]
  | k + 1 => by rw [rdTo, rdStep_len, rdTo_len ns k]
theorem Rdg.len {w : World} {ns : List Nd} {k : Nat} {wr : World} {rs : List Rw} (h : Rdg w ns k wr rs) : rs.length = ns.length := by
  have := congrArg List.length h.is
  rwa [List.length_map, rdTo_len] at this
theorem add_is {rs : List Rw} {rd : List (List Int)} (h : rs.map (·.l) = rd) {j : Nat} {r : Rw} (hj : rs[j]? = some r) (i : Nat) (na : Option Addr) (nc : Nat) : (rs.set j ⟨na, nc, r.l ++ [(i : Int)]⟩).map (·.l) = rdAdd rd (j : Int) i := by
  subst h
  have : rdAt (rs.map (·.l)) j = r.l := by simp [rdAt, hj]
  simp [rdAdd, this, List.map_set]
theorem set_short {rs : List Rw} {m : Nat} (h : ∀ (j : Nat) (r : Rw), rs[j]? = some r → r.l.length ≤ m) {j : Nat} {r : Rw} (hj : rs[j]? = some r) (i : Nat) (na : Option Addr) (nc : Nat) : ∀ (a : Nat) (s : Rw), (rs.set j ⟨na, nc, r.l ++ [(i : Int)]⟩)[a]? = some s → s.l.length ≤ m + 1 := by
  intro a s hs
  rw [List.getElem?_set] at hs
  split at hs
  · split at hs
    · cases hs
      have := h j r hj
      simp; omega
    · cases hs
  · have := h a s hs; omega
theorem at_some {rs : List Rw} {j n : Nat} (hl : rs.length = n) (hj : j < n) : ∃ r, rs[j]? = some r := ⟨rs[j]'(by omega), List.getElem?_eq_getElem _⟩

set_option maxRecDepth 100000 in
set_option maxHeartbeats 12800000 in
theorem readers_at {S : Nat → Prop} {given : Int} {ns : List Nd} {os : List Int} {na : Option Addr} {nc : Nat} (w : World) (hl : Lies S w na (ndsC ns)) (hr : RightP given ns os) :
    Calls Try.prog 33 #[.slice na ns.length nc] w fun e w' => (∃ RB rs, e = .returned (.slice (some ⟨RB, 0, none⟩) ns.length ns.length) ∧ w.heap.size ≤ RB ∧ RdsAt w.heap.size w' RB rs ∧ rs.map (·.l) = rdP ns) ∧ Below w.heap.size w w' := by
  have hn : (ns.length : Int) ≤ 20000 := by have := hr.n1; omega
  have hmk := mk_rows ns.length hr.n1
  have HL := hide hl
  have HR := hide hr
  have HC0 : Hid (Rdg w ns 0 (w.alloc (.cells (rwC (List.replicate ns.length ⟨none, 0, []⟩)).toArray 23)) (List.replicate ns.length ⟨none, 0, []⟩)) := hide (by
    refine ⟨below_alloc _ _, ⟨blk_new _ _, ?_, ?_⟩, by simp [rdTo], ?_⟩
    · intro j r hj
      rw [List.getElem?_replicate] at hj
      split at hj
      · cases hj; exact Mine.none _
      · cases hj
    · intro a b r s ha hb hne g hg
      rw [List.getElem?_replicate] at ha
      split at ha
      · cases ha; cases hg
      · cases ha
    · intro j r hj
      rw [List.getElem?_replicate] at hj
      split at hj
      · cases hj; simp
      · cases hj)
  clear hl hr
  go_enter Try.func33, Try.ntmps33
  go_wp2_with fail
  clear hmk
  go_loopw [4, 5, 11] (fun _ _ i wr => ∃ k rs, k ≤ ns.length ∧ i = .int .i64 (k : Nat) ∧ Hid (Rdg w ns k wr rs)) (fun _ _ i _ => ns.length - (intOf i).toNat)
  case atStart => exact ⟨0, _, Nat.zero_le _, rfl, HC0⟩
  case round =>
    obtain ⟨k, rs, hk, rfl, hc⟩ := hrel
    by_cases hlt : k < ns.length
    · have hki : (k : Int) < (ns.length : Int) := by omega
      obtain ⟨b, off, ha, _, hbl, n0, n1, n2, n3⟩ := (HL.out.below hc.out.below).nodes hlt
      have HA := hide ha
      rw [HA.out]
      have HRN := hide (HR.out.nodes k hlt)
      have hwl : w.heap.size < wr.heap.size := blk_lt hc.out.rows.outer
      have HLEN := hide hc.out.len
      clear ha
      generalize hnd : ndAt ns k = x at n0 n1 n2 n3 HRN
      have HND := hide hnd
      clear hnd
      obtain ⟨op, a, bb, nx⟩ := x
      simp only at n0 n1 n2 n3
      have HB1 : Hid (Below wr.heap.size wr (wr.alloc (.cells #[.int .i64 op, .int .i64 a, .int .i64 bb, .int .i64 nx] 26))) := hide (below_alloc _ _)
      have HX1 := hide (blk_new wr (.cells #[.int .i64 op, .int .i64 a, .int .i64 bb, .int .i64 nx] 26))
      have hop : op = 1 ∨ op = 2 ∨ op = 3 ∨ op = 4 ∨ op = 5 ∨ op = 6 ∨ op = 7 ∨ op = 8 := by
        have h := HRN.out
        simp only [rightN] at h
        by_cases h1 : op = 1; · omega
        by_cases h2 : op = 2; · omega
        by_cases h3 : op = 3; · omega
        by_cases h4 : op = 4; · omega
        by_cases h5 : op = 5; · omega
        by_cases h6 : op = 6; · omega
        by_cases h7 : op = 7; · omega
        by_cases h8 : op = 8; · omega
        simp [h1, h2, h3, h4, h5, h6, h7, h8] at h
      rcases hop with rfl | rfl | rfl | rfl | rfl | rfl | rfl | rfl
      · go_wp2_with fail
        refine ⟨⟨k + 1, rs, by omega, by go_num, hide ⟨Below.step hc.out.below HB1.out, hc.out.rows.below HB1.out, ?_, fun j r hj => by have := hc.out.short j r hj; omega⟩⟩, by simp [intOf]; omega⟩
        rw [hc.out.is]
        show _ = rdStep (rdTo ns k) (ndAt ns k) k
        rw [HND.out]; rfl
      · go_wp2_with fail
        refine ⟨⟨k + 1, rs, by omega, by go_num, hide ⟨Below.step hc.out.below HB1.out, hc.out.rows.below HB1.out, ?_, fun j r hj => by have := hc.out.short j r hj; omega⟩⟩, by simp [intOf]; omega⟩
        rw [hc.out.is]
        show _ = rdStep (rdTo ns k) (ndAt ns k) k
        rw [HND.out]; rfl
      · go_wp2_with fail
        refine ⟨⟨k + 1, rs, by omega, by go_num, hide ⟨Below.step hc.out.below HB1.out, hc.out.rows.below HB1.out, ?_, fun j r hj => by have := hc.out.short j r hj; omega⟩⟩, by simp [intOf]; omega⟩
        rw [hc.out.is]
        show _ = rdStep (rdTo ns k) (ndAt ns k) k
        rw [HND.out]; rfl
      · obtain ⟨j, rfl⟩ := Int.eq_ofNat_of_zero_le (show 0 ≤ nx from (inR_iff.1 (by have h := HRN.out; simp only [rightN] at h; exact (Bool.and_eq_true_iff.1 (show (inR a 2 && inR nx ns.length) = true from h)).2)).1)
        have hjl : j < ns.length := by have h := HRN.out; simp only [rightN] at h; have := (inR_iff.1 (Bool.and_eq_true_iff.1 (show (inR a 2 && inR (j : Int) ns.length) = true from h)).2).2; omega
        have hji : (j : Int) < (ns.length : Int) := by omega
        go_wp2_with fail
        have HXA : Hid ((wr.alloc (.cells #[.int .i64 4, .int .i64 a, .int .i64 bb, .int .i64 j] 26)).drew.heap[wr.heap.size]? = some (.cells #[.int .i64 4, .int .i64 a, .int .i64 bb, .int .i64 j] 26 (0, 0))) := hide HX1.out
        have HRA := hide (hc.out.rows.below HB1.out.drew)
        have HBA := hide (hc.out.below.trans (HB1.out.drew.mono hc.out.below.size))
        have HLENA := hide HLEN.out
        have HSHA := hide hc.out.short
        have HISA := hide hc.out.is
        have HS0 : Hid ((fun W : World => W.cell? ⟨wr.heap.size, 3, none⟩ = some (.int .i64 j)) (wr.alloc (.cells #[.int .i64 4, .int .i64 a, .int .i64 bb, .int .i64 j] 26)).drew) := hide (by (show World.cell? _ _ = _; rw [blk_cell HXA.out]; rfl))
        clear n0 n1 n2 n3 HX1 HB1
        refine wp_region_held_drew (S := (fun W : World => W.cell? ⟨wr.heap.size, 3, none⟩ = some (.int .i64 j))) (by kernel_rfl) HS0.out (fun _ => ?_)
        generalize (wr.alloc (.cells #[.int .i64 4, .int .i64 a, .int .i64 bb, .int .i64 j] 26)).drew = wa at *
        obtain ⟨rA, hrA⟩ := at_some (j := j) HLENA.out (by omega)
        have hshA := HSHA.out j rA hrA
        have HSA : Hid (∀ W : World, W.heap[wr.heap.size]? = some (.cells #[.int .i64 4, .int .i64 a, .int .i64 bb, .int .i64 j] 26 (0, 0)) → (fun W : World => W.cell? ⟨wr.heap.size, 3, none⟩ = some (.int .i64 j)) W) := hide fun W h0 => by (show W.cell? _ = _; rw [blk_cell h0]; rfl)
        obtain ⟨naA, ncA, w2A, happ, hRB, hrd, hbel, htyp⟩ := HRA.out.push hrA (by omega) (by have := HBA.out.size; omega) k
        have HRnA := hide hrd
        have HBnA := hide (hbel w.heap.size (Nat.le_refl _) (Nat.le_refl _))
        have HX2A := hide (htyp _ _ _ _ HXA.out (by decide))
        have HX3A : Hid ((w2A.setCell ⟨w.heap.size, j, none⟩ (.slice naA (rA.l.length + 1) ncA)).heap[wr.heap.size]? = some (.cells #[.int .i64 4, .int .i64 a, .int .i64 bb, .int .i64 j] 26 (0, 0))) := hide ((Below.heap_setCell w2A ⟨w.heap.size, j, none⟩ _ _ (by show wr.heap.size ≠ w.heap.size; omega)).trans HX2A.out)
        have HXaA : Hid ((wa.alloc (.cells #[.int .i64 k] 3)).heap[wr.heap.size]? = some (.cells #[.int .i64 4, .int .i64 a, .int .i64 bb, .int .i64 j] 26 (0, 0))) := hide (Below.blk (below_alloc _ _) HXA.out)
        have c0 := rw_cell HRA.out.outer hrA
        have c0a := cell_alloc c0 (.cells #[.int .i64 k] 3)
        have c2 := rw_cell hRB hrA
        have fz := blk_frozen hRB j
        have HS1 := hide (HSA.out _ HXA.out)
        have HSa := hide (HSA.out _ HXaA.out)
        have HSb := hide (HSA.out _ HX2A.out)
        have HSc := hide (HSA.out _ HX3A.out)
        clear hrd hbel htyp hRB
        refine wpAnyH_take (i := 0) (oi := ⟨some 20, _, _, _, _, _⟩) (v := .slice (some ⟨w.heap.size, 0, none⟩) ns.length ns.length) rfl (by kernel_rfl) (by kernel_rfl) (by kernel_rfl) (fun _ _ _ h => h) (Or.inl ⟨by rfl, fun W hS => by (have s0 := hS; go_simp)⟩) HS1.out ?_
        simp only [Act.put, List.setIfInBounds_toArray, List.set_cons_zero, List.set_cons_succ]
        refine wpAnyH_take (i := 1) (oi := ⟨some 21, _, _, _, _, _⟩) (v := .pointer (some ⟨wr.heap.size, 3, none⟩)) rfl (by kernel_rfl) (by kernel_rfl) (by kernel_rfl) (fun _ _ _ h => h) (Or.inl ⟨by rfl, fun W hS => by (have s0 := hS; go_simp)⟩) HS1.out ?_
        simp only [Act.put, List.setIfInBounds_toArray, List.set_cons_zero, List.set_cons_succ]
        refine wpAnyH_take (i := 2) (oi := ⟨some 22, _, _, _, _, _⟩) (v := .int .i64 j) rfl (by kernel_rfl) (by kernel_rfl) (by kernel_rfl) (fun _ _ _ h => h) (Or.inl ⟨by rfl, fun W hS => by (have s0 := hS; go_simp)⟩) HS1.out ?_
        simp only [Act.put, List.setIfInBounds_toArray, List.set_cons_zero, List.set_cons_succ]
        refine wpAnyH_take (i := 3) (oi := ⟨some 23, _, _, _, _, _⟩) (v := .slice (some ⟨w.heap.size, 0, none⟩) ns.length ns.length) rfl (by kernel_rfl) (by kernel_rfl) (by kernel_rfl) (fun _ _ _ h => h) (Or.inl ⟨by rfl, fun W hS => by (have s0 := hS; go_simp)⟩) HS1.out ?_
        simp only [Act.put, List.setIfInBounds_toArray, List.set_cons_zero, List.set_cons_succ]
        refine wpAnyH_take (i := 4) (oi := ⟨some 24, _, _, _, _, _⟩) (v := .pointer (some ⟨wr.heap.size, 3, none⟩)) rfl (by kernel_rfl) (by kernel_rfl) (by kernel_rfl) (fun _ _ _ h => h) (Or.inl ⟨by rfl, fun W hS => by (have s0 := hS; go_simp)⟩) HS1.out ?_
        simp only [Act.put, List.setIfInBounds_toArray, List.set_cons_zero, List.set_cons_succ]
        refine wpAnyH_take (i := 5) (oi := ⟨some 25, _, _, _, _, _⟩) (v := .int .i64 j) rfl (by kernel_rfl) (by kernel_rfl) (by kernel_rfl) (fun _ _ _ h => h) (Or.inl ⟨by rfl, fun W hS => by (have s0 := hS; go_simp)⟩) HS1.out ?_
        simp only [Act.put, List.setIfInBounds_toArray, List.set_cons_zero, List.set_cons_succ]
        refine wpAnyH_take (i := 6) (oi := ⟨some 26, _, _, _, _, _⟩) (v := .pointer (some ⟨w.heap.size, j, none⟩)) rfl (by kernel_rfl) (by kernel_rfl) (by kernel_rfl) (fun _ _ _ h => h) (Or.inl ⟨by rfl, fun W hS => by (have s0 := hS; go_simp)⟩) HS1.out ?_
        simp only [Act.put, List.setIfInBounds_toArray, List.set_cons_zero, List.set_cons_succ]
        refine wpAnyH_take (i := 8) (oi := ⟨some 28, _, _, _, _, _⟩) (v := .int .i64 k) rfl (by kernel_rfl) (by kernel_rfl) (by kernel_rfl) (fun _ _ _ h => h) (Or.inl ⟨by rfl, fun W hS => by (have s0 := hS; go_simp)⟩) HS1.out ?_
        simp only [Act.put, List.setIfInBounds_toArray, List.set_cons_zero, List.set_cons_succ]
        refine wpAnyH_ready (rs := [7, 9]) (by kernel_rfl) (by simp) ?_
        refine AllReadyH.cons rfl (fun K hK => ?_) (AllReadyH.cons rfl (fun K hK => ?_) AllReadyH.nil)
        · go_simp
          refine hK.out _ _ HS1.out (fun _ => ?_)
          clear hK K
          refine wpAnyH_ready (rs := [9]) (by kernel_rfl) (by simp) ?_
          refine AllReadyH.cons rfl (fun K hK => ?_) AllReadyH.nil
          go_simp
          refine hK.out _ _ HSa.out (fun _ => ?_)
          clear hK K
          refine wpAnyH_ready (rs := [10]) (by kernel_rfl) (by simp) ?_
          refine AllReadyH.cons rfl (fun K hK => ?_) AllReadyH.nil
          refine (if_pos (by kernel_rfl)).mpr ?_
          refine wp_append_run happ _ _ rfl rfl rfl ?_
          simp only [Act.put, List.setIfInBounds_toArray, List.set_cons_zero, List.set_cons_succ, List.getElem_toArray, List.getElem_cons_succ, List.getElem_cons_zero]
          refine hK.out _ _ HSb.out (fun _ => ?_)
          clear hK K happ
          refine wpAnyH_take (i := 11) (oi := ⟨some 31, _, _, _, _, _⟩) (v := .pointer (some ⟨w.heap.size, j, none⟩)) rfl (by kernel_rfl) (by kernel_rfl) (by kernel_rfl) (fun _ _ _ h => h) (Or.inl ⟨by rfl, fun W hS => by (have s0 := hS; go_simp)⟩) HSb.out ?_
          simp only [Act.put, List.setIfInBounds_toArray, List.set_cons_zero, List.set_cons_succ]
          refine wpAnyH_ready (rs := [12]) (by kernel_rfl) (by simp) ?_
          refine AllReadyH.cons rfl (fun K hK => ?_) AllReadyH.nil
          go_simp
          refine hK.out _ _ HSc.out (fun _ => ?_)
          clear hK K
          refine wpAnyH_done (by kernel_rfl) ?_ _
          clear c0 c0a c2 fz HS1 HSa HSb HSc
          go_wp2_with fail
          refine ⟨⟨k + 1, _, by omega, by go_num, hide ⟨HBA.out.trans HBnA.out, HRnA.out, ?_, fun j r hj => by have := set_short HSHA.out hrA k naA ncA j r hj; omega⟩⟩, by simp [intOf]; omega⟩
          rw [add_is HISA.out hrA]
          show _ = rdStep (rdTo ns k) (ndAt ns k) k
          rw [HND.out]; rfl
        · go_simp
          refine hK.out _ _ HSa.out (fun _ => ?_)
          clear hK K
          refine wpAnyH_ready (rs := [7]) (by kernel_rfl) (by simp) ?_
          refine AllReadyH.cons rfl (fun K hK => ?_) AllReadyH.nil
          go_simp
          refine hK.out _ _ HSa.out (fun _ => ?_)
          clear hK K
          refine wpAnyH_ready (rs := [10]) (by kernel_rfl) (by simp) ?_
          refine AllReadyH.cons rfl (fun K hK => ?_) AllReadyH.nil
          refine (if_pos (by kernel_rfl)).mpr ?_
          refine wp_append_run happ _ _ rfl rfl rfl ?_
          simp only [Act.put, List.setIfInBounds_toArray, List.set_cons_zero, List.set_cons_succ, List.getElem_toArray, List.getElem_cons_succ, List.getElem_cons_zero]
          refine hK.out _ _ HSb.out (fun _ => ?_)
          clear hK K happ
          refine wpAnyH_take (i := 11) (oi := ⟨some 31, _, _, _, _, _⟩) (v := .pointer (some ⟨w.heap.size, j, none⟩)) rfl (by kernel_rfl) (by kernel_rfl) (by kernel_rfl) (fun _ _ _ h => h) (Or.inl ⟨by rfl, fun W hS => by (have s0 := hS; go_simp)⟩) HSb.out ?_
          simp only [Act.put, List.setIfInBounds_toArray, List.set_cons_zero, List.set_cons_succ]
          refine wpAnyH_ready (rs := [12]) (by kernel_rfl) (by simp) ?_
          refine AllReadyH.cons rfl (fun K hK => ?_) AllReadyH.nil
          go_simp
          refine hK.out _ _ HSc.out (fun _ => ?_)
          clear hK K
          refine wpAnyH_done (by kernel_rfl) ?_ _
          clear c0 c0a c2 fz HS1 HSa HSb HSc
          go_wp2_with fail
          refine ⟨⟨k + 1, _, by omega, by go_num, hide ⟨HBA.out.trans HBnA.out, HRnA.out, ?_, fun j r hj => by have := set_short HSHA.out hrA k naA ncA j r hj; omega⟩⟩, by simp [intOf]; omega⟩
          rw [add_is HISA.out hrA]
          show _ = rdStep (rdTo ns k) (ndAt ns k) k
          rw [HND.out]; rfl
      · obtain ⟨h1, h2⟩ := Bool.and_eq_true_iff.1 (show (inR a k && inR bb k) = true from HRN.out)
        obtain ⟨j, rfl⟩ := Int.eq_ofNat_of_zero_le (inR_iff.1 h1).1
        obtain ⟨i, rfl⟩ := Int.eq_ofNat_of_zero_le (inR_iff.1 h2).1
        have hjl : j < ns.length := by have := (inR_iff.1 h1).2; omega
        have hil : i < ns.length := by have := (inR_iff.1 h2).2; omega
        clear h1 h2
        have hii : (i : Int) < (ns.length : Int) := by omega
        have hji : (j : Int) < (ns.length : Int) := by omega
        go_wp2_with fail
        have HXA : Hid ((wr.alloc (.cells #[.int .i64 5, .int .i64 j, .int .i64 i, .int .i64 nx] 26)).drew.heap[wr.heap.size]? = some (.cells #[.int .i64 5, .int .i64 j, .int .i64 i, .int .i64 nx] 26 (0, 0))) := hide HX1.out
        have HRA := hide (hc.out.rows.below HB1.out.drew)
        have HBA := hide (hc.out.below.trans (HB1.out.drew.mono hc.out.below.size))
        have HLENA := hide HLEN.out
        have HSHA := hide hc.out.short
        have HISA := hide hc.out.is
        have HS0 : Hid ((fun W : World => W.cell? ⟨wr.heap.size, 1, none⟩ = some (.int .i64 j)) (wr.alloc (.cells #[.int .i64 5, .int .i64 j, .int .i64 i, .int .i64 nx] 26)).drew) := hide (by (show World.cell? _ _ = _; rw [blk_cell HXA.out]; rfl))
        clear n0 n1 n2 n3 HX1 HB1
        refine wp_region_held_drew (S := (fun W : World => W.cell? ⟨wr.heap.size, 1, none⟩ = some (.int .i64 j))) (by kernel_rfl) HS0.out (fun _ => ?_)
        generalize (wr.alloc (.cells #[.int .i64 5, .int .i64 j, .int .i64 i, .int .i64 nx] 26)).drew = wa at *
        obtain ⟨rA, hrA⟩ := at_some (j := j) HLENA.out (by omega)
        have hshA := HSHA.out j rA hrA
        have HSA : Hid (∀ W : World, W.heap[wr.heap.size]? = some (.cells #[.int .i64 5, .int .i64 j, .int .i64 i, .int .i64 nx] 26 (0, 0)) → (fun W : World => W.cell? ⟨wr.heap.size, 1, none⟩ = some (.int .i64 j)) W) := hide fun W h0 => by (show W.cell? _ = _; rw [blk_cell h0]; rfl)
        obtain ⟨naA, ncA, w2A, happ, hRB, hrd, hbel, htyp⟩ := HRA.out.push hrA (by omega) (by have := HBA.out.size; omega) k
        have HRnA := hide hrd
        have HBnA := hide (hbel w.heap.size (Nat.le_refl _) (Nat.le_refl _))
        have HX2A := hide (htyp _ _ _ _ HXA.out (by decide))
        have HX3A : Hid ((w2A.setCell ⟨w.heap.size, j, none⟩ (.slice naA (rA.l.length + 1) ncA)).heap[wr.heap.size]? = some (.cells #[.int .i64 5, .int .i64 j, .int .i64 i, .int .i64 nx] 26 (0, 0))) := hide ((Below.heap_setCell w2A ⟨w.heap.size, j, none⟩ _ _ (by show wr.heap.size ≠ w.heap.size; omega)).trans HX2A.out)
        have HXaA : Hid ((wa.alloc (.cells #[.int .i64 k] 3)).heap[wr.heap.size]? = some (.cells #[.int .i64 5, .int .i64 j, .int .i64 i, .int .i64 nx] 26 (0, 0))) := hide (Below.blk (below_alloc _ _) HXA.out)
        have c0 := rw_cell HRA.out.outer hrA
        have c0a := cell_alloc c0 (.cells #[.int .i64 k] 3)
        have c2 := rw_cell hRB hrA
        have fz := blk_frozen hRB j
        have HS1 := hide (HSA.out _ HXA.out)
        have HSa := hide (HSA.out _ HXaA.out)
        have HSb := hide (HSA.out _ HX2A.out)
        have HSc := hide (HSA.out _ HX3A.out)
        clear hrd hbel htyp hRB
        refine wpAnyH_take (i := 0) (oi := ⟨some 50, _, _, _, _, _⟩) (v := .slice (some ⟨w.heap.size, 0, none⟩) ns.length ns.length) rfl (by kernel_rfl) (by kernel_rfl) (by kernel_rfl) (fun _ _ _ h => h) (Or.inl ⟨by rfl, fun W hS => by (have s0 := hS; go_simp)⟩) HS1.out ?_
        simp only [Act.put, List.setIfInBounds_toArray, List.set_cons_zero, List.set_cons_succ]
        refine wpAnyH_take (i := 1) (oi := ⟨some 51, _, _, _, _, _⟩) (v := .pointer (some ⟨wr.heap.size, 1, none⟩)) rfl (by kernel_rfl) (by kernel_rfl) (by kernel_rfl) (fun _ _ _ h => h) (Or.inl ⟨by rfl, fun W hS => by (have s0 := hS; go_simp)⟩) HS1.out ?_
        simp only [Act.put, List.setIfInBounds_toArray, List.set_cons_zero, List.set_cons_succ]
        refine wpAnyH_take (i := 2) (oi := ⟨some 52, _, _, _, _, _⟩) (v := .int .i64 j) rfl (by kernel_rfl) (by kernel_rfl) (by kernel_rfl) (fun _ _ _ h => h) (Or.inl ⟨by rfl, fun W hS => by (have s0 := hS; go_simp)⟩) HS1.out ?_
        simp only [Act.put, List.setIfInBounds_toArray, List.set_cons_zero, List.set_cons_succ]
        refine wpAnyH_take (i := 3) (oi := ⟨some 53, _, _, _, _, _⟩) (v := .slice (some ⟨w.heap.size, 0, none⟩) ns.length ns.length) rfl (by kernel_rfl) (by kernel_rfl) (by kernel_rfl) (fun _ _ _ h => h) (Or.inl ⟨by rfl, fun W hS => by (have s0 := hS; go_simp)⟩) HS1.out ?_
        simp only [Act.put, List.setIfInBounds_toArray, List.set_cons_zero, List.set_cons_succ]
        refine wpAnyH_take (i := 4) (oi := ⟨some 54, _, _, _, _, _⟩) (v := .pointer (some ⟨wr.heap.size, 1, none⟩)) rfl (by kernel_rfl) (by kernel_rfl) (by kernel_rfl) (fun _ _ _ h => h) (Or.inl ⟨by rfl, fun W hS => by (have s0 := hS; go_simp)⟩) HS1.out ?_
        simp only [Act.put, List.setIfInBounds_toArray, List.set_cons_zero, List.set_cons_succ]
        refine wpAnyH_take (i := 5) (oi := ⟨some 55, _, _, _, _, _⟩) (v := .int .i64 j) rfl (by kernel_rfl) (by kernel_rfl) (by kernel_rfl) (fun _ _ _ h => h) (Or.inl ⟨by rfl, fun W hS => by (have s0 := hS; go_simp)⟩) HS1.out ?_
        simp only [Act.put, List.setIfInBounds_toArray, List.set_cons_zero, List.set_cons_succ]
        refine wpAnyH_take (i := 6) (oi := ⟨some 56, _, _, _, _, _⟩) (v := .pointer (some ⟨w.heap.size, j, none⟩)) rfl (by kernel_rfl) (by kernel_rfl) (by kernel_rfl) (fun _ _ _ h => h) (Or.inl ⟨by rfl, fun W hS => by (have s0 := hS; go_simp)⟩) HS1.out ?_
        simp only [Act.put, List.setIfInBounds_toArray, List.set_cons_zero, List.set_cons_succ]
        refine wpAnyH_take (i := 8) (oi := ⟨some 58, _, _, _, _, _⟩) (v := .int .i64 k) rfl (by kernel_rfl) (by kernel_rfl) (by kernel_rfl) (fun _ _ _ h => h) (Or.inl ⟨by rfl, fun W hS => by (have s0 := hS; go_simp)⟩) HS1.out ?_
        simp only [Act.put, List.setIfInBounds_toArray, List.set_cons_zero, List.set_cons_succ]
        refine wpAnyH_ready (rs := [7, 9]) (by kernel_rfl) (by simp) ?_
        refine AllReadyH.cons rfl (fun K hK => ?_) (AllReadyH.cons rfl (fun K hK => ?_) AllReadyH.nil)
        · go_simp
          refine hK.out _ _ HS1.out (fun _ => ?_)
          clear hK K
          refine wpAnyH_ready (rs := [9]) (by kernel_rfl) (by simp) ?_
          refine AllReadyH.cons rfl (fun K hK => ?_) AllReadyH.nil
          go_simp
          refine hK.out _ _ HSa.out (fun _ => ?_)
          clear hK K
          refine wpAnyH_ready (rs := [10]) (by kernel_rfl) (by simp) ?_
          refine AllReadyH.cons rfl (fun K hK => ?_) AllReadyH.nil
          refine (if_pos (by kernel_rfl)).mpr ?_
          refine wp_append_run happ _ _ rfl rfl rfl ?_
          simp only [Act.put, List.setIfInBounds_toArray, List.set_cons_zero, List.set_cons_succ, List.getElem_toArray, List.getElem_cons_succ, List.getElem_cons_zero]
          refine hK.out _ _ HSb.out (fun _ => ?_)
          clear hK K happ
          refine wpAnyH_take (i := 11) (oi := ⟨some 61, _, _, _, _, _⟩) (v := .pointer (some ⟨w.heap.size, j, none⟩)) rfl (by kernel_rfl) (by kernel_rfl) (by kernel_rfl) (fun _ _ _ h => h) (Or.inl ⟨by rfl, fun W hS => by (have s0 := hS; go_simp)⟩) HSb.out ?_
          simp only [Act.put, List.setIfInBounds_toArray, List.set_cons_zero, List.set_cons_succ]
          refine wpAnyH_ready (rs := [12]) (by kernel_rfl) (by simp) ?_
          refine AllReadyH.cons rfl (fun K hK => ?_) AllReadyH.nil
          go_simp
          refine hK.out _ _ HSc.out (fun _ => ?_)
          clear hK K
          refine wpAnyH_done (by kernel_rfl) ?_ _
          clear c0 c0a c2 fz HS1 HSa HSb HSc HS0
          have HLENB : Hid ((rs.set j ⟨naA, ncA, rA.l ++ [(k : Int)]⟩).length = ns.length) := hide (by rw [List.length_set]; exact HLENA.out)
          have HSHB := hide (set_short HSHA.out hrA k naA ncA)
          have HISB := hide (add_is HISA.out hrA k naA ncA)
          go_wp2_with fail
          have HRB : Hid (RdsAt w.heap.size _ w.heap.size (rs.set j ⟨naA, ncA, rA.l ++ [(k : Int)]⟩)) := hide (HRnA.out.below (Below.refl _ _).drew)
          have HBB := hide ((HBA.out.trans HBnA.out).drew)
          have HXB : Hid ((w2A.setCell ⟨w.heap.size, j, none⟩ (.slice naA (rA.l.length + 1) ncA)).drew.heap[wr.heap.size]? = some (.cells #[.int .i64 5, .int .i64 j, .int .i64 i, .int .i64 nx] 26 (0, 0))) := hide HX3A.out
          have HS0 : Hid ((fun W : World => W.cell? ⟨wr.heap.size, 2, none⟩ = some (.int .i64 i)) (w2A.setCell ⟨w.heap.size, j, none⟩ (.slice naA (rA.l.length + 1) ncA)).drew) := hide (by (show World.cell? _ _ = _; rw [blk_cell HXB.out]; rfl))
          refine wp_region_held_drew (S := (fun W : World => W.cell? ⟨wr.heap.size, 2, none⟩ = some (.int .i64 i))) (by kernel_rfl) HS0.out (fun _ => ?_)
          clear HRnA HBnA HX2A HX3A HXaA
          generalize hRS : rs.set j ⟨naA, ncA, rA.l ++ [(k : Int)]⟩ = rsB at *
          generalize (w2A.setCell ⟨w.heap.size, j, none⟩ (.slice naA (rA.l.length + 1) ncA)).drew = wb at *
          clear HRA HBA HSHA HISA HXA HLENA hrA hshA HSA hRS
          obtain ⟨rB, hrB⟩ := at_some (j := i) HLENB.out (by omega)
          have hshB := HSHB.out i rB hrB
          have HSB : Hid (∀ W : World, W.heap[wr.heap.size]? = some (.cells #[.int .i64 5, .int .i64 j, .int .i64 i, .int .i64 nx] 26 (0, 0)) → (fun W : World => W.cell? ⟨wr.heap.size, 2, none⟩ = some (.int .i64 i)) W) := hide fun W h0 => by (show W.cell? _ = _; rw [blk_cell h0]; rfl)
          obtain ⟨naB, ncB, w2B, happ, hRB, hrd, hbel, htyp⟩ := HRB.out.push hrB (by omega) (by have := HBB.out.size; omega) k
          have HRnB := hide hrd
          have HBnB := hide (hbel w.heap.size (Nat.le_refl _) (Nat.le_refl _))
          have HX2B := hide (htyp _ _ _ _ HXB.out (by decide))
          have HX3B : Hid ((w2B.setCell ⟨w.heap.size, i, none⟩ (.slice naB (rB.l.length + 1) ncB)).heap[wr.heap.size]? = some (.cells #[.int .i64 5, .int .i64 j, .int .i64 i, .int .i64 nx] 26 (0, 0))) := hide ((Below.heap_setCell w2B ⟨w.heap.size, i, none⟩ _ _ (by show wr.heap.size ≠ w.heap.size; omega)).trans HX2B.out)
          have HXaB : Hid ((wb.alloc (.cells #[.int .i64 k] 3)).heap[wr.heap.size]? = some (.cells #[.int .i64 5, .int .i64 j, .int .i64 i, .int .i64 nx] 26 (0, 0))) := hide (Below.blk (below_alloc _ _) HXB.out)
          have c0 := rw_cell HRB.out.outer hrB
          have c0a := cell_alloc c0 (.cells #[.int .i64 k] 3)
          have c2 := rw_cell hRB hrB
          have fz := blk_frozen hRB i
          have HS1 := hide (HSB.out _ HXB.out)
          have HSa := hide (HSB.out _ HXaB.out)
          have HSb := hide (HSB.out _ HX2B.out)
          have HSc := hide (HSB.out _ HX3B.out)
          clear hrd hbel htyp hRB
          refine wpAnyH_take (i := 0) (oi := ⟨some 62, _, _, _, _, _⟩) (v := .slice (some ⟨w.heap.size, 0, none⟩) ns.length ns.length) rfl (by kernel_rfl) (by kernel_rfl) (by kernel_rfl) (fun _ _ _ h => h) (Or.inl ⟨by rfl, fun W hS => by (have s0 := hS; go_simp)⟩) HS1.out ?_
          simp only [Act.put, List.setIfInBounds_toArray, List.set_cons_zero, List.set_cons_succ]
          refine wpAnyH_take (i := 1) (oi := ⟨some 63, _, _, _, _, _⟩) (v := .pointer (some ⟨wr.heap.size, 2, none⟩)) rfl (by kernel_rfl) (by kernel_rfl) (by kernel_rfl) (fun _ _ _ h => h) (Or.inl ⟨by rfl, fun W hS => by (have s0 := hS; go_simp)⟩) HS1.out ?_
          simp only [Act.put, List.setIfInBounds_toArray, List.set_cons_zero, List.set_cons_succ]
          refine wpAnyH_take (i := 2) (oi := ⟨some 64, _, _, _, _, _⟩) (v := .int .i64 i) rfl (by kernel_rfl) (by kernel_rfl) (by kernel_rfl) (fun _ _ _ h => h) (Or.inl ⟨by rfl, fun W hS => by (have s0 := hS; go_simp)⟩) HS1.out ?_
          simp only [Act.put, List.setIfInBounds_toArray, List.set_cons_zero, List.set_cons_succ]
          refine wpAnyH_take (i := 3) (oi := ⟨some 65, _, _, _, _, _⟩) (v := .slice (some ⟨w.heap.size, 0, none⟩) ns.length ns.length) rfl (by kernel_rfl) (by kernel_rfl) (by kernel_rfl) (fun _ _ _ h => h) (Or.inl ⟨by rfl, fun W hS => by (have s0 := hS; go_simp)⟩) HS1.out ?_
          simp only [Act.put, List.setIfInBounds_toArray, List.set_cons_zero, List.set_cons_succ]
          refine wpAnyH_take (i := 4) (oi := ⟨some 66, _, _, _, _, _⟩) (v := .pointer (some ⟨wr.heap.size, 2, none⟩)) rfl (by kernel_rfl) (by kernel_rfl) (by kernel_rfl) (fun _ _ _ h => h) (Or.inl ⟨by rfl, fun W hS => by (have s0 := hS; go_simp)⟩) HS1.out ?_
          simp only [Act.put, List.setIfInBounds_toArray, List.set_cons_zero, List.set_cons_succ]
          refine wpAnyH_take (i := 5) (oi := ⟨some 67, _, _, _, _, _⟩) (v := .int .i64 i) rfl (by kernel_rfl) (by kernel_rfl) (by kernel_rfl) (fun _ _ _ h => h) (Or.inl ⟨by rfl, fun W hS => by (have s0 := hS; go_simp)⟩) HS1.out ?_
          simp only [Act.put, List.setIfInBounds_toArray, List.set_cons_zero, List.set_cons_succ]
          refine wpAnyH_take (i := 6) (oi := ⟨some 68, _, _, _, _, _⟩) (v := .pointer (some ⟨w.heap.size, i, none⟩)) rfl (by kernel_rfl) (by kernel_rfl) (by kernel_rfl) (fun _ _ _ h => h) (Or.inl ⟨by rfl, fun W hS => by (have s0 := hS; go_simp)⟩) HS1.out ?_
          simp only [Act.put, List.setIfInBounds_toArray, List.set_cons_zero, List.set_cons_succ]
          refine wpAnyH_take (i := 8) (oi := ⟨some 70, _, _, _, _, _⟩) (v := .int .i64 k) rfl (by kernel_rfl) (by kernel_rfl) (by kernel_rfl) (fun _ _ _ h => h) (Or.inl ⟨by rfl, fun W hS => by (have s0 := hS; go_simp)⟩) HS1.out ?_
          simp only [Act.put, List.setIfInBounds_toArray, List.set_cons_zero, List.set_cons_succ]
          refine wpAnyH_ready (rs := [7, 9]) (by kernel_rfl) (by simp) ?_
          refine AllReadyH.cons rfl (fun K hK => ?_) (AllReadyH.cons rfl (fun K hK => ?_) AllReadyH.nil)
          · go_simp
            refine hK.out _ _ HS1.out (fun _ => ?_)
            clear hK K
            refine wpAnyH_ready (rs := [9]) (by kernel_rfl) (by simp) ?_
            refine AllReadyH.cons rfl (fun K hK => ?_) AllReadyH.nil
            go_simp
            refine hK.out _ _ HSa.out (fun _ => ?_)
            clear hK K
            refine wpAnyH_ready (rs := [10]) (by kernel_rfl) (by simp) ?_
            refine AllReadyH.cons rfl (fun K hK => ?_) AllReadyH.nil
            refine (if_pos (by kernel_rfl)).mpr ?_
            refine wp_append_run happ _ _ rfl rfl rfl ?_
            simp only [Act.put, List.setIfInBounds_toArray, List.set_cons_zero, List.set_cons_succ, List.getElem_toArray, List.getElem_cons_succ, List.getElem_cons_zero]
            refine hK.out _ _ HSb.out (fun _ => ?_)
            clear hK K happ
            refine wpAnyH_take (i := 11) (oi := ⟨some 73, _, _, _, _, _⟩) (v := .pointer (some ⟨w.heap.size, i, none⟩)) rfl (by kernel_rfl) (by kernel_rfl) (by kernel_rfl) (fun _ _ _ h => h) (Or.inl ⟨by rfl, fun W hS => by (have s0 := hS; go_simp)⟩) HSb.out ?_
            simp only [Act.put, List.setIfInBounds_toArray, List.set_cons_zero, List.set_cons_succ]
            refine wpAnyH_ready (rs := [12]) (by kernel_rfl) (by simp) ?_
            refine AllReadyH.cons rfl (fun K hK => ?_) AllReadyH.nil
            go_simp
            refine hK.out _ _ HSc.out (fun _ => ?_)
            clear hK K
            refine wpAnyH_done (by kernel_rfl) ?_ _
            clear c0 c0a c2 fz HS1 HSa HSb HSc
            go_wp2_with fail
            refine ⟨⟨k + 1, _, by omega, by go_num, hide ⟨HBB.out.trans HBnB.out, HRnB.out, ?_, fun j r hj => by have := set_short HSHB.out hrB k naB ncB j r hj; omega⟩⟩, by simp [intOf]; omega⟩
            rw [add_is HISB.out hrB]
            show _ = rdStep (rdTo ns k) (ndAt ns k) k
            rw [HND.out]; rfl
          · go_simp
            refine hK.out _ _ HSa.out (fun _ => ?_)
            clear hK K
            refine wpAnyH_ready (rs := [7]) (by kernel_rfl) (by simp) ?_
            refine AllReadyH.cons rfl (fun K hK => ?_) AllReadyH.nil
            go_simp
            refine hK.out _ _ HSa.out (fun _ => ?_)
            clear hK K
            refine wpAnyH_ready (rs := [10]) (by kernel_rfl) (by simp) ?_
            refine AllReadyH.cons rfl (fun K hK => ?_) AllReadyH.nil
            refine (if_pos (by kernel_rfl)).mpr ?_
            refine wp_append_run happ _ _ rfl rfl rfl ?_
            simp only [Act.put, List.setIfInBounds_toArray, List.set_cons_zero, List.set_cons_succ, List.getElem_toArray, List.getElem_cons_succ, List.getElem_cons_zero]
            refine hK.out _ _ HSb.out (fun _ => ?_)
            clear hK K happ
            refine wpAnyH_take (i := 11) (oi := ⟨some 73, _, _, _, _, _⟩) (v := .pointer (some ⟨w.heap.size, i, none⟩)) rfl (by kernel_rfl) (by kernel_rfl) (by kernel_rfl) (fun _ _ _ h => h) (Or.inl ⟨by rfl, fun W hS => by (have s0 := hS; go_simp)⟩) HSb.out ?_
            simp only [Act.put, List.setIfInBounds_toArray, List.set_cons_zero, List.set_cons_succ]
            refine wpAnyH_ready (rs := [12]) (by kernel_rfl) (by simp) ?_
            refine AllReadyH.cons rfl (fun K hK => ?_) AllReadyH.nil
            go_simp
            refine hK.out _ _ HSc.out (fun _ => ?_)
            clear hK K
            refine wpAnyH_done (by kernel_rfl) ?_ _
            clear c0 c0a c2 fz HS1 HSa HSb HSc
            go_wp2_with fail
            refine ⟨⟨k + 1, _, by omega, by go_num, hide ⟨HBB.out.trans HBnB.out, HRnB.out, ?_, fun j r hj => by have := set_short HSHB.out hrB k naB ncB j r hj; omega⟩⟩, by simp [intOf]; omega⟩
            rw [add_is HISB.out hrB]
            show _ = rdStep (rdTo ns k) (ndAt ns k) k
            rw [HND.out]; rfl
        · go_simp
          refine hK.out _ _ HSa.out (fun _ => ?_)
          clear hK K
          refine wpAnyH_ready (rs := [7]) (by kernel_rfl) (by simp) ?_
          refine AllReadyH.cons rfl (fun K hK => ?_) AllReadyH.nil
          go_simp
          refine hK.out _ _ HSa.out (fun _ => ?_)
          clear hK K
          refine wpAnyH_ready (rs := [10]) (by kernel_rfl) (by simp) ?_
          refine AllReadyH.cons rfl (fun K hK => ?_) AllReadyH.nil
          refine (if_pos (by kernel_rfl)).mpr ?_
          refine wp_append_run happ _ _ rfl rfl rfl ?_
          simp only [Act.put, List.setIfInBounds_toArray, List.set_cons_zero, List.set_cons_succ, List.getElem_toArray, List.getElem_cons_succ, List.getElem_cons_zero]
          refine hK.out _ _ HSb.out (fun _ => ?_)
          clear hK K happ
          refine wpAnyH_take (i := 11) (oi := ⟨some 61, _, _, _, _, _⟩) (v := .pointer (some ⟨w.heap.size, j, none⟩)) rfl (by kernel_rfl) (by kernel_rfl) (by kernel_rfl) (fun _ _ _ h => h) (Or.inl ⟨by rfl, fun W hS => by (have s0 := hS; go_simp)⟩) HSb.out ?_
          simp only [Act.put, List.setIfInBounds_toArray, List.set_cons_zero, List.set_cons_succ]
          refine wpAnyH_ready (rs := [12]) (by kernel_rfl) (by simp) ?_
          refine AllReadyH.cons rfl (fun K hK => ?_) AllReadyH.nil
          go_simp
          refine hK.out _ _ HSc.out (fun _ => ?_)
          clear hK K
          refine wpAnyH_done (by kernel_rfl) ?_ _
          clear c0 c0a c2 fz HS1 HSa HSb HSc HS0
          have HLENB : Hid ((rs.set j ⟨naA, ncA, rA.l ++ [(k : Int)]⟩).length = ns.length) := hide (by rw [List.length_set]; exact HLENA.out)
          have HSHB := hide (set_short HSHA.out hrA k naA ncA)
          have HISB := hide (add_is HISA.out hrA k naA ncA)
          go_wp2_with fail
          have HRB : Hid (RdsAt w.heap.size _ w.heap.size (rs.set j ⟨naA, ncA, rA.l ++ [(k : Int)]⟩)) := hide (HRnA.out.below (Below.refl _ _).drew)
          have HBB := hide ((HBA.out.trans HBnA.out).drew)
          have HXB : Hid ((w2A.setCell ⟨w.heap.size, j, none⟩ (.slice naA (rA.l.length + 1) ncA)).drew.heap[wr.heap.size]? = some (.cells #[.int .i64 5, .int .i64 j, .int .i64 i, .int .i64 nx] 26 (0, 0))) := hide HX3A.out
          have HS0 : Hid ((fun W : World => W.cell? ⟨wr.heap.size, 2, none⟩ = some (.int .i64 i)) (w2A.setCell ⟨w.heap.size, j, none⟩ (.slice naA (rA.l.length + 1) ncA)).drew) := hide (by (show World.cell? _ _ = _; rw [blk_cell HXB.out]; rfl))
          refine wp_region_held_drew (S := (fun W : World => W.cell? ⟨wr.heap.size, 2, none⟩ = some (.int .i64 i))) (by kernel_rfl) HS0.out (fun _ => ?_)
          clear HRnA HBnA HX2A HX3A HXaA
          generalize hRS : rs.set j ⟨naA, ncA, rA.l ++ [(k : Int)]⟩ = rsB at *
          generalize (w2A.setCell ⟨w.heap.size, j, none⟩ (.slice naA (rA.l.length + 1) ncA)).drew = wb at *
          clear HRA HBA HSHA HISA HXA HLENA hrA hshA HSA hRS
          obtain ⟨rB, hrB⟩ := at_some (j := i) HLENB.out (by omega)
          have hshB := HSHB.out i rB hrB
          have HSB : Hid (∀ W : World, W.heap[wr.heap.size]? = some (.cells #[.int .i64 5, .int .i64 j, .int .i64 i, .int .i64 nx] 26 (0, 0)) → (fun W : World => W.cell? ⟨wr.heap.size, 2, none⟩ = some (.int .i64 i)) W) := hide fun W h0 => by (show W.cell? _ = _; rw [blk_cell h0]; rfl)
          obtain ⟨naB, ncB, w2B, happ, hRB, hrd, hbel, htyp⟩ := HRB.out.push hrB (by omega) (by have := HBB.out.size; omega) k
          have HRnB := hide hrd
          have HBnB := hide (hbel w.heap.size (Nat.le_refl _) (Nat.le_refl _))
          have HX2B := hide (htyp _ _ _ _ HXB.out (by decide))
          have HX3B : Hid ((w2B.setCell ⟨w.heap.size, i, none⟩ (.slice naB (rB.l.length + 1) ncB)).heap[wr.heap.size]? = some (.cells #[.int .i64 5, .int .i64 j, .int .i64 i, .int .i64 nx] 26 (0, 0))) := hide ((Below.heap_setCell w2B ⟨w.heap.size, i, none⟩ _ _ (by show wr.heap.size ≠ w.heap.size; omega)).trans HX2B.out)
          have HXaB : Hid ((wb.alloc (.cells #[.int .i64 k] 3)).heap[wr.heap.size]? = some (.cells #[.int .i64 5, .int .i64 j, .int .i64 i, .int .i64 nx] 26 (0, 0))) := hide (Below.blk (below_alloc _ _) HXB.out)
          have c0 := rw_cell HRB.out.outer hrB
          have c0a := cell_alloc c0 (.cells #[.int .i64 k] 3)
          have c2 := rw_cell hRB hrB
          have fz := blk_frozen hRB i
          have HS1 := hide (HSB.out _ HXB.out)
          have HSa := hide (HSB.out _ HXaB.out)
          have HSb := hide (HSB.out _ HX2B.out)
          have HSc := hide (HSB.out _ HX3B.out)
          clear hrd hbel htyp hRB
          refine wpAnyH_take (i := 0) (oi := ⟨some 62, _, _, _, _, _⟩) (v := .slice (some ⟨w.heap.size, 0, none⟩) ns.length ns.length) rfl (by kernel_rfl) (by kernel_rfl) (by kernel_rfl) (fun _ _ _ h => h) (Or.inl ⟨by rfl, fun W hS => by (have s0 := hS; go_simp)⟩) HS1.out ?_
          simp only [Act.put, List.setIfInBounds_toArray, List.set_cons_zero, List.set_cons_succ]
          refine wpAnyH_take (i := 1) (oi := ⟨some 63, _, _, _, _, _⟩) (v := .pointer (some ⟨wr.heap.size, 2, none⟩)) rfl (by kernel_rfl) (by kernel_rfl) (by kernel_rfl) (fun _ _ _ h => h) (Or.inl ⟨by rfl, fun W hS => by (have s0 := hS; go_simp)⟩) HS1.out ?_
          simp only [Act.put, List.setIfInBounds_toArray, List.set_cons_zero, List.set_cons_succ]
          refine wpAnyH_take (i := 2) (oi := ⟨some 64, _, _, _, _, _⟩) (v := .int .i64 i) rfl (by kernel_rfl) (by kernel_rfl) (by kernel_rfl) (fun _ _ _ h => h) (Or.inl ⟨by rfl, fun W hS => by (have s0 := hS; go_simp)⟩) HS1.out ?_
          simp only [Act.put, List.setIfInBounds_toArray, List.set_cons_zero, List.set_cons_succ]
          refine wpAnyH_take (i := 3) (oi := ⟨some 65, _, _, _, _, _⟩) (v := .slice (some ⟨w.heap.size, 0, none⟩) ns.length ns.length) rfl (by kernel_rfl) (by kernel_rfl) (by kernel_rfl) (fun _ _ _ h => h) (Or.inl ⟨by rfl, fun W hS => by (have s0 := hS; go_simp)⟩) HS1.out ?_
          simp only [Act.put, List.setIfInBounds_toArray, List.set_cons_zero, List.set_cons_succ]
          refine wpAnyH_take (i := 4) (oi := ⟨some 66, _, _, _, _, _⟩) (v := .pointer (some ⟨wr.heap.size, 2, none⟩)) rfl (by kernel_rfl) (by kernel_rfl) (by kernel_rfl) (fun _ _ _ h => h) (Or.inl ⟨by rfl, fun W hS => by (have s0 := hS; go_simp)⟩) HS1.out ?_
          simp only [Act.put, List.setIfInBounds_toArray, List.set_cons_zero, List.set_cons_succ]
          refine wpAnyH_take (i := 5) (oi := ⟨some 67, _, _, _, _, _⟩) (v := .int .i64 i) rfl (by kernel_rfl) (by kernel_rfl) (by kernel_rfl) (fun _ _ _ h => h) (Or.inl ⟨by rfl, fun W hS => by (have s0 := hS; go_simp)⟩) HS1.out ?_
          simp only [Act.put, List.setIfInBounds_toArray, List.set_cons_zero, List.set_cons_succ]
          refine wpAnyH_take (i := 6) (oi := ⟨some 68, _, _, _, _, _⟩) (v := .pointer (some ⟨w.heap.size, i, none⟩)) rfl (by kernel_rfl) (by kernel_rfl) (by kernel_rfl) (fun _ _ _ h => h) (Or.inl ⟨by rfl, fun W hS => by (have s0 := hS; go_simp)⟩) HS1.out ?_
          simp only [Act.put, List.setIfInBounds_toArray, List.set_cons_zero, List.set_cons_succ]
          refine wpAnyH_take (i := 8) (oi := ⟨some 70, _, _, _, _, _⟩) (v := .int .i64 k) rfl (by kernel_rfl) (by kernel_rfl) (by kernel_rfl) (fun _ _ _ h => h) (Or.inl ⟨by rfl, fun W hS => by (have s0 := hS; go_simp)⟩) HS1.out ?_
          simp only [Act.put, List.setIfInBounds_toArray, List.set_cons_zero, List.set_cons_succ]
          refine wpAnyH_ready (rs := [7, 9]) (by kernel_rfl) (by simp) ?_
          refine AllReadyH.cons rfl (fun K hK => ?_) (AllReadyH.cons rfl (fun K hK => ?_) AllReadyH.nil)
          · go_simp
            refine hK.out _ _ HS1.out (fun _ => ?_)
            clear hK K
            refine wpAnyH_ready (rs := [9]) (by kernel_rfl) (by simp) ?_
            refine AllReadyH.cons rfl (fun K hK => ?_) AllReadyH.nil
            go_simp
            refine hK.out _ _ HSa.out (fun _ => ?_)
            clear hK K
            refine wpAnyH_ready (rs := [10]) (by kernel_rfl) (by simp) ?_
            refine AllReadyH.cons rfl (fun K hK => ?_) AllReadyH.nil
            refine (if_pos (by kernel_rfl)).mpr ?_
            refine wp_append_run happ _ _ rfl rfl rfl ?_
            simp only [Act.put, List.setIfInBounds_toArray, List.set_cons_zero, List.set_cons_succ, List.getElem_toArray, List.getElem_cons_succ, List.getElem_cons_zero]
            refine hK.out _ _ HSb.out (fun _ => ?_)
            clear hK K happ
            refine wpAnyH_take (i := 11) (oi := ⟨some 73, _, _, _, _, _⟩) (v := .pointer (some ⟨w.heap.size, i, none⟩)) rfl (by kernel_rfl) (by kernel_rfl) (by kernel_rfl) (fun _ _ _ h => h) (Or.inl ⟨by rfl, fun W hS => by (have s0 := hS; go_simp)⟩) HSb.out ?_
            simp only [Act.put, List.setIfInBounds_toArray, List.set_cons_zero, List.set_cons_succ]
            refine wpAnyH_ready (rs := [12]) (by kernel_rfl) (by simp) ?_
            refine AllReadyH.cons rfl (fun K hK => ?_) AllReadyH.nil
            go_simp
            refine hK.out _ _ HSc.out (fun _ => ?_)
            clear hK K
            refine wpAnyH_done (by kernel_rfl) ?_ _
            clear c0 c0a c2 fz HS1 HSa HSb HSc
            go_wp2_with fail
            refine ⟨⟨k + 1, _, by omega, by go_num, hide ⟨HBB.out.trans HBnB.out, HRnB.out, ?_, fun j r hj => by have := set_short HSHB.out hrB k naB ncB j r hj; omega⟩⟩, by simp [intOf]; omega⟩
            rw [add_is HISB.out hrB]
            show _ = rdStep (rdTo ns k) (ndAt ns k) k
            rw [HND.out]; rfl
          · go_simp
            refine hK.out _ _ HSa.out (fun _ => ?_)
            clear hK K
            refine wpAnyH_ready (rs := [7]) (by kernel_rfl) (by simp) ?_
            refine AllReadyH.cons rfl (fun K hK => ?_) AllReadyH.nil
            go_simp
            refine hK.out _ _ HSa.out (fun _ => ?_)
            clear hK K
            refine wpAnyH_ready (rs := [10]) (by kernel_rfl) (by simp) ?_
            refine AllReadyH.cons rfl (fun K hK => ?_) AllReadyH.nil
            refine (if_pos (by kernel_rfl)).mpr ?_
            refine wp_append_run happ _ _ rfl rfl rfl ?_
            simp only [Act.put, List.setIfInBounds_toArray, List.set_cons_zero, List.set_cons_succ, List.getElem_toArray, List.getElem_cons_succ, List.getElem_cons_zero]
            refine hK.out _ _ HSb.out (fun _ => ?_)
            clear hK K happ
            refine wpAnyH_take (i := 11) (oi := ⟨some 73, _, _, _, _, _⟩) (v := .pointer (some ⟨w.heap.size, i, none⟩)) rfl (by kernel_rfl) (by kernel_rfl) (by kernel_rfl) (fun _ _ _ h => h) (Or.inl ⟨by rfl, fun W hS => by (have s0 := hS; go_simp)⟩) HSb.out ?_
            simp only [Act.put, List.setIfInBounds_toArray, List.set_cons_zero, List.set_cons_succ]
            refine wpAnyH_ready (rs := [12]) (by kernel_rfl) (by simp) ?_
            refine AllReadyH.cons rfl (fun K hK => ?_) AllReadyH.nil
            go_simp
            refine hK.out _ _ HSc.out (fun _ => ?_)
            clear hK K
            refine wpAnyH_done (by kernel_rfl) ?_ _
            clear c0 c0a c2 fz HS1 HSa HSb HSc
            go_wp2_with fail
            refine ⟨⟨k + 1, _, by omega, by go_num, hide ⟨HBB.out.trans HBnB.out, HRnB.out, ?_, fun j r hj => by have := set_short HSHB.out hrB k naB ncB j r hj; omega⟩⟩, by simp [intOf]; omega⟩
            rw [add_is HISB.out hrB]
            show _ = rdStep (rdTo ns k) (ndAt ns k) k
            rw [HND.out]; rfl
      · obtain ⟨h1, h2⟩ := Bool.and_eq_true_iff.1 (show (inR a k && inR bb k) = true from HRN.out)
        obtain ⟨j, rfl⟩ := Int.eq_ofNat_of_zero_le (inR_iff.1 h1).1
        obtain ⟨i, rfl⟩ := Int.eq_ofNat_of_zero_le (inR_iff.1 h2).1
        have hjl : j < ns.length := by have := (inR_iff.1 h1).2; omega
        have hil : i < ns.length := by have := (inR_iff.1 h2).2; omega
        clear h1 h2
        have hii : (i : Int) < (ns.length : Int) := by omega
        have hji : (j : Int) < (ns.length : Int) := by omega
        go_wp2_with fail
        have HXA : Hid ((wr.alloc (.cells #[.int .i64 6, .int .i64 j, .int .i64 i, .int .i64 nx] 26)).drew.heap[wr.heap.size]? = some (.cells #[.int .i64 6, .int .i64 j, .int .i64 i, .int .i64 nx] 26 (0, 0))) := hide HX1.out
        have HRA := hide (hc.out.rows.below HB1.out.drew)
        have HBA := hide (hc.out.below.trans (HB1.out.drew.mono hc.out.below.size))
        have HLENA := hide HLEN.out
        have HSHA := hide hc.out.short
        have HISA := hide hc.out.is
        have HS0 : Hid ((fun W : World => W.cell? ⟨wr.heap.size, 1, none⟩ = some (.int .i64 j)) (wr.alloc (.cells #[.int .i64 6, .int .i64 j, .int .i64 i, .int .i64 nx] 26)).drew) := hide (by (show World.cell? _ _ = _; rw [blk_cell HXA.out]; rfl))
        clear n0 n1 n2 n3 HX1 HB1
        refine wp_region_held_drew (S := (fun W : World => W.cell? ⟨wr.heap.size, 1, none⟩ = some (.int .i64 j))) (by kernel_rfl) HS0.out (fun _ => ?_)
        generalize (wr.alloc (.cells #[.int .i64 6, .int .i64 j, .int .i64 i, .int .i64 nx] 26)).drew = wa at *
        obtain ⟨rA, hrA⟩ := at_some (j := j) HLENA.out (by omega)
        have hshA := HSHA.out j rA hrA
        have HSA : Hid (∀ W : World, W.heap[wr.heap.size]? = some (.cells #[.int .i64 6, .int .i64 j, .int .i64 i, .int .i64 nx] 26 (0, 0)) → (fun W : World => W.cell? ⟨wr.heap.size, 1, none⟩ = some (.int .i64 j)) W) := hide fun W h0 => by (show W.cell? _ = _; rw [blk_cell h0]; rfl)
        obtain ⟨naA, ncA, w2A, happ, hRB, hrd, hbel, htyp⟩ := HRA.out.push hrA (by omega) (by have := HBA.out.size; omega) k
        have HRnA := hide hrd
        have HBnA := hide (hbel w.heap.size (Nat.le_refl _) (Nat.le_refl _))
        have HX2A := hide (htyp _ _ _ _ HXA.out (by decide))
        have HX3A : Hid ((w2A.setCell ⟨w.heap.size, j, none⟩ (.slice naA (rA.l.length + 1) ncA)).heap[wr.heap.size]? = some (.cells #[.int .i64 6, .int .i64 j, .int .i64 i, .int .i64 nx] 26 (0, 0))) := hide ((Below.heap_setCell w2A ⟨w.heap.size, j, none⟩ _ _ (by show wr.heap.size ≠ w.heap.size; omega)).trans HX2A.out)
        have HXaA : Hid ((wa.alloc (.cells #[.int .i64 k] 3)).heap[wr.heap.size]? = some (.cells #[.int .i64 6, .int .i64 j, .int .i64 i, .int .i64 nx] 26 (0, 0))) := hide (Below.blk (below_alloc _ _) HXA.out)
        have c0 := rw_cell HRA.out.outer hrA
        have c0a := cell_alloc c0 (.cells #[.int .i64 k] 3)
        have c2 := rw_cell hRB hrA
        have fz := blk_frozen hRB j
        have HS1 := hide (HSA.out _ HXA.out)
        have HSa := hide (HSA.out _ HXaA.out)
        have HSb := hide (HSA.out _ HX2A.out)
        have HSc := hide (HSA.out _ HX3A.out)
        clear hrd hbel htyp hRB
        refine wpAnyH_take (i := 0) (oi := ⟨some 50, _, _, _, _, _⟩) (v := .slice (some ⟨w.heap.size, 0, none⟩) ns.length ns.length) rfl (by kernel_rfl) (by kernel_rfl) (by kernel_rfl) (fun _ _ _ h => h) (Or.inl ⟨by rfl, fun W hS => by (have s0 := hS; go_simp)⟩) HS1.out ?_
        simp only [Act.put, List.setIfInBounds_toArray, List.set_cons_zero, List.set_cons_succ]
        refine wpAnyH_take (i := 1) (oi := ⟨some 51, _, _, _, _, _⟩) (v := .pointer (some ⟨wr.heap.size, 1, none⟩)) rfl (by kernel_rfl) (by kernel_rfl) (by kernel_rfl) (fun _ _ _ h => h) (Or.inl ⟨by rfl, fun W hS => by (have s0 := hS; go_simp)⟩) HS1.out ?_
        simp only [Act.put, List.setIfInBounds_toArray, List.set_cons_zero, List.set_cons_succ]
        refine wpAnyH_take (i := 2) (oi := ⟨some 52, _, _, _, _, _⟩) (v := .int .i64 j) rfl (by kernel_rfl) (by kernel_rfl) (by kernel_rfl) (fun _ _ _ h => h) (Or.inl ⟨by rfl, fun W hS => by (have s0 := hS; go_simp)⟩) HS1.out ?_
        simp only [Act.put, List.setIfInBounds_toArray, List.set_cons_zero, List.set_cons_succ]
        refine wpAnyH_take (i := 3) (oi := ⟨some 53, _, _, _, _, _⟩) (v := .slice (some ⟨w.heap.size, 0, none⟩) ns.length ns.length) rfl (by kernel_rfl) (by kernel_rfl) (by kernel_rfl) (fun _ _ _ h => h) (Or.inl ⟨by rfl, fun W hS => by (have s0 := hS; go_simp)⟩) HS1.out ?_
        simp only [Act.put, List.setIfInBounds_toArray, List.set_cons_zero, List.set_cons_succ]
        refine wpAnyH_take (i := 4) (oi := ⟨some 54, _, _, _, _, _⟩) (v := .pointer (some ⟨wr.heap.size, 1, none⟩)) rfl (by kernel_rfl) (by kernel_rfl) (by kernel_rfl) (fun _ _ _ h => h) (Or.inl ⟨by rfl, fun W hS => by (have s0 := hS; go_simp)⟩) HS1.out ?_
        simp only [Act.put, List.setIfInBounds_toArray, List.set_cons_zero, List.set_cons_succ]
        refine wpAnyH_take (i := 5) (oi := ⟨some 55, _, _, _, _, _⟩) (v := .int .i64 j) rfl (by kernel_rfl) (by kernel_rfl) (by kernel_rfl) (fun _ _ _ h => h) (Or.inl ⟨by rfl, fun W hS => by (have s0 := hS; go_simp)⟩) HS1.out ?_
        simp only [Act.put, List.setIfInBounds_toArray, List.set_cons_zero, List.set_cons_succ]
        refine wpAnyH_take (i := 6) (oi := ⟨some 56, _, _, _, _, _⟩) (v := .pointer (some ⟨w.heap.size, j, none⟩)) rfl (by kernel_rfl) (by kernel_rfl) (by kernel_rfl) (fun _ _ _ h => h) (Or.inl ⟨by rfl, fun W hS => by (have s0 := hS; go_simp)⟩) HS1.out ?_
        simp only [Act.put, List.setIfInBounds_toArray, List.set_cons_zero, List.set_cons_succ]
        refine wpAnyH_take (i := 8) (oi := ⟨some 58, _, _, _, _, _⟩) (v := .int .i64 k) rfl (by kernel_rfl) (by kernel_rfl) (by kernel_rfl) (fun _ _ _ h => h) (Or.inl ⟨by rfl, fun W hS => by (have s0 := hS; go_simp)⟩) HS1.out ?_
        simp only [Act.put, List.setIfInBounds_toArray, List.set_cons_zero, List.set_cons_succ]
        refine wpAnyH_ready (rs := [7, 9]) (by kernel_rfl) (by simp) ?_
        refine AllReadyH.cons rfl (fun K hK => ?_) (AllReadyH.cons rfl (fun K hK => ?_) AllReadyH.nil)
        · go_simp
          refine hK.out _ _ HS1.out (fun _ => ?_)
          clear hK K
          refine wpAnyH_ready (rs := [9]) (by kernel_rfl) (by simp) ?_
          refine AllReadyH.cons rfl (fun K hK => ?_) AllReadyH.nil
          go_simp
          refine hK.out _ _ HSa.out (fun _ => ?_)
          clear hK K
          refine wpAnyH_ready (rs := [10]) (by kernel_rfl) (by simp) ?_
          refine AllReadyH.cons rfl (fun K hK => ?_) AllReadyH.nil
          refine (if_pos (by kernel_rfl)).mpr ?_
          refine wp_append_run happ _ _ rfl rfl rfl ?_
          simp only [Act.put, List.setIfInBounds_toArray, List.set_cons_zero, List.set_cons_succ, List.getElem_toArray, List.getElem_cons_succ, List.getElem_cons_zero]
          refine hK.out _ _ HSb.out (fun _ => ?_)
          clear hK K happ
          refine wpAnyH_take (i := 11) (oi := ⟨some 61, _, _, _, _, _⟩) (v := .pointer (some ⟨w.heap.size, j, none⟩)) rfl (by kernel_rfl) (by kernel_rfl) (by kernel_rfl) (fun _ _ _ h => h) (Or.inl ⟨by rfl, fun W hS => by (have s0 := hS; go_simp)⟩) HSb.out ?_
          simp only [Act.put, List.setIfInBounds_toArray, List.set_cons_zero, List.set_cons_succ]
          refine wpAnyH_ready (rs := [12]) (by kernel_rfl) (by simp) ?_
          refine AllReadyH.cons rfl (fun K hK => ?_) AllReadyH.nil
          go_simp
          refine hK.out _ _ HSc.out (fun _ => ?_)
          clear hK K
          refine wpAnyH_done (by kernel_rfl) ?_ _
          clear c0 c0a c2 fz HS1 HSa HSb HSc HS0
          have HLENB : Hid ((rs.set j ⟨naA, ncA, rA.l ++ [(k : Int)]⟩).length = ns.length) := hide (by rw [List.length_set]; exact HLENA.out)
          have HSHB := hide (set_short HSHA.out hrA k naA ncA)
          have HISB := hide (add_is HISA.out hrA k naA ncA)
          go_wp2_with fail
          have HRB : Hid (RdsAt w.heap.size _ w.heap.size (rs.set j ⟨naA, ncA, rA.l ++ [(k : Int)]⟩)) := hide (HRnA.out.below (Below.refl _ _).drew)
          have HBB := hide ((HBA.out.trans HBnA.out).drew)
          have HXB : Hid ((w2A.setCell ⟨w.heap.size, j, none⟩ (.slice naA (rA.l.length + 1) ncA)).drew.heap[wr.heap.size]? = some (.cells #[.int .i64 6, .int .i64 j, .int .i64 i, .int .i64 nx] 26 (0, 0))) := hide HX3A.out
          have HS0 : Hid ((fun W : World => W.cell? ⟨wr.heap.size, 2, none⟩ = some (.int .i64 i)) (w2A.setCell ⟨w.heap.size, j, none⟩ (.slice naA (rA.l.length + 1) ncA)).drew) := hide (by (show World.cell? _ _ = _; rw [blk_cell HXB.out]; rfl))
          refine wp_region_held_drew (S := (fun W : World => W.cell? ⟨wr.heap.size, 2, none⟩ = some (.int .i64 i))) (by kernel_rfl) HS0.out (fun _ => ?_)
          clear HRnA HBnA HX2A HX3A HXaA
          generalize hRS : rs.set j ⟨naA, ncA, rA.l ++ [(k : Int)]⟩ = rsB at *
          generalize (w2A.setCell ⟨w.heap.size, j, none⟩ (.slice naA (rA.l.length + 1) ncA)).drew = wb at *
          clear HRA HBA HSHA HISA HXA HLENA hrA hshA HSA hRS
          obtain ⟨rB, hrB⟩ := at_some (j := i) HLENB.out (by omega)
          have hshB := HSHB.out i rB hrB
          have HSB : Hid (∀ W : World, W.heap[wr.heap.size]? = some (.cells #[.int .i64 6, .int .i64 j, .int .i64 i, .int .i64 nx] 26 (0, 0)) → (fun W : World => W.cell? ⟨wr.heap.size, 2, none⟩ = some (.int .i64 i)) W) := hide fun W h0 => by (show W.cell? _ = _; rw [blk_cell h0]; rfl)
          obtain ⟨naB, ncB, w2B, happ, hRB, hrd, hbel, htyp⟩ := HRB.out.push hrB (by omega) (by have := HBB.out.size; omega) k
          have HRnB := hide hrd
          have HBnB := hide (hbel w.heap.size (Nat.le_refl _) (Nat.le_refl _))
          have HX2B := hide (htyp _ _ _ _ HXB.out (by decide))
          have HX3B : Hid ((w2B.setCell ⟨w.heap.size, i, none⟩ (.slice naB (rB.l.length + 1) ncB)).heap[wr.heap.size]? = some (.cells #[.int .i64 6, .int .i64 j, .int .i64 i, .int .i64 nx] 26 (0, 0))) := hide ((Below.heap_setCell w2B ⟨w.heap.size, i, none⟩ _ _ (by show wr.heap.size ≠ w.heap.size; omega)).trans HX2B.out)
          have HXaB : Hid ((wb.alloc (.cells #[.int .i64 k] 3)).heap[wr.heap.size]? = some (.cells #[.int .i64 6, .int .i64 j, .int .i64 i, .int .i64 nx] 26 (0, 0))) := hide (Below.blk (below_alloc _ _) HXB.out)
          have c0 := rw_cell HRB.out.outer hrB
          have c0a := cell_alloc c0 (.cells #[.int .i64 k] 3)
          have c2 := rw_cell hRB hrB
          have fz := blk_frozen hRB i
          have HS1 := hide (HSB.out _ HXB.out)
          have HSa := hide (HSB.out _ HXaB.out)
          have HSb := hide (HSB.out _ HX2B.out)
          have HSc := hide (HSB.out _ HX3B.out)
          clear hrd hbel htyp hRB
          refine wpAnyH_take (i := 0) (oi := ⟨some 62, _, _, _, _, _⟩) (v := .slice (some ⟨w.heap.size, 0, none⟩) ns.length ns.length) rfl (by kernel_rfl) (by kernel_rfl) (by kernel_rfl) (fun _ _ _ h => h) (Or.inl ⟨by rfl, fun W hS => by (have s0 := hS; go_simp)⟩) HS1.out ?_
          simp only [Act.put, List.setIfInBounds_toArray, List.set_cons_zero, List.set_cons_succ]
          refine wpAnyH_take (i := 1) (oi := ⟨some 63, _, _, _, _, _⟩) (v := .pointer (some ⟨wr.heap.size, 2, none⟩)) rfl (by kernel_rfl) (by kernel_rfl) (by kernel_rfl) (fun _ _ _ h => h) (Or.inl ⟨by rfl, fun W hS => by (have s0 := hS; go_simp)⟩) HS1.out ?_
          simp only [Act.put, List.setIfInBounds_toArray, List.set_cons_zero, List.set_cons_succ]
          refine wpAnyH_take (i := 2) (oi := ⟨some 64, _, _, _, _, _⟩) (v := .int .i64 i) rfl (by kernel_rfl) (by kernel_rfl) (by kernel_rfl) (fun _ _ _ h => h) (Or.inl ⟨by rfl, fun W hS => by (have s0 := hS; go_simp)⟩) HS1.out ?_
          simp only [Act.put, List.setIfInBounds_toArray, List.set_cons_zero, List.set_cons_succ]
          refine wpAnyH_take (i := 3) (oi := ⟨some 65, _, _, _, _, _⟩) (v := .slice (some ⟨w.heap.size, 0, none⟩) ns.length ns.length) rfl (by kernel_rfl) (by kernel_rfl) (by kernel_rfl) (fun _ _ _ h => h) (Or.inl ⟨by rfl, fun W hS => by (have s0 := hS; go_simp)⟩) HS1.out ?_
          simp only [Act.put, List.setIfInBounds_toArray, List.set_cons_zero, List.set_cons_succ]
          refine wpAnyH_take (i := 4) (oi := ⟨some 66, _, _, _, _, _⟩) (v := .pointer (some ⟨wr.heap.size, 2, none⟩)) rfl (by kernel_rfl) (by kernel_rfl) (by kernel_rfl) (fun _ _ _ h => h) (Or.inl ⟨by rfl, fun W hS => by (have s0 := hS; go_simp)⟩) HS1.out ?_
          simp only [Act.put, List.setIfInBounds_toArray, List.set_cons_zero, List.set_cons_succ]
          refine wpAnyH_take (i := 5) (oi := ⟨some 67, _, _, _, _, _⟩) (v := .int .i64 i) rfl (by kernel_rfl) (by kernel_rfl) (by kernel_rfl) (fun _ _ _ h => h) (Or.inl ⟨by rfl, fun W hS => by (have s0 := hS; go_simp)⟩) HS1.out ?_
          simp only [Act.put, List.setIfInBounds_toArray, List.set_cons_zero, List.set_cons_succ]
          refine wpAnyH_take (i := 6) (oi := ⟨some 68, _, _, _, _, _⟩) (v := .pointer (some ⟨w.heap.size, i, none⟩)) rfl (by kernel_rfl) (by kernel_rfl) (by kernel_rfl) (fun _ _ _ h => h) (Or.inl ⟨by rfl, fun W hS => by (have s0 := hS; go_simp)⟩) HS1.out ?_
          simp only [Act.put, List.setIfInBounds_toArray, List.set_cons_zero, List.set_cons_succ]
          refine wpAnyH_take (i := 8) (oi := ⟨some 70, _, _, _, _, _⟩) (v := .int .i64 k) rfl (by kernel_rfl) (by kernel_rfl) (by kernel_rfl) (fun _ _ _ h => h) (Or.inl ⟨by rfl, fun W hS => by (have s0 := hS; go_simp)⟩) HS1.out ?_
          simp only [Act.put, List.setIfInBounds_toArray, List.set_cons_zero, List.set_cons_succ]
          refine wpAnyH_ready (rs := [7, 9]) (by kernel_rfl) (by simp) ?_
          refine AllReadyH.cons rfl (fun K hK => ?_) (AllReadyH.cons rfl (fun K hK => ?_) AllReadyH.nil)
          · go_simp
            refine hK.out _ _ HS1.out (fun _ => ?_)
            clear hK K
            refine wpAnyH_ready (rs := [9]) (by kernel_rfl) (by simp) ?_
            refine AllReadyH.cons rfl (fun K hK => ?_) AllReadyH.nil
            go_simp
            refine hK.out _ _ HSa.out (fun _ => ?_)
            clear hK K
            refine wpAnyH_ready (rs := [10]) (by kernel_rfl) (by simp) ?_
            refine AllReadyH.cons rfl (fun K hK => ?_) AllReadyH.nil
            refine (if_pos (by kernel_rfl)).mpr ?_
            refine wp_append_run happ _ _ rfl rfl rfl ?_
            simp only [Act.put, List.setIfInBounds_toArray, List.set_cons_zero, List.set_cons_succ, List.getElem_toArray, List.getElem_cons_succ, List.getElem_cons_zero]
            refine hK.out _ _ HSb.out (fun _ => ?_)
            clear hK K happ
            refine wpAnyH_take (i := 11) (oi := ⟨some 73, _, _, _, _, _⟩) (v := .pointer (some ⟨w.heap.size, i, none⟩)) rfl (by kernel_rfl) (by kernel_rfl) (by kernel_rfl) (fun _ _ _ h => h) (Or.inl ⟨by rfl, fun W hS => by (have s0 := hS; go_simp)⟩) HSb.out ?_
            simp only [Act.put, List.setIfInBounds_toArray, List.set_cons_zero, List.set_cons_succ]
            refine wpAnyH_ready (rs := [12]) (by kernel_rfl) (by simp) ?_
            refine AllReadyH.cons rfl (fun K hK => ?_) AllReadyH.nil
            go_simp
            refine hK.out _ _ HSc.out (fun _ => ?_)
            clear hK K
            refine wpAnyH_done (by kernel_rfl) ?_ _
            clear c0 c0a c2 fz HS1 HSa HSb HSc
            go_wp2_with fail
            refine ⟨⟨k + 1, _, by omega, by go_num, hide ⟨HBB.out.trans HBnB.out, HRnB.out, ?_, fun j r hj => by have := set_short HSHB.out hrB k naB ncB j r hj; omega⟩⟩, by simp [intOf]; omega⟩
            rw [add_is HISB.out hrB]
            show _ = rdStep (rdTo ns k) (ndAt ns k) k
            rw [HND.out]; rfl
          · go_simp
            refine hK.out _ _ HSa.out (fun _ => ?_)
            clear hK K
            refine wpAnyH_ready (rs := [7]) (by kernel_rfl) (by simp) ?_
            refine AllReadyH.cons rfl (fun K hK => ?_) AllReadyH.nil
            go_simp
            refine hK.out _ _ HSa.out (fun _ => ?_)
            clear hK K
            refine wpAnyH_ready (rs := [10]) (by kernel_rfl) (by simp) ?_
            refine AllReadyH.cons rfl (fun K hK => ?_) AllReadyH.nil
            refine (if_pos (by kernel_rfl)).mpr ?_
            refine wp_append_run happ _ _ rfl rfl rfl ?_
            simp only [Act.put, List.setIfInBounds_toArray, List.set_cons_zero, List.set_cons_succ, List.getElem_toArray, List.getElem_cons_succ, List.getElem_cons_zero]
            refine hK.out _ _ HSb.out (fun _ => ?_)
            clear hK K happ
            refine wpAnyH_take (i := 11) (oi := ⟨some 73, _, _, _, _, _⟩) (v := .pointer (some ⟨w.heap.size, i, none⟩)) rfl (by kernel_rfl) (by kernel_rfl) (by kernel_rfl) (fun _ _ _ h => h) (Or.inl ⟨by rfl, fun W hS => by (have s0 := hS; go_simp)⟩) HSb.out ?_
            simp only [Act.put, List.setIfInBounds_toArray, List.set_cons_zero, List.set_cons_succ]
            refine wpAnyH_ready (rs := [12]) (by kernel_rfl) (by simp) ?_
            refine AllReadyH.cons rfl (fun K hK => ?_) AllReadyH.nil
            go_simp
            refine hK.out _ _ HSc.out (fun _ => ?_)
            clear hK K
            refine wpAnyH_done (by kernel_rfl) ?_ _
            clear c0 c0a c2 fz HS1 HSa HSb HSc
            go_wp2_with fail
            refine ⟨⟨k + 1, _, by omega, by go_num, hide ⟨HBB.out.trans HBnB.out, HRnB.out, ?_, fun j r hj => by have := set_short HSHB.out hrB k naB ncB j r hj; omega⟩⟩, by simp [intOf]; omega⟩
            rw [add_is HISB.out hrB]
            show _ = rdStep (rdTo ns k) (ndAt ns k) k
            rw [HND.out]; rfl
        · go_simp
          refine hK.out _ _ HSa.out (fun _ => ?_)
          clear hK K
          refine wpAnyH_ready (rs := [7]) (by kernel_rfl) (by simp) ?_
          refine AllReadyH.cons rfl (fun K hK => ?_) AllReadyH.nil
          go_simp
          refine hK.out _ _ HSa.out (fun _ => ?_)
          clear hK K
          refine wpAnyH_ready (rs := [10]) (by kernel_rfl) (by simp) ?_
          refine AllReadyH.cons rfl (fun K hK => ?_) AllReadyH.nil
          refine (if_pos (by kernel_rfl)).mpr ?_
          refine wp_append_run happ _ _ rfl rfl rfl ?_
          simp only [Act.put, List.setIfInBounds_toArray, List.set_cons_zero, List.set_cons_succ, List.getElem_toArray, List.getElem_cons_succ, List.getElem_cons_zero]
          refine hK.out _ _ HSb.out (fun _ => ?_)
          clear hK K happ
          refine wpAnyH_take (i := 11) (oi := ⟨some 61, _, _, _, _, _⟩) (v := .pointer (some ⟨w.heap.size, j, none⟩)) rfl (by kernel_rfl) (by kernel_rfl) (by kernel_rfl) (fun _ _ _ h => h) (Or.inl ⟨by rfl, fun W hS => by (have s0 := hS; go_simp)⟩) HSb.out ?_
          simp only [Act.put, List.setIfInBounds_toArray, List.set_cons_zero, List.set_cons_succ]
          refine wpAnyH_ready (rs := [12]) (by kernel_rfl) (by simp) ?_
          refine AllReadyH.cons rfl (fun K hK => ?_) AllReadyH.nil
          go_simp
          refine hK.out _ _ HSc.out (fun _ => ?_)
          clear hK K
          refine wpAnyH_done (by kernel_rfl) ?_ _
          clear c0 c0a c2 fz HS1 HSa HSb HSc HS0
          have HLENB : Hid ((rs.set j ⟨naA, ncA, rA.l ++ [(k : Int)]⟩).length = ns.length) := hide (by rw [List.length_set]; exact HLENA.out)
          have HSHB := hide (set_short HSHA.out hrA k naA ncA)
          have HISB := hide (add_is HISA.out hrA k naA ncA)
          go_wp2_with fail
          have HRB : Hid (RdsAt w.heap.size _ w.heap.size (rs.set j ⟨naA, ncA, rA.l ++ [(k : Int)]⟩)) := hide (HRnA.out.below (Below.refl _ _).drew)
          have HBB := hide ((HBA.out.trans HBnA.out).drew)
          have HXB : Hid ((w2A.setCell ⟨w.heap.size, j, none⟩ (.slice naA (rA.l.length + 1) ncA)).drew.heap[wr.heap.size]? = some (.cells #[.int .i64 6, .int .i64 j, .int .i64 i, .int .i64 nx] 26 (0, 0))) := hide HX3A.out
          have HS0 : Hid ((fun W : World => W.cell? ⟨wr.heap.size, 2, none⟩ = some (.int .i64 i)) (w2A.setCell ⟨w.heap.size, j, none⟩ (.slice naA (rA.l.length + 1) ncA)).drew) := hide (by (show World.cell? _ _ = _; rw [blk_cell HXB.out]; rfl))
          refine wp_region_held_drew (S := (fun W : World => W.cell? ⟨wr.heap.size, 2, none⟩ = some (.int .i64 i))) (by kernel_rfl) HS0.out (fun _ => ?_)
          clear HRnA HBnA HX2A HX3A HXaA
          generalize hRS : rs.set j ⟨naA, ncA, rA.l ++ [(k : Int)]⟩ = rsB at *
          generalize (w2A.setCell ⟨w.heap.size, j, none⟩ (.slice naA (rA.l.length + 1) ncA)).drew = wb at *
          clear HRA HBA HSHA HISA HXA HLENA hrA hshA HSA hRS
          obtain ⟨rB, hrB⟩ := at_some (j := i) HLENB.out (by omega)
          have hshB := HSHB.out i rB hrB
          have HSB : Hid (∀ W : World, W.heap[wr.heap.size]? = some (.cells #[.int .i64 6, .int .i64 j, .int .i64 i, .int .i64 nx] 26 (0, 0)) → (fun W : World => W.cell? ⟨wr.heap.size, 2, none⟩ = some (.int .i64 i)) W) := hide fun W h0 => by (show W.cell? _ = _; rw [blk_cell h0]; rfl)
          obtain ⟨naB, ncB, w2B, happ, hRB, hrd, hbel, htyp⟩ := HRB.out.push hrB (by omega) (by have := HBB.out.size; omega) k
          have HRnB := hide hrd
          have HBnB := hide (hbel w.heap.size (Nat.le_refl _) (Nat.le_refl _))
          have HX2B := hide (htyp _ _ _ _ HXB.out (by decide))
          have HX3B : Hid ((w2B.setCell ⟨w.heap.size, i, none⟩ (.slice naB (rB.l.length + 1) ncB)).heap[wr.heap.size]? = some (.cells #[.int .i64 6, .int .i64 j, .int .i64 i, .int .i64 nx] 26 (0, 0))) := hide ((Below.heap_setCell w2B ⟨w.heap.size, i, none⟩ _ _ (by show wr.heap.size ≠ w.heap.size; omega)).trans HX2B.out)
          have HXaB : Hid ((wb.alloc (.cells #[.int .i64 k] 3)).heap[wr.heap.size]? = some (.cells #[.int .i64 6, .int .i64 j, .int .i64 i, .int .i64 nx] 26 (0, 0))) := hide (Below.blk (below_alloc _ _) HXB.out)
          have c0 := rw_cell HRB.out.outer hrB
          have c0a := cell_alloc c0 (.cells #[.int .i64 k] 3)
          have c2 := rw_cell hRB hrB
          have fz := blk_frozen hRB i
          have HS1 := hide (HSB.out _ HXB.out)
          have HSa := hide (HSB.out _ HXaB.out)
          have HSb := hide (HSB.out _ HX2B.out)
          have HSc := hide (HSB.out _ HX3B.out)
          clear hrd hbel htyp hRB
          refine wpAnyH_take (i := 0) (oi := ⟨some 62, _, _, _, _, _⟩) (v := .slice (some ⟨w.heap.size, 0, none⟩) ns.length ns.length) rfl (by kernel_rfl) (by kernel_rfl) (by kernel_rfl) (fun _ _ _ h => h) (Or.inl ⟨by rfl, fun W hS => by (have s0 := hS; go_simp)⟩) HS1.out ?_
          simp only [Act.put, List.setIfInBounds_toArray, List.set_cons_zero, List.set_cons_succ]
          refine wpAnyH_take (i := 1) (oi := ⟨some 63, _, _, _, _, _⟩) (v := .pointer (some ⟨wr.heap.size, 2, none⟩)) rfl (by kernel_rfl) (by kernel_rfl) (by kernel_rfl) (fun _ _ _ h => h) (Or.inl ⟨by rfl, fun W hS => by (have s0 := hS; go_simp)⟩) HS1.out ?_
          simp only [Act.put, List.setIfInBounds_toArray, List.set_cons_zero, List.set_cons_succ]
          refine wpAnyH_take (i := 2) (oi := ⟨some 64, _, _, _, _, _⟩) (v := .int .i64 i) rfl (by kernel_rfl) (by kernel_rfl) (by kernel_rfl) (fun _ _ _ h => h) (Or.inl ⟨by rfl, fun W hS => by (have s0 := hS; go_simp)⟩) HS1.out ?_
          simp only [Act.put, List.setIfInBounds_toArray, List.set_cons_zero, List.set_cons_succ]
          refine wpAnyH_take (i := 3) (oi := ⟨some 65, _, _, _, _, _⟩) (v := .slice (some ⟨w.heap.size, 0, none⟩) ns.length ns.length) rfl (by kernel_rfl) (by kernel_rfl) (by kernel_rfl) (fun _ _ _ h => h) (Or.inl ⟨by rfl, fun W hS => by (have s0 := hS; go_simp)⟩) HS1.out ?_
          simp only [Act.put, List.setIfInBounds_toArray, List.set_cons_zero, List.set_cons_succ]
          refine wpAnyH_take (i := 4) (oi := ⟨some 66, _, _, _, _, _⟩) (v := .pointer (some ⟨wr.heap.size, 2, none⟩)) rfl (by kernel_rfl) (by kernel_rfl) (by kernel_rfl) (fun _ _ _ h => h) (Or.inl ⟨by rfl, fun W hS => by (have s0 := hS; go_simp)⟩) HS1.out ?_
          simp only [Act.put, List.setIfInBounds_toArray, List.set_cons_zero, List.set_cons_succ]
          refine wpAnyH_take (i := 5) (oi := ⟨some 67, _, _, _, _, _⟩) (v := .int .i64 i) rfl (by kernel_rfl) (by kernel_rfl) (by kernel_rfl) (fun _ _ _ h => h) (Or.inl ⟨by rfl, fun W hS => by (have s0 := hS; go_simp)⟩) HS1.out ?_
          simp only [Act.put, List.setIfInBounds_toArray, List.set_cons_zero, List.set_cons_succ]
          refine wpAnyH_take (i := 6) (oi := ⟨some 68, _, _, _, _, _⟩) (v := .pointer (some ⟨w.heap.size, i, none⟩)) rfl (by kernel_rfl) (by kernel_rfl) (by kernel_rfl) (fun _ _ _ h => h) (Or.inl ⟨by rfl, fun W hS => by (have s0 := hS; go_simp)⟩) HS1.out ?_
          simp only [Act.put, List.setIfInBounds_toArray, List.set_cons_zero, List.set_cons_succ]
          refine wpAnyH_take (i := 8) (oi := ⟨some 70, _, _, _, _, _⟩) (v := .int .i64 k) rfl (by kernel_rfl) (by kernel_rfl) (by kernel_rfl) (fun _ _ _ h => h) (Or.inl ⟨by rfl, fun W hS => by (have s0 := hS; go_simp)⟩) HS1.out ?_
          simp only [Act.put, List.setIfInBounds_toArray, List.set_cons_zero, List.set_cons_succ]
          refine wpAnyH_ready (rs := [7, 9]) (by kernel_rfl) (by simp) ?_
          refine AllReadyH.cons rfl (fun K hK => ?_) (AllReadyH.cons rfl (fun K hK => ?_) AllReadyH.nil)
          · go_simp
            refine hK.out _ _ HS1.out (fun _ => ?_)
            clear hK K
            refine wpAnyH_ready (rs := [9]) (by kernel_rfl) (by simp) ?_
            refine AllReadyH.cons rfl (fun K hK => ?_) AllReadyH.nil
            go_simp
            refine hK.out _ _ HSa.out (fun _ => ?_)
            clear hK K
            refine wpAnyH_ready (rs := [10]) (by kernel_rfl) (by simp) ?_
            refine AllReadyH.cons rfl (fun K hK => ?_) AllReadyH.nil
            refine (if_pos (by kernel_rfl)).mpr ?_
            refine wp_append_run happ _ _ rfl rfl rfl ?_
            simp only [Act.put, List.setIfInBounds_toArray, List.set_cons_zero, List.set_cons_succ, List.getElem_toArray, List.getElem_cons_succ, List.getElem_cons_zero]
            refine hK.out _ _ HSb.out (fun _ => ?_)
            clear hK K happ
            refine wpAnyH_take (i := 11) (oi := ⟨some 73, _, _, _, _, _⟩) (v := .pointer (some ⟨w.heap.size, i, none⟩)) rfl (by kernel_rfl) (by kernel_rfl) (by kernel_rfl) (fun _ _ _ h => h) (Or.inl ⟨by rfl, fun W hS => by (have s0 := hS; go_simp)⟩) HSb.out ?_
            simp only [Act.put, List.setIfInBounds_toArray, List.set_cons_zero, List.set_cons_succ]
            refine wpAnyH_ready (rs := [12]) (by kernel_rfl) (by simp) ?_
            refine AllReadyH.cons rfl (fun K hK => ?_) AllReadyH.nil
            go_simp
            refine hK.out _ _ HSc.out (fun _ => ?_)
            clear hK K
            refine wpAnyH_done (by kernel_rfl) ?_ _
            clear c0 c0a c2 fz HS1 HSa HSb HSc
            go_wp2_with fail
            refine ⟨⟨k + 1, _, by omega, by go_num, hide ⟨HBB.out.trans HBnB.out, HRnB.out, ?_, fun j r hj => by have := set_short HSHB.out hrB k naB ncB j r hj; omega⟩⟩, by simp [intOf]; omega⟩
            rw [add_is HISB.out hrB]
            show _ = rdStep (rdTo ns k) (ndAt ns k) k
            rw [HND.out]; rfl
          · go_simp
            refine hK.out _ _ HSa.out (fun _ => ?_)
            clear hK K
            refine wpAnyH_ready (rs := [7]) (by kernel_rfl) (by simp) ?_
            refine AllReadyH.cons rfl (fun K hK => ?_) AllReadyH.nil
            go_simp
            refine hK.out _ _ HSa.out (fun _ => ?_)
            clear hK K
            refine wpAnyH_ready (rs := [10]) (by kernel_rfl) (by simp) ?_
            refine AllReadyH.cons rfl (fun K hK => ?_) AllReadyH.nil
            refine (if_pos (by kernel_rfl)).mpr ?_
            refine wp_append_run happ _ _ rfl rfl rfl ?_
            simp only [Act.put, List.setIfInBounds_toArray, List.set_cons_zero, List.set_cons_succ, List.getElem_toArray, List.getElem_cons_succ, List.getElem_cons_zero]
            refine hK.out _ _ HSb.out (fun _ => ?_)
            clear hK K happ
            refine wpAnyH_take (i := 11) (oi := ⟨some 73, _, _, _, _, _⟩) (v := .pointer (some ⟨w.heap.size, i, none⟩)) rfl (by kernel_rfl) (by kernel_rfl) (by kernel_rfl) (fun _ _ _ h => h) (Or.inl ⟨by rfl, fun W hS => by (have s0 := hS; go_simp)⟩) HSb.out ?_
            simp only [Act.put, List.setIfInBounds_toArray, List.set_cons_zero, List.set_cons_succ]
            refine wpAnyH_ready (rs := [12]) (by kernel_rfl) (by simp) ?_
            refine AllReadyH.cons rfl (fun K hK => ?_) AllReadyH.nil
            go_simp
            refine hK.out _ _ HSc.out (fun _ => ?_)
            clear hK K
            refine wpAnyH_done (by kernel_rfl) ?_ _
            clear c0 c0a c2 fz HS1 HSa HSb HSc
            go_wp2_with fail
            refine ⟨⟨k + 1, _, by omega, by go_num, hide ⟨HBB.out.trans HBnB.out, HRnB.out, ?_, fun j r hj => by have := set_short HSHB.out hrB k naB ncB j r hj; omega⟩⟩, by simp [intOf]; omega⟩
            rw [add_is HISB.out hrB]
            show _ = rdStep (rdTo ns k) (ndAt ns k) k
            rw [HND.out]; rfl
      · obtain ⟨h1, h2⟩ := Bool.and_eq_true_iff.1 (show (inR a k && inR bb k) = true from HRN.out)
        obtain ⟨j, rfl⟩ := Int.eq_ofNat_of_zero_le (inR_iff.1 h1).1
        obtain ⟨i, rfl⟩ := Int.eq_ofNat_of_zero_le (inR_iff.1 h2).1
        have hjl : j < ns.length := by have := (inR_iff.1 h1).2; omega
        have hil : i < ns.length := by have := (inR_iff.1 h2).2; omega
        clear h1 h2
        have hii : (i : Int) < (ns.length : Int) := by omega
        have hji : (j : Int) < (ns.length : Int) := by omega
        go_wp2_with fail
        have HXA : Hid ((wr.alloc (.cells #[.int .i64 7, .int .i64 j, .int .i64 i, .int .i64 nx] 26)).drew.heap[wr.heap.size]? = some (.cells #[.int .i64 7, .int .i64 j, .int .i64 i, .int .i64 nx] 26 (0, 0))) := hide HX1.out
        have HRA := hide (hc.out.rows.below HB1.out.drew)
        have HBA := hide (hc.out.below.trans (HB1.out.drew.mono hc.out.below.size))
        have HLENA := hide HLEN.out
        have HSHA := hide hc.out.short
        have HISA := hide hc.out.is
        have HS0 : Hid ((fun W : World => W.cell? ⟨wr.heap.size, 1, none⟩ = some (.int .i64 j)) (wr.alloc (.cells #[.int .i64 7, .int .i64 j, .int .i64 i, .int .i64 nx] 26)).drew) := hide (by (show World.cell? _ _ = _; rw [blk_cell HXA.out]; rfl))
        clear n0 n1 n2 n3 HX1 HB1
        refine wp_region_held_drew (S := (fun W : World => W.cell? ⟨wr.heap.size, 1, none⟩ = some (.int .i64 j))) (by kernel_rfl) HS0.out (fun _ => ?_)
        generalize (wr.alloc (.cells #[.int .i64 7, .int .i64 j, .int .i64 i, .int .i64 nx] 26)).drew = wa at *
        obtain ⟨rA, hrA⟩ := at_some (j := j) HLENA.out (by omega)
        have hshA := HSHA.out j rA hrA
        have HSA : Hid (∀ W : World, W.heap[wr.heap.size]? = some (.cells #[.int .i64 7, .int .i64 j, .int .i64 i, .int .i64 nx] 26 (0, 0)) → (fun W : World => W.cell? ⟨wr.heap.size, 1, none⟩ = some (.int .i64 j)) W) := hide fun W h0 => by (show W.cell? _ = _; rw [blk_cell h0]; rfl)
        obtain ⟨naA, ncA, w2A, happ, hRB, hrd, hbel, htyp⟩ := HRA.out.push hrA (by omega) (by have := HBA.out.size; omega) k
        have HRnA := hide hrd
        have HBnA := hide (hbel w.heap.size (Nat.le_refl _) (Nat.le_refl _))
        have HX2A := hide (htyp _ _ _ _ HXA.out (by decide))
        have HX3A : Hid ((w2A.setCell ⟨w.heap.size, j, none⟩ (.slice naA (rA.l.length + 1) ncA)).heap[wr.heap.size]? = some (.cells #[.int .i64 7, .int .i64 j, .int .i64 i, .int .i64 nx] 26 (0, 0))) := hide ((Below.heap_setCell w2A ⟨w.heap.size, j, none⟩ _ _ (by show wr.heap.size ≠ w.heap.size; omega)).trans HX2A.out)
        have HXaA : Hid ((wa.alloc (.cells #[.int .i64 k] 3)).heap[wr.heap.size]? = some (.cells #[.int .i64 7, .int .i64 j, .int .i64 i, .int .i64 nx] 26 (0, 0))) := hide (Below.blk (below_alloc _ _) HXA.out)
        have c0 := rw_cell HRA.out.outer hrA
        have c0a := cell_alloc c0 (.cells #[.int .i64 k] 3)
        have c2 := rw_cell hRB hrA
        have fz := blk_frozen hRB j
        have HS1 := hide (HSA.out _ HXA.out)
        have HSa := hide (HSA.out _ HXaA.out)
        have HSb := hide (HSA.out _ HX2A.out)
        have HSc := hide (HSA.out _ HX3A.out)
        clear hrd hbel htyp hRB
        refine wpAnyH_take (i := 0) (oi := ⟨some 50, _, _, _, _, _⟩) (v := .slice (some ⟨w.heap.size, 0, none⟩) ns.length ns.length) rfl (by kernel_rfl) (by kernel_rfl) (by kernel_rfl) (fun _ _ _ h => h) (Or.inl ⟨by rfl, fun W hS => by (have s0 := hS; go_simp)⟩) HS1.out ?_
        simp only [Act.put, List.setIfInBounds_toArray, List.set_cons_zero, List.set_cons_succ]
        refine wpAnyH_take (i := 1) (oi := ⟨some 51, _, _, _, _, _⟩) (v := .pointer (some ⟨wr.heap.size, 1, none⟩)) rfl (by kernel_rfl) (by kernel_rfl) (by kernel_rfl) (fun _ _ _ h => h) (Or.inl ⟨by rfl, fun W hS => by (have s0 := hS; go_simp)⟩) HS1.out ?_
        simp only [Act.put, List.setIfInBounds_toArray, List.set_cons_zero, List.set_cons_succ]
        refine wpAnyH_take (i := 2) (oi := ⟨some 52, _, _, _, _, _⟩) (v := .int .i64 j) rfl (by kernel_rfl) (by kernel_rfl) (by kernel_rfl) (fun _ _ _ h => h) (Or.inl ⟨by rfl, fun W hS => by (have s0 := hS; go_simp)⟩) HS1.out ?_
        simp only [Act.put, List.setIfInBounds_toArray, List.set_cons_zero, List.set_cons_succ]
        refine wpAnyH_take (i := 3) (oi := ⟨some 53, _, _, _, _, _⟩) (v := .slice (some ⟨w.heap.size, 0, none⟩) ns.length ns.length) rfl (by kernel_rfl) (by kernel_rfl) (by kernel_rfl) (fun _ _ _ h => h) (Or.inl ⟨by rfl, fun W hS => by (have s0 := hS; go_simp)⟩) HS1.out ?_
        simp only [Act.put, List.setIfInBounds_toArray, List.set_cons_zero, List.set_cons_succ]
        refine wpAnyH_take (i := 4) (oi := ⟨some 54, _, _, _, _, _⟩) (v := .pointer (some ⟨wr.heap.size, 1, none⟩)) rfl (by kernel_rfl) (by kernel_rfl) (by kernel_rfl) (fun _ _ _ h => h) (Or.inl ⟨by rfl, fun W hS => by (have s0 := hS; go_simp)⟩) HS1.out ?_
        simp only [Act.put, List.setIfInBounds_toArray, List.set_cons_zero, List.set_cons_succ]
        refine wpAnyH_take (i := 5) (oi := ⟨some 55, _, _, _, _, _⟩) (v := .int .i64 j) rfl (by kernel_rfl) (by kernel_rfl) (by kernel_rfl) (fun _ _ _ h => h) (Or.inl ⟨by rfl, fun W hS => by (have s0 := hS; go_simp)⟩) HS1.out ?_
        simp only [Act.put, List.setIfInBounds_toArray, List.set_cons_zero, List.set_cons_succ]
        refine wpAnyH_take (i := 6) (oi := ⟨some 56, _, _, _, _, _⟩) (v := .pointer (some ⟨w.heap.size, j, none⟩)) rfl (by kernel_rfl) (by kernel_rfl) (by kernel_rfl) (fun _ _ _ h => h) (Or.inl ⟨by rfl, fun W hS => by (have s0 := hS; go_simp)⟩) HS1.out ?_
        simp only [Act.put, List.setIfInBounds_toArray, List.set_cons_zero, List.set_cons_succ]
        refine wpAnyH_take (i := 8) (oi := ⟨some 58, _, _, _, _, _⟩) (v := .int .i64 k) rfl (by kernel_rfl) (by kernel_rfl) (by kernel_rfl) (fun _ _ _ h => h) (Or.inl ⟨by rfl, fun W hS => by (have s0 := hS; go_simp)⟩) HS1.out ?_
        simp only [Act.put, List.setIfInBounds_toArray, List.set_cons_zero, List.set_cons_succ]
        refine wpAnyH_ready (rs := [7, 9]) (by kernel_rfl) (by simp) ?_
        refine AllReadyH.cons rfl (fun K hK => ?_) (AllReadyH.cons rfl (fun K hK => ?_) AllReadyH.nil)
        · go_simp
          refine hK.out _ _ HS1.out (fun _ => ?_)
          clear hK K
          refine wpAnyH_ready (rs := [9]) (by kernel_rfl) (by simp) ?_
          refine AllReadyH.cons rfl (fun K hK => ?_) AllReadyH.nil
          go_simp
          refine hK.out _ _ HSa.out (fun _ => ?_)
          clear hK K
          refine wpAnyH_ready (rs := [10]) (by kernel_rfl) (by simp) ?_
          refine AllReadyH.cons rfl (fun K hK => ?_) AllReadyH.nil
          refine (if_pos (by kernel_rfl)).mpr ?_
          refine wp_append_run happ _ _ rfl rfl rfl ?_
          simp only [Act.put, List.setIfInBounds_toArray, List.set_cons_zero, List.set_cons_succ, List.getElem_toArray, List.getElem_cons_succ, List.getElem_cons_zero]
          refine hK.out _ _ HSb.out (fun _ => ?_)
          clear hK K happ
          refine wpAnyH_take (i := 11) (oi := ⟨some 61, _, _, _, _, _⟩) (v := .pointer (some ⟨w.heap.size, j, none⟩)) rfl (by kernel_rfl) (by kernel_rfl) (by kernel_rfl) (fun _ _ _ h => h) (Or.inl ⟨by rfl, fun W hS => by (have s0 := hS; go_simp)⟩) HSb.out ?_
          simp only [Act.put, List.setIfInBounds_toArray, List.set_cons_zero, List.set_cons_succ]
          refine wpAnyH_ready (rs := [12]) (by kernel_rfl) (by simp) ?_
          refine AllReadyH.cons rfl (fun K hK => ?_) AllReadyH.nil
          go_simp
          refine hK.out _ _ HSc.out (fun _ => ?_)
          clear hK K
          refine wpAnyH_done (by kernel_rfl) ?_ _
          clear c0 c0a c2 fz HS1 HSa HSb HSc HS0
          have HLENB : Hid ((rs.set j ⟨naA, ncA, rA.l ++ [(k : Int)]⟩).length = ns.length) := hide (by rw [List.length_set]; exact HLENA.out)
          have HSHB := hide (set_short HSHA.out hrA k naA ncA)
          have HISB := hide (add_is HISA.out hrA k naA ncA)
          go_wp2_with fail
          have HRB : Hid (RdsAt w.heap.size _ w.heap.size (rs.set j ⟨naA, ncA, rA.l ++ [(k : Int)]⟩)) := hide (HRnA.out.below (Below.refl _ _).drew)
          have HBB := hide ((HBA.out.trans HBnA.out).drew)
          have HXB : Hid ((w2A.setCell ⟨w.heap.size, j, none⟩ (.slice naA (rA.l.length + 1) ncA)).drew.heap[wr.heap.size]? = some (.cells #[.int .i64 7, .int .i64 j, .int .i64 i, .int .i64 nx] 26 (0, 0))) := hide HX3A.out
          have HS0 : Hid ((fun W : World => W.cell? ⟨wr.heap.size, 2, none⟩ = some (.int .i64 i)) (w2A.setCell ⟨w.heap.size, j, none⟩ (.slice naA (rA.l.length + 1) ncA)).drew) := hide (by (show World.cell? _ _ = _; rw [blk_cell HXB.out]; rfl))
          refine wp_region_held_drew (S := (fun W : World => W.cell? ⟨wr.heap.size, 2, none⟩ = some (.int .i64 i))) (by kernel_rfl) HS0.out (fun _ => ?_)
          clear HRnA HBnA HX2A HX3A HXaA
          generalize hRS : rs.set j ⟨naA, ncA, rA.l ++ [(k : Int)]⟩ = rsB at *
          generalize (w2A.setCell ⟨w.heap.size, j, none⟩ (.slice naA (rA.l.length + 1) ncA)).drew = wb at *
          clear HRA HBA HSHA HISA HXA HLENA hrA hshA HSA hRS
          obtain ⟨rB, hrB⟩ := at_some (j := i) HLENB.out (by omega)
          have hshB := HSHB.out i rB hrB
          have HSB : Hid (∀ W : World, W.heap[wr.heap.size]? = some (.cells #[.int .i64 7, .int .i64 j, .int .i64 i, .int .i64 nx] 26 (0, 0)) → (fun W : World => W.cell? ⟨wr.heap.size, 2, none⟩ = some (.int .i64 i)) W) := hide fun W h0 => by (show W.cell? _ = _; rw [blk_cell h0]; rfl)
          obtain ⟨naB, ncB, w2B, happ, hRB, hrd, hbel, htyp⟩ := HRB.out.push hrB (by omega) (by have := HBB.out.size; omega) k
          have HRnB := hide hrd
          have HBnB := hide (hbel w.heap.size (Nat.le_refl _) (Nat.le_refl _))
          have HX2B := hide (htyp _ _ _ _ HXB.out (by decide))
          have HX3B : Hid ((w2B.setCell ⟨w.heap.size, i, none⟩ (.slice naB (rB.l.length + 1) ncB)).heap[wr.heap.size]? = some (.cells #[.int .i64 7, .int .i64 j, .int .i64 i, .int .i64 nx] 26 (0, 0))) := hide ((Below.heap_setCell w2B ⟨w.heap.size, i, none⟩ _ _ (by show wr.heap.size ≠ w.heap.size; omega)).trans HX2B.out)
          have HXaB : Hid ((wb.alloc (.cells #[.int .i64 k] 3)).heap[wr.heap.size]? = some (.cells #[.int .i64 7, .int .i64 j, .int .i64 i, .int .i64 nx] 26 (0, 0))) := hide (Below.blk (below_alloc _ _) HXB.out)
          have c0 := rw_cell HRB.out.outer hrB
          have c0a := cell_alloc c0 (.cells #[.int .i64 k] 3)
          have c2 := rw_cell hRB hrB
          have fz := blk_frozen hRB i
          have HS1 := hide (HSB.out _ HXB.out)
          have HSa := hide (HSB.out _ HXaB.out)
          have HSb := hide (HSB.out _ HX2B.out)
          have HSc := hide (HSB.out _ HX3B.out)
          clear hrd hbel htyp hRB
          refine wpAnyH_take (i := 0) (oi := ⟨some 62, _, _, _, _, _⟩) (v := .slice (some ⟨w.heap.size, 0, none⟩) ns.length ns.length) rfl (by kernel_rfl) (by kernel_rfl) (by kernel_rfl) (fun _ _ _ h => h) (Or.inl ⟨by rfl, fun W hS => by (have s0 := hS; go_simp)⟩) HS1.out ?_
          simp only [Act.put, List.setIfInBounds_toArray, List.set_cons_zero, List.set_cons_succ]
          refine wpAnyH_take (i := 1) (oi := ⟨some 63, _, _, _, _, _⟩) (v := .pointer (some ⟨wr.heap.size, 2, none⟩)) rfl (by kernel_rfl) (by kernel_rfl) (by kernel_rfl) (fun _ _ _ h => h) (Or.inl ⟨by rfl, fun W hS => by (have s0 := hS; go_simp)⟩) HS1.out ?_
          simp only [Act.put, List.setIfInBounds_toArray, List.set_cons_zero, List.set_cons_succ]
          refine wpAnyH_take (i := 2) (oi := ⟨some 64, _, _, _, _, _⟩) (v := .int .i64 i) rfl (by kernel_rfl) (by kernel_rfl) (by kernel_rfl) (fun _ _ _ h => h) (Or.inl ⟨by rfl, fun W hS => by (have s0 := hS; go_simp)⟩) HS1.out ?_
          simp only [Act.put, List.setIfInBounds_toArray, List.set_cons_zero, List.set_cons_succ]
          refine wpAnyH_take (i := 3) (oi := ⟨some 65, _, _, _, _, _⟩) (v := .slice (some ⟨w.heap.size, 0, none⟩) ns.length ns.length) rfl (by kernel_rfl) (by kernel_rfl) (by kernel_rfl) (fun _ _ _ h => h) (Or.inl ⟨by rfl, fun W hS => by (have s0 := hS; go_simp)⟩) HS1.out ?_
          simp only [Act.put, List.setIfInBounds_toArray, List.set_cons_zero, List.set_cons_succ]
          refine wpAnyH_take (i := 4) (oi := ⟨some 66, _, _, _, _, _⟩) (v := .pointer (some ⟨wr.heap.size, 2, none⟩)) rfl (by kernel_rfl) (by kernel_rfl) (by kernel_rfl) (fun _ _ _ h => h) (Or.inl ⟨by rfl, fun W hS => by (have s0 := hS; go_simp)⟩) HS1.out ?_
          simp only [Act.put, List.setIfInBounds_toArray, List.set_cons_zero, List.set_cons_succ]
          refine wpAnyH_take (i := 5) (oi := ⟨some 67, _, _, _, _, _⟩) (v := .int .i64 i) rfl (by kernel_rfl) (by kernel_rfl) (by kernel_rfl) (fun _ _ _ h => h) (Or.inl ⟨by rfl, fun W hS => by (have s0 := hS; go_simp)⟩) HS1.out ?_
          simp only [Act.put, List.setIfInBounds_toArray, List.set_cons_zero, List.set_cons_succ]
          refine wpAnyH_take (i := 6) (oi := ⟨some 68, _, _, _, _, _⟩) (v := .pointer (some ⟨w.heap.size, i, none⟩)) rfl (by kernel_rfl) (by kernel_rfl) (by kernel_rfl) (fun _ _ _ h => h) (Or.inl ⟨by rfl, fun W hS => by (have s0 := hS; go_simp)⟩) HS1.out ?_
          simp only [Act.put, List.setIfInBounds_toArray, List.set_cons_zero, List.set_cons_succ]
          refine wpAnyH_take (i := 8) (oi := ⟨some 70, _, _, _, _, _⟩) (v := .int .i64 k) rfl (by kernel_rfl) (by kernel_rfl) (by kernel_rfl) (fun _ _ _ h => h) (Or.inl ⟨by rfl, fun W hS => by (have s0 := hS; go_simp)⟩) HS1.out ?_
          simp only [Act.put, List.setIfInBounds_toArray, List.set_cons_zero, List.set_cons_succ]
          refine wpAnyH_ready (rs := [7, 9]) (by kernel_rfl) (by simp) ?_
          refine AllReadyH.cons rfl (fun K hK => ?_) (AllReadyH.cons rfl (fun K hK => ?_) AllReadyH.nil)
          · go_simp
            refine hK.out _ _ HS1.out (fun _ => ?_)
            clear hK K
            refine wpAnyH_ready (rs := [9]) (by kernel_rfl) (by simp) ?_
            refine AllReadyH.cons rfl (fun K hK => ?_) AllReadyH.nil
            go_simp
            refine hK.out _ _ HSa.out (fun _ => ?_)
            clear hK K
            refine wpAnyH_ready (rs := [10]) (by kernel_rfl) (by simp) ?_
            refine AllReadyH.cons rfl (fun K hK => ?_) AllReadyH.nil
            refine (if_pos (by kernel_rfl)).mpr ?_
            refine wp_append_run happ _ _ rfl rfl rfl ?_
            simp only [Act.put, List.setIfInBounds_toArray, List.set_cons_zero, List.set_cons_succ, List.getElem_toArray, List.getElem_cons_succ, List.getElem_cons_zero]
            refine hK.out _ _ HSb.out (fun _ => ?_)
            clear hK K happ
            refine wpAnyH_take (i := 11) (oi := ⟨some 73, _, _, _, _, _⟩) (v := .pointer (some ⟨w.heap.size, i, none⟩)) rfl (by kernel_rfl) (by kernel_rfl) (by kernel_rfl) (fun _ _ _ h => h) (Or.inl ⟨by rfl, fun W hS => by (have s0 := hS; go_simp)⟩) HSb.out ?_
            simp only [Act.put, List.setIfInBounds_toArray, List.set_cons_zero, List.set_cons_succ]
            refine wpAnyH_ready (rs := [12]) (by kernel_rfl) (by simp) ?_
            refine AllReadyH.cons rfl (fun K hK => ?_) AllReadyH.nil
            go_simp
            refine hK.out _ _ HSc.out (fun _ => ?_)
            clear hK K
            refine wpAnyH_done (by kernel_rfl) ?_ _
            clear c0 c0a c2 fz HS1 HSa HSb HSc
            go_wp2_with fail
            refine ⟨⟨k + 1, _, by omega, by go_num, hide ⟨HBB.out.trans HBnB.out, HRnB.out, ?_, fun j r hj => by have := set_short HSHB.out hrB k naB ncB j r hj; omega⟩⟩, by simp [intOf]; omega⟩
            rw [add_is HISB.out hrB]
            show _ = rdStep (rdTo ns k) (ndAt ns k) k
            rw [HND.out]; rfl
          · go_simp
            refine hK.out _ _ HSa.out (fun _ => ?_)
            clear hK K
            refine wpAnyH_ready (rs := [7]) (by kernel_rfl) (by simp) ?_
            refine AllReadyH.cons rfl (fun K hK => ?_) AllReadyH.nil
            go_simp
            refine hK.out _ _ HSa.out (fun _ => ?_)
            clear hK K
            refine wpAnyH_ready (rs := [10]) (by kernel_rfl) (by simp) ?_
            refine AllReadyH.cons rfl (fun K hK => ?_) AllReadyH.nil
            refine (if_pos (by kernel_rfl)).mpr ?_
            refine wp_append_run happ _ _ rfl rfl rfl ?_
            simp only [Act.put, List.setIfInBounds_toArray, List.set_cons_zero, List.set_cons_succ, List.getElem_toArray, List.getElem_cons_succ, List.getElem_cons_zero]
            refine hK.out _ _ HSb.out (fun _ => ?_)
            clear hK K happ
            refine wpAnyH_take (i := 11) (oi := ⟨some 73, _, _, _, _, _⟩) (v := .pointer (some ⟨w.heap.size, i, none⟩)) rfl (by kernel_rfl) (by kernel_rfl) (by kernel_rfl) (fun _ _ _ h => h) (Or.inl ⟨by rfl, fun W hS => by (have s0 := hS; go_simp)⟩) HSb.out ?_
            simp only [Act.put, List.setIfInBounds_toArray, List.set_cons_zero, List.set_cons_succ]
            refine wpAnyH_ready (rs := [12]) (by kernel_rfl) (by simp) ?_
            refine AllReadyH.cons rfl (fun K hK => ?_) AllReadyH.nil
            go_simp
            refine hK.out _ _ HSc.out (fun _ => ?_)
            clear hK K
            refine wpAnyH_done (by kernel_rfl) ?_ _
            clear c0 c0a c2 fz HS1 HSa HSb HSc
            go_wp2_with fail
            refine ⟨⟨k + 1, _, by omega, by go_num, hide ⟨HBB.out.trans HBnB.out, HRnB.out, ?_, fun j r hj => by have := set_short HSHB.out hrB k naB ncB j r hj; omega⟩⟩, by simp [intOf]; omega⟩
            rw [add_is HISB.out hrB]
            show _ = rdStep (rdTo ns k) (ndAt ns k) k
            rw [HND.out]; rfl
        · go_simp
          refine hK.out _ _ HSa.out (fun _ => ?_)
          clear hK K
          refine wpAnyH_ready (rs := [7]) (by kernel_rfl) (by simp) ?_
          refine AllReadyH.cons rfl (fun K hK => ?_) AllReadyH.nil
          go_simp
          refine hK.out _ _ HSa.out (fun _ => ?_)
          clear hK K
          refine wpAnyH_ready (rs := [10]) (by kernel_rfl) (by simp) ?_
          refine AllReadyH.cons rfl (fun K hK => ?_) AllReadyH.nil
          refine (if_pos (by kernel_rfl)).mpr ?_
          refine wp_append_run happ _ _ rfl rfl rfl ?_
          simp only [Act.put, List.setIfInBounds_toArray, List.set_cons_zero, List.set_cons_succ, List.getElem_toArray, List.getElem_cons_succ, List.getElem_cons_zero]
          refine hK.out _ _ HSb.out (fun _ => ?_)
          clear hK K happ
          refine wpAnyH_take (i := 11) (oi := ⟨some 61, _, _, _, _, _⟩) (v := .pointer (some ⟨w.heap.size, j, none⟩)) rfl (by kernel_rfl) (by kernel_rfl) (by kernel_rfl) (fun _ _ _ h => h) (Or.inl ⟨by rfl, fun W hS => by (have s0 := hS; go_simp)⟩) HSb.out ?_
          simp only [Act.put, List.setIfInBounds_toArray, List.set_cons_zero, List.set_cons_succ]
          refine wpAnyH_ready (rs := [12]) (by kernel_rfl) (by simp) ?_
          refine AllReadyH.cons rfl (fun K hK => ?_) AllReadyH.nil
          go_simp
          refine hK.out _ _ HSc.out (fun _ => ?_)
          clear hK K
          refine wpAnyH_done (by kernel_rfl) ?_ _
          clear c0 c0a c2 fz HS1 HSa HSb HSc HS0
          have HLENB : Hid ((rs.set j ⟨naA, ncA, rA.l ++ [(k : Int)]⟩).length = ns.length) := hide (by rw [List.length_set]; exact HLENA.out)
          have HSHB := hide (set_short HSHA.out hrA k naA ncA)
          have HISB := hide (add_is HISA.out hrA k naA ncA)
          go_wp2_with fail
          have HRB : Hid (RdsAt w.heap.size _ w.heap.size (rs.set j ⟨naA, ncA, rA.l ++ [(k : Int)]⟩)) := hide (HRnA.out.below (Below.refl _ _).drew)
          have HBB := hide ((HBA.out.trans HBnA.out).drew)
          have HXB : Hid ((w2A.setCell ⟨w.heap.size, j, none⟩ (.slice naA (rA.l.length + 1) ncA)).drew.heap[wr.heap.size]? = some (.cells #[.int .i64 7, .int .i64 j, .int .i64 i, .int .i64 nx] 26 (0, 0))) := hide HX3A.out
          have HS0 : Hid ((fun W : World => W.cell? ⟨wr.heap.size, 2, none⟩ = some (.int .i64 i)) (w2A.setCell ⟨w.heap.size, j, none⟩ (.slice naA (rA.l.length + 1) ncA)).drew) := hide (by (show World.cell? _ _ = _; rw [blk_cell HXB.out]; rfl))
          refine wp_region_held_drew (S := (fun W : World => W.cell? ⟨wr.heap.size, 2, none⟩ = some (.int .i64 i))) (by kernel_rfl) HS0.out (fun _ => ?_)
          clear HRnA HBnA HX2A HX3A HXaA
          generalize hRS : rs.set j ⟨naA, ncA, rA.l ++ [(k : Int)]⟩ = rsB at *
          generalize (w2A.setCell ⟨w.heap.size, j, none⟩ (.slice naA (rA.l.length + 1) ncA)).drew = wb at *
          clear HRA HBA HSHA HISA HXA HLENA hrA hshA HSA hRS
          obtain ⟨rB, hrB⟩ := at_some (j := i) HLENB.out (by omega)
          have hshB := HSHB.out i rB hrB
          have HSB : Hid (∀ W : World, W.heap[wr.heap.size]? = some (.cells #[.int .i64 7, .int .i64 j, .int .i64 i, .int .i64 nx] 26 (0, 0)) → (fun W : World => W.cell? ⟨wr.heap.size, 2, none⟩ = some (.int .i64 i)) W) := hide fun W h0 => by (show W.cell? _ = _; rw [blk_cell h0]; rfl)
          obtain ⟨naB, ncB, w2B, happ, hRB, hrd, hbel, htyp⟩ := HRB.out.push hrB (by omega) (by have := HBB.out.size; omega) k
          have HRnB := hide hrd
          have HBnB := hide (hbel w.heap.size (Nat.le_refl _) (Nat.le_refl _))
          have HX2B := hide (htyp _ _ _ _ HXB.out (by decide))
          have HX3B : Hid ((w2B.setCell ⟨w.heap.size, i, none⟩ (.slice naB (rB.l.length + 1) ncB)).heap[wr.heap.size]? = some (.cells #[.int .i64 7, .int .i64 j, .int .i64 i, .int .i64 nx] 26 (0, 0))) := hide ((Below.heap_setCell w2B ⟨w.heap.size, i, none⟩ _ _ (by show wr.heap.size ≠ w.heap.size; omega)).trans HX2B.out)
          have HXaB : Hid ((wb.alloc (.cells #[.int .i64 k] 3)).heap[wr.heap.size]? = some (.cells #[.int .i64 7, .int .i64 j, .int .i64 i, .int .i64 nx] 26 (0, 0))) := hide (Below.blk (below_alloc _ _) HXB.out)
          have c0 := rw_cell HRB.out.outer hrB
          have c0a := cell_alloc c0 (.cells #[.int .i64 k] 3)
          have c2 := rw_cell hRB hrB
          have fz := blk_frozen hRB i
          have HS1 := hide (HSB.out _ HXB.out)
          have HSa := hide (HSB.out _ HXaB.out)
          have HSb := hide (HSB.out _ HX2B.out)
          have HSc := hide (HSB.out _ HX3B.out)
          clear hrd hbel htyp hRB
          refine wpAnyH_take (i := 0) (oi := ⟨some 62, _, _, _, _, _⟩) (v := .slice (some ⟨w.heap.size, 0, none⟩) ns.length ns.length) rfl (by kernel_rfl) (by kernel_rfl) (by kernel_rfl) (fun _ _ _ h => h) (Or.inl ⟨by rfl, fun W hS => by (have s0 := hS; go_simp)⟩) HS1.out ?_
          simp only [Act.put, List.setIfInBounds_toArray, List.set_cons_zero, List.set_cons_succ]
          refine wpAnyH_take (i := 1) (oi := ⟨some 63, _, _, _, _, _⟩) (v := .pointer (some ⟨wr.heap.size, 2, none⟩)) rfl (by kernel_rfl) (by kernel_rfl) (by kernel_rfl) (fun _ _ _ h => h) (Or.inl ⟨by rfl, fun W hS => by (have s0 := hS; go_simp)⟩) HS1.out ?_
          simp only [Act.put, List.setIfInBounds_toArray, List.set_cons_zero, List.set_cons_succ]
          refine wpAnyH_take (i := 2) (oi := ⟨some 64, _, _, _, _, _⟩) (v := .int .i64 i) rfl (by kernel_rfl) (by kernel_rfl) (by kernel_rfl) (fun _ _ _ h => h) (Or.inl ⟨by rfl, fun W hS => by (have s0 := hS; go_simp)⟩) HS1.out ?_
          simp only [Act.put, List.setIfInBounds_toArray, List.set_cons_zero, List.set_cons_succ]
          refine wpAnyH_take (i := 3) (oi := ⟨some 65, _, _, _, _, _⟩) (v := .slice (some ⟨w.heap.size, 0, none⟩) ns.length ns.length) rfl (by kernel_rfl) (by kernel_rfl) (by kernel_rfl) (fun _ _ _ h => h) (Or.inl ⟨by rfl, fun W hS => by (have s0 := hS; go_simp)⟩) HS1.out ?_
          simp only [Act.put, List.setIfInBounds_toArray, List.set_cons_zero, List.set_cons_succ]
          refine wpAnyH_take (i := 4) (oi := ⟨some 66, _, _, _, _, _⟩) (v := .pointer (some ⟨wr.heap.size, 2, none⟩)) rfl (by kernel_rfl) (by kernel_rfl) (by kernel_rfl) (fun _ _ _ h => h) (Or.inl ⟨by rfl, fun W hS => by (have s0 := hS; go_simp)⟩) HS1.out ?_
          simp only [Act.put, List.setIfInBounds_toArray, List.set_cons_zero, List.set_cons_succ]
          refine wpAnyH_take (i := 5) (oi := ⟨some 67, _, _, _, _, _⟩) (v := .int .i64 i) rfl (by kernel_rfl) (by kernel_rfl) (by kernel_rfl) (fun _ _ _ h => h) (Or.inl ⟨by rfl, fun W hS => by (have s0 := hS; go_simp)⟩) HS1.out ?_
          simp only [Act.put, List.setIfInBounds_toArray, List.set_cons_zero, List.set_cons_succ]
          refine wpAnyH_take (i := 6) (oi := ⟨some 68, _, _, _, _, _⟩) (v := .pointer (some ⟨w.heap.size, i, none⟩)) rfl (by kernel_rfl) (by kernel_rfl) (by kernel_rfl) (fun _ _ _ h => h) (Or.inl ⟨by rfl, fun W hS => by (have s0 := hS; go_simp)⟩) HS1.out ?_
          simp only [Act.put, List.setIfInBounds_toArray, List.set_cons_zero, List.set_cons_succ]
          refine wpAnyH_take (i := 8) (oi := ⟨some 70, _, _, _, _, _⟩) (v := .int .i64 k) rfl (by kernel_rfl) (by kernel_rfl) (by kernel_rfl) (fun _ _ _ h => h) (Or.inl ⟨by rfl, fun W hS => by (have s0 := hS; go_simp)⟩) HS1.out ?_
          simp only [Act.put, List.setIfInBounds_toArray, List.set_cons_zero, List.set_cons_succ]
          refine wpAnyH_ready (rs := [7, 9]) (by kernel_rfl) (by simp) ?_
          refine AllReadyH.cons rfl (fun K hK => ?_) (AllReadyH.cons rfl (fun K hK => ?_) AllReadyH.nil)
          · go_simp
            refine hK.out _ _ HS1.out (fun _ => ?_)
            clear hK K
            refine wpAnyH_ready (rs := [9]) (by kernel_rfl) (by simp) ?_
            refine AllReadyH.cons rfl (fun K hK => ?_) AllReadyH.nil
            go_simp
            refine hK.out _ _ HSa.out (fun _ => ?_)
            clear hK K
            refine wpAnyH_ready (rs := [10]) (by kernel_rfl) (by simp) ?_
            refine AllReadyH.cons rfl (fun K hK => ?_) AllReadyH.nil
            refine (if_pos (by kernel_rfl)).mpr ?_
            refine wp_append_run happ _ _ rfl rfl rfl ?_
            simp only [Act.put, List.setIfInBounds_toArray, List.set_cons_zero, List.set_cons_succ, List.getElem_toArray, List.getElem_cons_succ, List.getElem_cons_zero]
            refine hK.out _ _ HSb.out (fun _ => ?_)
            clear hK K happ
            refine wpAnyH_take (i := 11) (oi := ⟨some 73, _, _, _, _, _⟩) (v := .pointer (some ⟨w.heap.size, i, none⟩)) rfl (by kernel_rfl) (by kernel_rfl) (by kernel_rfl) (fun _ _ _ h => h) (Or.inl ⟨by rfl, fun W hS => by (have s0 := hS; go_simp)⟩) HSb.out ?_
            simp only [Act.put, List.setIfInBounds_toArray, List.set_cons_zero, List.set_cons_succ]
            refine wpAnyH_ready (rs := [12]) (by kernel_rfl) (by simp) ?_
            refine AllReadyH.cons rfl (fun K hK => ?_) AllReadyH.nil
            go_simp
            refine hK.out _ _ HSc.out (fun _ => ?_)
            clear hK K
            refine wpAnyH_done (by kernel_rfl) ?_ _
            clear c0 c0a c2 fz HS1 HSa HSb HSc
            go_wp2_with fail
            refine ⟨⟨k + 1, _, by omega, by go_num, hide ⟨HBB.out.trans HBnB.out, HRnB.out, ?_, fun j r hj => by have := set_short HSHB.out hrB k naB ncB j r hj; omega⟩⟩, by simp [intOf]; omega⟩
            rw [add_is HISB.out hrB]
            show _ = rdStep (rdTo ns k) (ndAt ns k) k
            rw [HND.out]; rfl
          · go_simp
            refine hK.out _ _ HSa.out (fun _ => ?_)
            clear hK K
            refine wpAnyH_ready (rs := [7]) (by kernel_rfl) (by simp) ?_
            refine AllReadyH.cons rfl (fun K hK => ?_) AllReadyH.nil
            go_simp
            refine hK.out _ _ HSa.out (fun _ => ?_)
            clear hK K
            refine wpAnyH_ready (rs := [10]) (by kernel_rfl) (by simp) ?_
            refine AllReadyH.cons rfl (fun K hK => ?_) AllReadyH.nil
            refine (if_pos (by kernel_rfl)).mpr ?_
            refine wp_append_run happ _ _ rfl rfl rfl ?_
            simp only [Act.put, List.setIfInBounds_toArray, List.set_cons_zero, List.set_cons_succ, List.getElem_toArray, List.getElem_cons_succ, List.getElem_cons_zero]
            refine hK.out _ _ HSb.out (fun _ => ?_)
            clear hK K happ
            refine wpAnyH_take (i := 11) (oi := ⟨some 73, _, _, _, _, _⟩) (v := .pointer (some ⟨w.heap.size, i, none⟩)) rfl (by kernel_rfl) (by kernel_rfl) (by kernel_rfl) (fun _ _ _ h => h) (Or.inl ⟨by rfl, fun W hS => by (have s0 := hS; go_simp)⟩) HSb.out ?_
            simp only [Act.put, List.setIfInBounds_toArray, List.set_cons_zero, List.set_cons_succ]
            refine wpAnyH_ready (rs := [12]) (by kernel_rfl) (by simp) ?_
            refine AllReadyH.cons rfl (fun K hK => ?_) AllReadyH.nil
            go_simp
            refine hK.out _ _ HSc.out (fun _ => ?_)
            clear hK K
            refine wpAnyH_done (by kernel_rfl) ?_ _
            clear c0 c0a c2 fz HS1 HSa HSb HSc
            go_wp2_with fail
            refine ⟨⟨k + 1, _, by omega, by go_num, hide ⟨HBB.out.trans HBnB.out, HRnB.out, ?_, fun j r hj => by have := set_short HSHB.out hrB k naB ncB j r hj; omega⟩⟩, by simp [intOf]; omega⟩
            rw [add_is HISB.out hrB]
            show _ = rdStep (rdTo ns k) (ndAt ns k) k
            rw [HND.out]; rfl
      · obtain ⟨j, rfl⟩ := Int.eq_ofNat_of_zero_le (show 0 ≤ a from (inR_iff.1 (show inR a k = true from HRN.out)).1)
        have hjl : j < ns.length := by have := (inR_iff.1 (show inR (j : Int) k = true from HRN.out)).2; omega
        have hji : (j : Int) < (ns.length : Int) := by omega
        go_wp2_with fail
        have HXA : Hid ((wr.alloc (.cells #[.int .i64 8, .int .i64 j, .int .i64 bb, .int .i64 nx] 26)).drew.heap[wr.heap.size]? = some (.cells #[.int .i64 8, .int .i64 j, .int .i64 bb, .int .i64 nx] 26 (0, 0))) := hide HX1.out
        have HRA := hide (hc.out.rows.below HB1.out.drew)
        have HBA := hide (hc.out.below.trans (HB1.out.drew.mono hc.out.below.size))
        have HLENA := hide HLEN.out
        have HSHA := hide hc.out.short
        have HISA := hide hc.out.is
        have HS0 : Hid ((fun W : World => W.cell? ⟨wr.heap.size, 1, none⟩ = some (.int .i64 j)) (wr.alloc (.cells #[.int .i64 8, .int .i64 j, .int .i64 bb, .int .i64 nx] 26)).drew) := hide (by (show World.cell? _ _ = _; rw [blk_cell HXA.out]; rfl))
        clear n0 n1 n2 n3 HX1 HB1
        refine wp_region_held_drew (S := (fun W : World => W.cell? ⟨wr.heap.size, 1, none⟩ = some (.int .i64 j))) (by kernel_rfl) HS0.out (fun _ => ?_)
        generalize (wr.alloc (.cells #[.int .i64 8, .int .i64 j, .int .i64 bb, .int .i64 nx] 26)).drew = wa at *
        obtain ⟨rA, hrA⟩ := at_some (j := j) HLENA.out (by omega)
        have hshA := HSHA.out j rA hrA
        have HSA : Hid (∀ W : World, W.heap[wr.heap.size]? = some (.cells #[.int .i64 8, .int .i64 j, .int .i64 bb, .int .i64 nx] 26 (0, 0)) → (fun W : World => W.cell? ⟨wr.heap.size, 1, none⟩ = some (.int .i64 j)) W) := hide fun W h0 => by (show W.cell? _ = _; rw [blk_cell h0]; rfl)
        obtain ⟨naA, ncA, w2A, happ, hRB, hrd, hbel, htyp⟩ := HRA.out.push hrA (by omega) (by have := HBA.out.size; omega) k
        have HRnA := hide hrd
        have HBnA := hide (hbel w.heap.size (Nat.le_refl _) (Nat.le_refl _))
        have HX2A := hide (htyp _ _ _ _ HXA.out (by decide))
        have HX3A : Hid ((w2A.setCell ⟨w.heap.size, j, none⟩ (.slice naA (rA.l.length + 1) ncA)).heap[wr.heap.size]? = some (.cells #[.int .i64 8, .int .i64 j, .int .i64 bb, .int .i64 nx] 26 (0, 0))) := hide ((Below.heap_setCell w2A ⟨w.heap.size, j, none⟩ _ _ (by show wr.heap.size ≠ w.heap.size; omega)).trans HX2A.out)
        have HXaA : Hid ((wa.alloc (.cells #[.int .i64 k] 3)).heap[wr.heap.size]? = some (.cells #[.int .i64 8, .int .i64 j, .int .i64 bb, .int .i64 nx] 26 (0, 0))) := hide (Below.blk (below_alloc _ _) HXA.out)
        have c0 := rw_cell HRA.out.outer hrA
        have c0a := cell_alloc c0 (.cells #[.int .i64 k] 3)
        have c2 := rw_cell hRB hrA
        have fz := blk_frozen hRB j
        have HS1 := hide (HSA.out _ HXA.out)
        have HSa := hide (HSA.out _ HXaA.out)
        have HSb := hide (HSA.out _ HX2A.out)
        have HSc := hide (HSA.out _ HX3A.out)
        clear hrd hbel htyp hRB
        refine wpAnyH_take (i := 0) (oi := ⟨some 34, _, _, _, _, _⟩) (v := .slice (some ⟨w.heap.size, 0, none⟩) ns.length ns.length) rfl (by kernel_rfl) (by kernel_rfl) (by kernel_rfl) (fun _ _ _ h => h) (Or.inl ⟨by rfl, fun W hS => by (have s0 := hS; go_simp)⟩) HS1.out ?_
        simp only [Act.put, List.setIfInBounds_toArray, List.set_cons_zero, List.set_cons_succ]
        refine wpAnyH_take (i := 1) (oi := ⟨some 35, _, _, _, _, _⟩) (v := .pointer (some ⟨wr.heap.size, 1, none⟩)) rfl (by kernel_rfl) (by kernel_rfl) (by kernel_rfl) (fun _ _ _ h => h) (Or.inl ⟨by rfl, fun W hS => by (have s0 := hS; go_simp)⟩) HS1.out ?_
        simp only [Act.put, List.setIfInBounds_toArray, List.set_cons_zero, List.set_cons_succ]
        refine wpAnyH_take (i := 2) (oi := ⟨some 36, _, _, _, _, _⟩) (v := .int .i64 j) rfl (by kernel_rfl) (by kernel_rfl) (by kernel_rfl) (fun _ _ _ h => h) (Or.inl ⟨by rfl, fun W hS => by (have s0 := hS; go_simp)⟩) HS1.out ?_
        simp only [Act.put, List.setIfInBounds_toArray, List.set_cons_zero, List.set_cons_succ]
        refine wpAnyH_take (i := 3) (oi := ⟨some 37, _, _, _, _, _⟩) (v := .slice (some ⟨w.heap.size, 0, none⟩) ns.length ns.length) rfl (by kernel_rfl) (by kernel_rfl) (by kernel_rfl) (fun _ _ _ h => h) (Or.inl ⟨by rfl, fun W hS => by (have s0 := hS; go_simp)⟩) HS1.out ?_
        simp only [Act.put, List.setIfInBounds_toArray, List.set_cons_zero, List.set_cons_succ]
        refine wpAnyH_take (i := 4) (oi := ⟨some 38, _, _, _, _, _⟩) (v := .pointer (some ⟨wr.heap.size, 1, none⟩)) rfl (by kernel_rfl) (by kernel_rfl) (by kernel_rfl) (fun _ _ _ h => h) (Or.inl ⟨by rfl, fun W hS => by (have s0 := hS; go_simp)⟩) HS1.out ?_
        simp only [Act.put, List.setIfInBounds_toArray, List.set_cons_zero, List.set_cons_succ]
        refine wpAnyH_take (i := 5) (oi := ⟨some 39, _, _, _, _, _⟩) (v := .int .i64 j) rfl (by kernel_rfl) (by kernel_rfl) (by kernel_rfl) (fun _ _ _ h => h) (Or.inl ⟨by rfl, fun W hS => by (have s0 := hS; go_simp)⟩) HS1.out ?_
        simp only [Act.put, List.setIfInBounds_toArray, List.set_cons_zero, List.set_cons_succ]
        refine wpAnyH_take (i := 6) (oi := ⟨some 40, _, _, _, _, _⟩) (v := .pointer (some ⟨w.heap.size, j, none⟩)) rfl (by kernel_rfl) (by kernel_rfl) (by kernel_rfl) (fun _ _ _ h => h) (Or.inl ⟨by rfl, fun W hS => by (have s0 := hS; go_simp)⟩) HS1.out ?_
        simp only [Act.put, List.setIfInBounds_toArray, List.set_cons_zero, List.set_cons_succ]
        refine wpAnyH_take (i := 8) (oi := ⟨some 42, _, _, _, _, _⟩) (v := .int .i64 k) rfl (by kernel_rfl) (by kernel_rfl) (by kernel_rfl) (fun _ _ _ h => h) (Or.inl ⟨by rfl, fun W hS => by (have s0 := hS; go_simp)⟩) HS1.out ?_
        simp only [Act.put, List.setIfInBounds_toArray, List.set_cons_zero, List.set_cons_succ]
        refine wpAnyH_ready (rs := [7, 9]) (by kernel_rfl) (by simp) ?_
        refine AllReadyH.cons rfl (fun K hK => ?_) (AllReadyH.cons rfl (fun K hK => ?_) AllReadyH.nil)
        · go_simp
          refine hK.out _ _ HS1.out (fun _ => ?_)
          clear hK K
          refine wpAnyH_ready (rs := [9]) (by kernel_rfl) (by simp) ?_
          refine AllReadyH.cons rfl (fun K hK => ?_) AllReadyH.nil
          go_simp
          refine hK.out _ _ HSa.out (fun _ => ?_)
          clear hK K
          refine wpAnyH_ready (rs := [10]) (by kernel_rfl) (by simp) ?_
          refine AllReadyH.cons rfl (fun K hK => ?_) AllReadyH.nil
          refine (if_pos (by kernel_rfl)).mpr ?_
          refine wp_append_run happ _ _ rfl rfl rfl ?_
          simp only [Act.put, List.setIfInBounds_toArray, List.set_cons_zero, List.set_cons_succ, List.getElem_toArray, List.getElem_cons_succ, List.getElem_cons_zero]
          refine hK.out _ _ HSb.out (fun _ => ?_)
          clear hK K happ
          refine wpAnyH_take (i := 11) (oi := ⟨some 45, _, _, _, _, _⟩) (v := .pointer (some ⟨w.heap.size, j, none⟩)) rfl (by kernel_rfl) (by kernel_rfl) (by kernel_rfl) (fun _ _ _ h => h) (Or.inl ⟨by rfl, fun W hS => by (have s0 := hS; go_simp)⟩) HSb.out ?_
          simp only [Act.put, List.setIfInBounds_toArray, List.set_cons_zero, List.set_cons_succ]
          refine wpAnyH_ready (rs := [12]) (by kernel_rfl) (by simp) ?_
          refine AllReadyH.cons rfl (fun K hK => ?_) AllReadyH.nil
          go_simp
          refine hK.out _ _ HSc.out (fun _ => ?_)
          clear hK K
          refine wpAnyH_done (by kernel_rfl) ?_ _
          clear c0 c0a c2 fz HS1 HSa HSb HSc
          go_wp2_with fail
          refine ⟨⟨k + 1, _, by omega, by go_num, hide ⟨HBA.out.trans HBnA.out, HRnA.out, ?_, fun j r hj => by have := set_short HSHA.out hrA k naA ncA j r hj; omega⟩⟩, by simp [intOf]; omega⟩
          rw [add_is HISA.out hrA]
          show _ = rdStep (rdTo ns k) (ndAt ns k) k
          rw [HND.out]; rfl
        · go_simp
          refine hK.out _ _ HSa.out (fun _ => ?_)
          clear hK K
          refine wpAnyH_ready (rs := [7]) (by kernel_rfl) (by simp) ?_
          refine AllReadyH.cons rfl (fun K hK => ?_) AllReadyH.nil
          go_simp
          refine hK.out _ _ HSa.out (fun _ => ?_)
          clear hK K
          refine wpAnyH_ready (rs := [10]) (by kernel_rfl) (by simp) ?_
          refine AllReadyH.cons rfl (fun K hK => ?_) AllReadyH.nil
          refine (if_pos (by kernel_rfl)).mpr ?_
          refine wp_append_run happ _ _ rfl rfl rfl ?_
          simp only [Act.put, List.setIfInBounds_toArray, List.set_cons_zero, List.set_cons_succ, List.getElem_toArray, List.getElem_cons_succ, List.getElem_cons_zero]
          refine hK.out _ _ HSb.out (fun _ => ?_)
          clear hK K happ
          refine wpAnyH_take (i := 11) (oi := ⟨some 45, _, _, _, _, _⟩) (v := .pointer (some ⟨w.heap.size, j, none⟩)) rfl (by kernel_rfl) (by kernel_rfl) (by kernel_rfl) (fun _ _ _ h => h) (Or.inl ⟨by rfl, fun W hS => by (have s0 := hS; go_simp)⟩) HSb.out ?_
          simp only [Act.put, List.setIfInBounds_toArray, List.set_cons_zero, List.set_cons_succ]
          refine wpAnyH_ready (rs := [12]) (by kernel_rfl) (by simp) ?_
          refine AllReadyH.cons rfl (fun K hK => ?_) AllReadyH.nil
          go_simp
          refine hK.out _ _ HSc.out (fun _ => ?_)
          clear hK K
          refine wpAnyH_done (by kernel_rfl) ?_ _
          clear c0 c0a c2 fz HS1 HSa HSb HSc
          go_wp2_with fail
          refine ⟨⟨k + 1, _, by omega, by go_num, hide ⟨HBA.out.trans HBnA.out, HRnA.out, ?_, fun j r hj => by have := set_short HSHA.out hrA k naA ncA j r hj; omega⟩⟩, by simp [intOf]; omega⟩
          rw [add_is HISA.out hrA]
          show _ = rdStep (rdTo ns k) (ndAt ns k) k
          rw [HND.out]; rfl
    · have hki : ¬ (k : Int) < (ns.length : Int) := by omega
      go_wp2_with fail
      go_ret
      obtain rfl : k = ns.length := by omega
      first | exact ⟨⟨_, rfl, Nat.le_refl _, rs, hc.out.rows, hc.out.is⟩, hc.out.below⟩ | exact ⟨⟨_, rs, rfl, Nat.le_refl _, hc.out.rows, hc.out.is⟩, hc.out.below⟩ | (trace_state; fail)
end Go.Proofs.Ytlnmemeejgnbeaa
