/-
  CONTRACT of Pack, at nets in which no gate reads two gates. (Written by mklpb.py.)
-/
import Derived.Test.YtacgepdmhdcdkaaLLb
set_option linter.unusedSimpArgs false
set_option linter.unusedVariables false
namespace Go.Proofs.Ytacgepdmhdcdkaa
open Go.RowKit Go.Maps

/-- what Pack hands back -/
def PackedNet (gn : Nat) (ns : List Nd) (os : List Int) (w : World) (e : Ending) (w' : World) : Prop :=
  ∃ (rs : List Rg) (ls : List Lt) (os' : List Int) (N : Nat) (ra la oa : Option Addr) (rc lc oc : Nat) (ys : List Wy), PackOk gn ns os rs ls os' ∧ e = .returned (.tuple #[.pointer (some ⟨N, 0, none⟩), .nilIface]) ∧ w.heap.size ≤ N ∧ w'.heap[N]? = some (.cells #[.int .i64 gn, .slice ra rs.length rc, .slice la ls.length lc, .slice oa os'.length oc] 26 (0, 0)) ∧ ys.map (·.l) = ls ∧ Lies (FromB w.heap.size) w' ra (rgsC rs) ∧ Lies (FromB w.heap.size) w' la (wyC ys) ∧ (∀ y ∈ ys, Lies (FromB w.heap.size) w' y.a (intsC y.l.ins)) ∧ Lies (FromB w.heap.size) w' oa (intsC os') ∧ Below w.heap.size w w'
theorem below_set {w w' : World} (h : Below w.heap.size w w') (b i : Nat) (u : Value) (hb : w.heap.size ≤ b) : Below w.heap.size w (w'.setCell ⟨b, i, none⟩ u) :=
  ⟨(Kept.set (R := b) w' i u).os.trans h.os, (Kept.set (R := b) w' i u).tape.trans h.tape, (Kept.set (R := b) w' i u).output.trans h.output, Nat.le_trans h.size (Kept.set (R := b) w' i u).size, fun k hk => ((Kept.set (R := b) w' i u).block k (Nat.lt_of_lt_of_le hk h.size) (by omega)).trans (h.block k hk)⟩
theorem deep_top {D D' : List Int} {k s : Nat} (h : ∀ q, outAt D q ≤ (k : Int)) (hd : D' = D ∨ ∃ z, D' = D.set s (deepI D z)) (hs : s < D.length) : outAt D' s ≤ (k : Int) + 1 := by
  rcases hd with rfl | ⟨z, rfl⟩
  · have := h s; omega
  · have h1 := deepI_le (l := z) (by omega : (0 : Int) ≤ (k : Int)) h
    have : outAt (D.set s (deepI D z)) s = deepI D z := by unfold outAt; rw [List.getElem?_set_self hs]; rfl
    omega
theorem made_intsP (n : Nat) : madeCells #[Value.int .i64 0] n = (intsC (List.replicate n 0)).toArray := by
  apply Array.ext_getElem?
  intro j
  by_cases hj : j < n
  · simp [madeCells, hj, Nat.mod_one, intsC]
  · simp [madeCells, hj, intsC]
theorem mk_intsP (n : Nat) (hn : n ≤ 90000) (w : World) : (Instr.makeSlice 24 (.int .i64 n) (.int .i64 n)).run Try.prog w = .ok (.slice (some ⟨w.heap.size, 0, none⟩) n n) (w.alloc (.cells (intsC (List.replicate n 0)).toArray 3)) := by
  obtain ⟨i, hi, hz, hs, hby⟩ := info_in
  have h := run_make (P := Try.prog) w 24 3 i _ (by kernel_rfl) hi hz .i64 .i64 n n (by omega) (Int.le_refl _) (by rw [hby]; omega) (by omega)
  rw [Int.toNat_natCast, hs, Nat.mul_one] at h
  rw [show (Value.int .i64 0).cells = #[Value.int .i64 0] from rfl, made_intsP] at h
  exact h
theorem outAt_zeros (n s : Nat) : outAt (List.replicate n (0 : Int)) s = 0 := by
  unfold outAt
  by_cases h : s < n
  · simp [h]
  · simp [show n ≤ s by omega]

set_option maxRecDepth 100000 in
set_option maxHeartbeats 6400000 in
theorem pack_at {S : Nat → Prop} {s : NetP} {gn : Nat} {ns : List Nd} {os : List Int} {w : World} (hn : NetAt s S w gn ns os) (hR : rightP gn ns os = true) (hnar : Narrow ns) (hn2 : ns.length ≤ 20000) (ho2 : os.length ≤ 20000) (hg2 : gn ≤ 20000)
    (hr : ∀ j, j < ns.length → rightN gn ns.length j (ndAt ns j) = true) (ho : ∀ i, i < os.length → inR (outAt os i) ns.length = true) :
    Calls Try.prog 14 #[.pointer (some ⟨s.p, 0, none⟩)] w fun e w' => PackedNet gn ns os w e w' := by
  have HNW := hide hn
  have HCR := Right_at hn hn2 ho2
  rw [hR] at HCR
  have HCR := hide HCR
  have HHR := hide hr
  have HHO := hide ho
  have HNAR := hide hnar
  clear hn hr ho hnar hR
  go_enter Try.func14, Try.ntmps14
  go_wp2_with fail
  refine HCR.out.mono ?_
  rintro e w1 ⟨rfl, hb1⟩
  have HB1 := hide hb1
  clear hb1 HCR
  go_wp2_with fail
  have HB1d := hide (Below.step HB1.out (Below.refl _ w1).drew)
  clear HB1
  have HS3 : Hid (w1.drew.cell? ⟨s.p, 0, none⟩ = some (.int .i64 gn)) := hide (HNW.out.below HB1d.out).c0
  refine wp_region_held_drew (S := fun W' => W'.cell? ⟨s.p, 0, none⟩ = some (.int .i64 gn)) (by kernel_rfl) HS3.out (fun _ => ?_)
  generalize w1.drew = w2 at *
  refine wpAnyH_take (i := 0) (oi := ⟨some 13, _, _, _, _, _⟩) (v := (.pointer (some ⟨s.p, 0, none⟩))) rfl (by kernel_rfl) (by kernel_rfl) (by kernel_rfl) (fun _ _ _ h => h) (Or.inl ⟨by rfl, fun W hS => by (have s0 := hS; go_simp)⟩) HS3.out ?_
  simp only [Act.put, List.setIfInBounds_toArray, List.set_cons_zero, List.set_cons_succ]
  refine wpAnyH_take (i := 4) (oi := ⟨some 17, _, _, _, _, _⟩) (v := (.pointer (some ⟨s.p, 0, none⟩))) rfl (by kernel_rfl) (by kernel_rfl) (by kernel_rfl) (fun _ _ _ h => h) (Or.inl ⟨by rfl, fun W hS => by (have s0 := hS; go_simp)⟩) HS3.out ?_
  simp only [Act.put, List.setIfInBounds_toArray, List.set_cons_zero, List.set_cons_succ]
  refine wpAnyH_take (i := 1) (oi := ⟨some 14, _, _, _, _, _⟩) (v := (.pointer (some ⟨s.p, 0, none⟩))) rfl (by kernel_rfl) (by kernel_rfl) (by kernel_rfl) (fun _ _ _ h => h) (Or.inl ⟨by rfl, fun W hS => by (have s0 := hS; go_simp)⟩) HS3.out ?_
  simp only [Act.put, List.setIfInBounds_toArray, List.set_cons_zero, List.set_cons_succ]
  refine wpAnyH_take (i := 5) (oi := ⟨some 18, _, _, _, _, _⟩) (v := (.pointer (some ⟨s.p, 0, none⟩))) rfl (by kernel_rfl) (by kernel_rfl) (by kernel_rfl) (fun _ _ _ h => h) (Or.inl ⟨by rfl, fun W hS => by (have s0 := hS; go_simp)⟩) HS3.out ?_
  simp only [Act.put, List.setIfInBounds_toArray, List.set_cons_zero, List.set_cons_succ]
  refine wpAnyH_take (i := 2) (oi := ⟨some 15, _, _, _, _, _⟩) (v := (.pointer (some ⟨s.p, 0, none⟩))) rfl (by kernel_rfl) (by kernel_rfl) (by kernel_rfl) (fun _ _ _ h => h) (Or.inl ⟨by rfl, fun W hS => by (have s0 := hS; go_simp)⟩) HS3.out ?_
  simp only [Act.put, List.setIfInBounds_toArray, List.set_cons_zero, List.set_cons_succ]
  refine wpAnyH_take (i := 6) (oi := ⟨some 19, _, _, _, _, _⟩) (v := (.pointer (some ⟨s.p, 0, none⟩))) rfl (by kernel_rfl) (by kernel_rfl) (by kernel_rfl) (fun _ _ _ h => h) (Or.inl ⟨by rfl, fun W hS => by (have s0 := hS; go_simp)⟩) HS3.out ?_
  simp only [Act.put, List.setIfInBounds_toArray, List.set_cons_zero, List.set_cons_succ]
  refine wpAnyH_take (i := 3) (oi := ⟨some 16, _, _, _, _, _⟩) (v := (.int .i64 gn)) rfl (by kernel_rfl) (by kernel_rfl) (by kernel_rfl) (fun _ _ _ h => h) (Or.inl ⟨by rfl, fun W hS => by (have s0 := hS; go_simp)⟩) HS3.out ?_
  simp only [Act.put, List.setIfInBounds_toArray, List.set_cons_zero, List.set_cons_succ]
  refine wpAnyH_take (i := 7) (oi := ⟨some 20, _, _, _, _, _⟩) (v := (.int .i64 gn)) rfl (by kernel_rfl) (by kernel_rfl) (by kernel_rfl) (fun _ _ _ h => h) (Or.inl ⟨by rfl, fun W hS => by (have s0 := hS; go_simp)⟩) HS3.out ?_
  simp only [Act.put, List.setIfInBounds_toArray, List.set_cons_zero, List.set_cons_succ]
  refine wpAnyH_take (i := 8) (oi := ⟨some 21, _, _, _, _, _⟩) (v := (.agg #[.int .i64 gn, .int .i64 gn, .slice none 0 0, .slice none 0 0])) rfl (by kernel_rfl) (by kernel_rfl) (by kernel_rfl) (fun _ _ _ h => h) (Or.inl ⟨by rfl, fun W hS => by (have s0 := hS; go_simp)⟩) HS3.out ?_
  simp only [Act.put, List.setIfInBounds_toArray, List.set_cons_zero, List.set_cons_succ]
  refine wpAnyH_ready (rs := [9]) (by kernel_rfl) (by simp) ?_
  refine AllReadyH.cons rfl (fun K hK => ?_) AllReadyH.nil
  go_simp
  have HB3 := hide (below_alloc w2 (.cells #[.int .i64 gn, .int .i64 gn, .slice none 0 0, .slice none 0 0] 68))
  have HP3 := hide (blk_new w2 (.cells #[.int .i64 gn, .int .i64 gn, .slice none 0 0, .slice none 0 0] 68))
  have HBW := hide (Below.step HB1d.out HB3.out)
  have HS4 := hide (HNW.out.below HBW.out).c0
  refine hK.out _ _ HS4.out (fun _ => ?_)
  clear hK K
  refine wpAnyH_ready (rs := [10]) (by kernel_rfl) (by simp) ?_
  refine AllReadyH.cons rfl (fun K hK => ?_) AllReadyH.nil
  go_simp
  refine hK.out _ _ HS4.out (fun _ => ?_)
  clear hK K
  refine wpAnyH_done (by kernel_rfl) ?_ _
  have HPW := hide HB1d.out.size
  generalize w2.alloc (.cells #[.int .i64 gn, .int .i64 gn, .slice none 0 0, .slice none 0 0] 68) = w3 at *
  generalize w2.heap.size = P at *
  have k4 := (HNW.out.below HBW.out).c1
  clear HB3 HS3 HS4 HB1d
  go_wp2_with fail
  clear k4
  go_loopw [6, 28] (fun _ i wr => ∃ k : Nat, k ≤ ns.length ∧ i = .int .i64 k ∧ Hid (Below w.heap.size w wr) ∧ Hid (wr.heap[P]? = some (.cells #[.int .i64 ((gn + regsN ns k : Nat) : Int), .int .i64 gn, .slice none 0 0, .slice none 0 0] 68 (0, 0)))) (fun _ i _ => ns.length - (intOf i).toNat)
  case atStart => exact ⟨0, Nat.zero_le _, rfl, HBW, HP3⟩
  case round =>
    clear HBW HP3
    obtain ⟨k, hk, rfl, hbw, hpk⟩ := hrel
    have hPw : P < wr.heap.size := blk_lt hpk.out
    by_cases hlt : k < ns.length
    · have hki : (k : Int) < (ns.length : Int) := by omega
      obtain ⟨b, off, ha, _, _, n0, n1, n2, n3⟩ := (HNW.out.below hbw.out).nodes.nodes hlt
      have HSTEP : Hid (gn + regsN ns (k + 1) = gn + regsN ns k + (if isReg (ndAt ns k) then 1 else 0)) := hide (by simp only [regsN]; omega)
      have hm4 : gn + regsN ns k ≤ 40000 := by have := regsN_le ns k; omega
      generalize gn + regsN ns k = m at *
      generalize ndAt ns k = nd at *
      obtain ⟨op, a, bb, nx⟩ := nd
      simp only at n0 n1 n2 n3
      have HHA := hide ha
      rw [HHA.out]
      clear ha
      have HBX := hide (below_alloc wr (.cells #[.int .i64 op, .int .i64 a, .int .i64 bb, .int .i64 nx] 48))
      have HBN := hide (Below.step hbw.out HBX.out)
      have HPN := hide (Below.blk HBX.out hpk.out)
      have HBW2 := hide hbw.out
      have HPK := hide hpk.out
      clear hbw hpk
      by_cases hop : op = 4
      · subst hop
        have HS1 : Hid (gn + regsN ns (k + 1) = m + 1) := hide HSTEP.out
        have f4 : (wr.alloc (.cells #[.int .i64 4, .int .i64 a, .int .i64 bb, .int .i64 nx] 48)).frozen? ⟨P, 0, none⟩ = false := blk_frozen HPN.out 0
        have k0 : (wr.alloc (.cells #[.int .i64 4, .int .i64 a, .int .i64 bb, .int .i64 nx] 48)).cell? ⟨P, 0, none⟩ = some (.int .i64 (m : Int)) := by rw [blk_cell HPN.out]; rfl
        have HPS := hide (Below.blk (below_alloc (wr.setCell ⟨P, 0, none⟩ (.int .i64 ((m + 1 : Nat) : Int))) (.cells #[.int .i64 4, .int .i64 a, .int .i64 bb, .int .i64 nx] 48)) (blk_set HPK.out 0 (.int .i64 ((m + 1 : Nat) : Int))))
        have HBS := hide (Below.step (below_set HBW2.out P 0 (.int .i64 ((m + 1 : Nat) : Int)) HPW.out) (below_alloc (wr.setCell ⟨P, 0, none⟩ (.int .i64 ((m + 1 : Nat) : Int))) (.cells #[.int .i64 4, .int .i64 a, .int .i64 bb, .int .i64 nx] 48)))
        have HCS : Hid (((m + 1 : Nat) : Int) = (m : Int) + 1) := hide (by omega)
        rw [HCS.out] at HPS HBS
        clear HSTEP HBN HPN HBX HBW2 HPK
        go_wp2_with fail
        exact ⟨⟨k + 1, by omega, by go_num, HBS, hide (by rw [HS1.out, HCS.out]; exact HPS.out)⟩, by simp [intOf]; omega⟩
      · have hopb : (op == 4) = false := beq_eq_false_iff_ne.2 hop
        have HS1 : Hid (gn + regsN ns (k + 1) = m) := hide (by
          have := HSTEP.out
          simp only [isReg, hopb] at this
          exact this)
        clear HSTEP HBX
        go_wp2_with fail
        exact ⟨⟨k + 1, by omega, by go_num, HBN, hide (by rw [HS1.out]; exact HPN.out)⟩, by simp [intOf]; omega⟩
    · have HKL : Hid (k = ns.length) := hide (by omega)
      obtain rfl : k = ns.length := HKL.out
      have hfm : gn + regsN ns ns.length = firstS gn ns := rfl
      rw [hfm] at hpk
      have hf4 : firstS gn ns ≤ 40000 := by have := regsN_le ns ns.length; unfold firstS; omega
      have HFS : Hid (gn + regsN ns 0 = gn) := hide rfl
      generalize hfg : firstS gn ns = first at *
      have HFG := hide hfg
      clear hfg hfm
      go_wp2_with fail
      have hbd := Below.step hbw.out (Below.refl _ wr).drew
      have HBD := hide hbd
      have HPD := hide (Below.blk (Below.refl _ wr).drew hpk.out)
      have HND := hide (HNW.out.below hbd)
      have HS10 : Hid (wr.drew.cell? ⟨P, 0, none⟩ = some (.int .i64 first) ∧ wr.drew.cell? ⟨s.p, 1, none⟩ = some (.slice s.na ns.length s.nc)) := hide ⟨by rw [blk_cell HPD.out]; rfl, HND.out.c1⟩
      have hwf : IntKind.i64.wrap ((first : Int) + (ns.length : Int)) = (first : Int) + (ns.length : Int) := IntWalk.i64_in _ (by omega)
      clear hbd
      refine wp_region_held_drew (S := fun W' => W'.cell? ⟨P, 0, none⟩ = some (.int .i64 first) ∧ W'.cell? ⟨s.p, 1, none⟩ = some (.slice s.na ns.length s.nc)) (by kernel_rfl) HS10.out (fun _ => ?_)
      clear hbw hpk
      generalize wr.drew = w4 at *
      refine wpAnyH_take (i := 0) (oi := ⟨some 43, _, _, _, _, _⟩) (v := (.pointer (some ⟨P, 0, none⟩))) rfl (by kernel_rfl) (by kernel_rfl) (by kernel_rfl) (fun _ _ _ h => h) (Or.inl ⟨by rfl, fun W hS => by (obtain ⟨s0, s1⟩ := hS; go_simp)⟩) HS10.out ?_
      simp only [Act.put, List.setIfInBounds_toArray, List.set_cons_zero, List.set_cons_succ]
      refine wpAnyH_take (i := 1) (oi := ⟨some 44, _, _, _, _, _⟩) (v := (.pointer (some ⟨P, 0, none⟩))) rfl (by kernel_rfl) (by kernel_rfl) (by kernel_rfl) (fun _ _ _ h => h) (Or.inl ⟨by rfl, fun W hS => by (obtain ⟨s0, s1⟩ := hS; go_simp)⟩) HS10.out ?_
      simp only [Act.put, List.setIfInBounds_toArray, List.set_cons_zero, List.set_cons_succ]
      refine wpAnyH_take (i := 5) (oi := ⟨some 48, _, _, _, _, _⟩) (v := (.pointer (some ⟨s.p, 0, none⟩))) rfl (by kernel_rfl) (by kernel_rfl) (by kernel_rfl) (fun _ _ _ h => h) (Or.inl ⟨by rfl, fun W hS => by (obtain ⟨s0, s1⟩ := hS; go_simp)⟩) HS10.out ?_
      simp only [Act.put, List.setIfInBounds_toArray, List.set_cons_zero, List.set_cons_succ]
      refine wpAnyH_take (i := 2) (oi := ⟨some 45, _, _, _, _, _⟩) (v := (.pointer (some ⟨P, 0, none⟩))) rfl (by kernel_rfl) (by kernel_rfl) (by kernel_rfl) (fun _ _ _ h => h) (Or.inl ⟨by rfl, fun W hS => by (obtain ⟨s0, s1⟩ := hS; go_simp)⟩) HS10.out ?_
      simp only [Act.put, List.setIfInBounds_toArray, List.set_cons_zero, List.set_cons_succ]
      refine wpAnyH_take (i := 6) (oi := ⟨some 49, _, _, _, _, _⟩) (v := (.pointer (some ⟨s.p, 0, none⟩))) rfl (by kernel_rfl) (by kernel_rfl) (by kernel_rfl) (fun _ _ _ h => h) (Or.inl ⟨by rfl, fun W hS => by (obtain ⟨s0, s1⟩ := hS; go_simp)⟩) HS10.out ?_
      simp only [Act.put, List.setIfInBounds_toArray, List.set_cons_zero, List.set_cons_succ]
      refine wpAnyH_take (i := 3) (oi := ⟨some 46, _, _, _, _, _⟩) (v := (.pointer (some ⟨P, 0, none⟩))) rfl (by kernel_rfl) (by kernel_rfl) (by kernel_rfl) (fun _ _ _ h => h) (Or.inl ⟨by rfl, fun W hS => by (obtain ⟨s0, s1⟩ := hS; go_simp)⟩) HS10.out ?_
      simp only [Act.put, List.setIfInBounds_toArray, List.set_cons_zero, List.set_cons_succ]
      refine wpAnyH_take (i := 7) (oi := ⟨some 50, _, _, _, _, _⟩) (v := (.pointer (some ⟨s.p, 1, none⟩))) rfl (by kernel_rfl) (by kernel_rfl) (by kernel_rfl) (fun _ _ _ h => h) (Or.inl ⟨by rfl, fun W hS => by (obtain ⟨s0, s1⟩ := hS; go_simp)⟩) HS10.out ?_
      simp only [Act.put, List.setIfInBounds_toArray, List.set_cons_zero, List.set_cons_succ]
      refine wpAnyH_take (i := 4) (oi := ⟨some 47, _, _, _, _, _⟩) (v := (.int .i64 first)) rfl (by kernel_rfl) (by kernel_rfl) (by kernel_rfl) (fun _ _ _ h => h) (Or.inl ⟨by rfl, fun W hS => by (obtain ⟨s0, s1⟩ := hS; go_simp)⟩) HS10.out ?_
      simp only [Act.put, List.setIfInBounds_toArray, List.set_cons_zero, List.set_cons_succ]
      refine wpAnyH_take (i := 8) (oi := ⟨some 51, _, _, _, _, _⟩) (v := (.slice s.na ns.length s.nc)) rfl (by kernel_rfl) (by kernel_rfl) (by kernel_rfl) (fun _ _ _ h => h) (Or.inl ⟨by rfl, fun W hS => by (obtain ⟨s0, s1⟩ := hS; go_simp)⟩) HS10.out ?_
      simp only [Act.put, List.setIfInBounds_toArray, List.set_cons_zero, List.set_cons_succ]
      refine wpAnyH_take (i := 9) (oi := ⟨some 52, _, _, _, _, _⟩) (v := (.int .i64 ns.length)) rfl (by kernel_rfl) (by kernel_rfl) (by kernel_rfl) (fun _ _ _ h => h) (Or.inl ⟨by rfl, fun W hS => by (obtain ⟨s0, s1⟩ := hS; go_simp)⟩) HS10.out ?_
      simp only [Act.put, List.setIfInBounds_toArray, List.set_cons_zero, List.set_cons_succ]
      refine wpAnyH_take (i := 10) (oi := ⟨some 53, _, _, _, _, _⟩) (v := (.int .i64 ((first : Int) + (ns.length : Int)))) rfl (by kernel_rfl) (by kernel_rfl) (by kernel_rfl) (fun _ _ _ h => h) (Or.inl ⟨by rfl, fun W hS => by (obtain ⟨s0, s1⟩ := hS; go_simp)⟩) HS10.out ?_
      simp only [Act.put, List.setIfInBounds_toArray, List.set_cons_zero, List.set_cons_succ]
      refine wpAnyH_ready (rs := [11]) (by kernel_rfl) (by simp) ?_
      refine AllReadyH.cons rfl (fun K hK => ?_) AllReadyH.nil
      have hmk := mk_intsP (first + ns.length) (by omega) w4
      have hcN : ((first + ns.length : Nat) : Int) = (first : Int) + (ns.length : Int) := by omega
      rw [hcN] at hmk
      go_simp
      clear hmk hcN
      have HB5 := hide (below_alloc w4 (.cells (intsC (List.replicate (first + ns.length) 0)).toArray 3))
      have HD5 := hide (blk_new w4 (.cells (intsC (List.replicate (first + ns.length) 0)).toArray 3))
      have HP5 := hide (Below.blk HB5.out HPD.out)
      have HBW5 := hide (Below.step HBD.out HB5.out)
      have HS5 : Hid ((w4.alloc (.cells (intsC (List.replicate (first + ns.length) 0)).toArray 3)).cell? ⟨P, 0, none⟩ = some (.int .i64 first) ∧ (w4.alloc (.cells (intsC (List.replicate (first + ns.length) 0)).toArray 3)).cell? ⟨s.p, 1, none⟩ = some (.slice s.na ns.length s.nc)) := hide ⟨by rw [blk_cell HP5.out]; rfl, (HNW.out.below HBW5.out).c1⟩
      have HPL := hide (blk_lt HPD.out)
      refine hK.out _ _ HS5.out (fun _ => ?_)
      clear hK K
      have HDW := hide HBD.out.size
      generalize w4.alloc (.cells (intsC (List.replicate (first + ns.length) 0)).toArray 3) = w5 at *
      generalize w4.heap.size = Dg at *
      clear HB5 HPD HBD HND HS10
      refine wpAnyH_take (i := 12) (oi := ⟨some 55, _, _, _, _, _⟩) (v := (.pointer (some ⟨P, 0, none⟩))) rfl (by kernel_rfl) (by kernel_rfl) (by kernel_rfl) (fun _ _ _ h => h) (Or.inl ⟨by rfl, fun W hS => by (obtain ⟨s0, s1⟩ := hS; go_simp)⟩) HS5.out ?_
      simp only [Act.put, List.setIfInBounds_toArray, List.set_cons_zero, List.set_cons_succ]
      refine wpAnyH_take (i := 13) (oi := ⟨some 56, _, _, _, _, _⟩) (v := (.pointer (some ⟨P, 3, none⟩))) rfl (by kernel_rfl) (by kernel_rfl) (by kernel_rfl) (fun _ _ _ h => h) (Or.inl ⟨by rfl, fun W hS => by (obtain ⟨s0, s1⟩ := hS; go_simp)⟩) HS5.out ?_
      simp only [Act.put, List.setIfInBounds_toArray, List.set_cons_zero, List.set_cons_succ]
      refine wpAnyH_ready (rs := [14]) (by kernel_rfl) (by simp) ?_
      refine AllReadyH.cons rfl (fun K hK => ?_) AllReadyH.nil
      have f4 : w5.frozen? ⟨P, 3, none⟩ = false := blk_frozen HP5.out 3
      have k4 : w5.cell? ⟨P, 3, none⟩ = some (.slice none 0 0) := by rw [blk_cell HP5.out]; rfl
      have HP6 := hide (blk_set HP5.out 3 (.slice (some ⟨Dg, 0, none⟩) (first + ns.length) (first + ns.length)))
      have HBW6 := hide (below_set HBW5.out P 3 (.slice (some ⟨Dg, 0, none⟩) (first + ns.length) (first + ns.length)) HPW.out)
      have HNE : Hid (P ≠ Dg) := hide (by have := HPL.out; omega)
      have HD6 : Hid ((w5.setCell ⟨P, 3, none⟩ (.slice (some ⟨Dg, 0, none⟩) (first + ns.length) (first + ns.length))).heap[Dg]? = some (.cells (intsC (List.replicate (first + ns.length) 0)).toArray 3 (0, 0))) := hide ((Below.heap_setCell w5 ⟨P, 3, none⟩ _ Dg (fun e => HNE.out e.symm)).trans HD5.out)
      have HS6 : Hid ((w5.setCell ⟨P, 3, none⟩ (.slice (some ⟨Dg, 0, none⟩) (first + ns.length) (first + ns.length))).cell? ⟨P, 0, none⟩ = some (.int .i64 first) ∧ (w5.setCell ⟨P, 3, none⟩ (.slice (some ⟨Dg, 0, none⟩) (first + ns.length) (first + ns.length))).cell? ⟨s.p, 1, none⟩ = some (.slice s.na ns.length s.nc)) := hide ⟨by rw [blk_cell HP6.out]; rfl, (HNW.out.below HBW6.out).c1⟩
      go_simp
      clear f4 k4
      refine hK.out _ _ HS6.out (fun _ => ?_)
      clear hK K
      refine wpAnyH_done (by kernel_rfl) ?_ _
      generalize w5.setCell ⟨P, 3, none⟩ (.slice (some ⟨Dg, 0, none⟩) (first + ns.length) (first + ns.length)) = w6 at *
      have HPK0 : Hid (PkAt w.heap.size P Dg w6 first (gn + regsN ns 0) 0 none 0 (fun _ => []) (fun _ => none) (fun _ => 0) (List.replicate (first + ns.length) 0)) := hide ⟨by rw [List.length_replicate]; exact HP6.out, HD6.out, HNE.out, HPW.out, HDW.out, Mine.none _, (fun e => by cases e), (fun e => by cases e), fun j hj => absurd hj (Nat.not_lt_zero _)⟩
      have HOK0 : Hid (PkOk gn ns 0 (fun _ => []) (List.replicate (first + ns.length) 0)) := hide ⟨fun j hj => absurd hj (Nat.not_lt_zero _), fun j hj => absurd hj (Nat.not_lt_zero _), by rw [List.length_replicate, HFG.out], fun q => by rw [outAt_zeros]; exact Int.le_refl _⟩
      have k11 := HS6.out.2
      clear HS5 HS6 HBW5 HP5 HD5 HP6 HD6
      go_wp2_with fail
      clear k11
      have hfg := HFG.out
      subst hfg
      go_loopw [8, 62] (fun _ i wr => ∃ (k : Nat) (wa : Option Addr) (wc : Nat) (X : Nat → List Wy) (SA : Nat → Option Addr) (SC : Nat → Nat) (D : List Int), k ≤ ns.length ∧ i = .int .i64 k ∧ Hid (PkAt w.heap.size P Dg wr (firstS gn ns) (gn + regsN ns k) k wa wc X SA SC D) ∧ Hid (PkOk gn ns k X D) ∧ Hid (Below w.heap.size w wr)) (fun _ i _ => ns.length - (intOf i).toNat)
      case atStart => exact ⟨0, none, 0, fun _ => [], fun _ => none, fun _ => 0, List.replicate (firstS gn ns + ns.length) 0, Nat.zero_le _, rfl, HPK0, HOK0, HBW6⟩
      case round =>
        clear HPK0 HOK0 HBW6
        obtain ⟨k, wa, wc, X, SA, SC, D, hk, rfl, hpk, hok, hbw⟩ := hrel
        by_cases hlt : k < ns.length
        · have hki : (k : Int) < (ns.length : Int) := by omega
          obtain ⟨b, off, ha, _, _, n0, n1, n2, n3⟩ := (HNW.out.below hbw.out).nodes.nodes hlt
          have HNDC : Hid (∀ W, PkAt w.heap.size P Dg W (firstS gn ns) (gn + regsN ns k) k wa wc X SA SC D → Calls Try.prog 24 #[.pointer (some ⟨P, 0, none⟩), .agg #[.int .i64 (ndAt ns k).op, .int .i64 (ndAt ns k).a, .int .i64 (ndAt ns k).b, .int .i64 (ndAt ns k).next]] W fun e w' => NodeOut gn ns k P Dg wa wc X D W e w') := hide fun W h => node_at h hok.out HHR.out hlt HNAR.out (by rw [hok.out.len]; omega)
          generalize (ndAt ns k).op = op at *
          generalize (ndAt ns k).a = a at *
          generalize (ndAt ns k).b = bb at *
          generalize (ndAt ns k).next = nx at *
          have HHA := hide ha
          rw [HHA.out]
          clear ha
          have HBX := hide (below_alloc wr (.cells #[.int .i64 op, .int .i64 a, .int .i64 bb, .int .i64 nx] 48))
          have HPB := hide (hpk.out.below HBX.out)
          have HYB := hide (blk_new wr (.cells #[.int .i64 op, .int .i64 a, .int .i64 bb, .int .i64 nx] 48))
          have HBB := hide (Below.step hbw.out HBX.out)
          have HPY := hide (blk_lt hpk.out.me)
          have HDY := hide (blk_lt hpk.out.deep)
          have HWY := hide fun b (hb : (Value.slice wa k wc).ownBlock = some b) => (hpk.out.row.own.lt b hb).2
          clear hpk hbw HBX
          go_wp2_with fail
          clear n0 n1 n2 n3
          generalize wr.alloc (.cells #[.int .i64 op, .int .i64 a, .int .i64 bb, .int .i64 nx] 48) = v9 at *
          generalize wr.heap.size = Y at *
          have HP0 := hide (HPB.out.below (Below.refl _ v9).drew)
          have HY0 := hide (Below.blk (Below.refl _ v9).drew HYB.out)
          have HB0 := hide (Below.step HBB.out (Below.refl _ v9).drew)
          have HSW : Hid (∀ W' : World, W'.heap[Y]? = some (.cells #[.int .i64 op, .int .i64 a, .int .i64 bb, .int .i64 nx] 48 (0, 0)) → W'.cell? ⟨Y, 0, none⟩ = some (.int .i64 op) ∧ W'.cell? ⟨Y, 1, none⟩ = some (.int .i64 a) ∧ W'.cell? ⟨Y, 2, none⟩ = some (.int .i64 bb) ∧ W'.cell? ⟨Y, 3, none⟩ = some (.int .i64 nx)) := hide fun W' h2 => ⟨by rw [blk_cell h2]; rfl, by rw [blk_cell h2]; rfl, by rw [blk_cell h2]; rfl, by rw [blk_cell h2]; rfl⟩
          refine wp_region_held_drew (S := fun W' => W'.cell? ⟨Y, 0, none⟩ = some (.int .i64 op) ∧ W'.cell? ⟨Y, 1, none⟩ = some (.int .i64 a) ∧ W'.cell? ⟨Y, 2, none⟩ = some (.int .i64 bb) ∧ W'.cell? ⟨Y, 3, none⟩ = some (.int .i64 nx)) (by kernel_rfl) (HSW.out _ HY0.out) (fun _ => ?_)
          clear HPB HYB HBB
          generalize v9.drew = v0 at *
          refine wpAnyH_take (i := 0) (oi := ⟨some 66, _, _, _, _, _⟩) (v := (.pointer (some ⟨P, 0, none⟩))) rfl (by kernel_rfl) (by kernel_rfl) (by kernel_rfl) (fun _ _ _ h => h) (Or.inl ⟨by rfl, fun W hS => by (obtain ⟨s0, s1, s2, s3⟩ := hS; go_simp)⟩) (HSW.out _ HY0.out) ?_
          simp only [Act.put, List.setIfInBounds_toArray, List.set_cons_zero, List.set_cons_succ]
          refine wpAnyH_take (i := 1) (oi := ⟨some 67, _, _, _, _, _⟩) (v := (.pointer (some ⟨P, 0, none⟩))) rfl (by kernel_rfl) (by kernel_rfl) (by kernel_rfl) (fun _ _ _ h => h) (Or.inl ⟨by rfl, fun W hS => by (obtain ⟨s0, s1, s2, s3⟩ := hS; go_simp)⟩) (HSW.out _ HY0.out) ?_
          simp only [Act.put, List.setIfInBounds_toArray, List.set_cons_zero, List.set_cons_succ]
          refine wpAnyH_take (i := 5) (oi := ⟨some 71, _, _, _, _, _⟩) (v := (.pointer (some ⟨P, 0, none⟩))) rfl (by kernel_rfl) (by kernel_rfl) (by kernel_rfl) (fun _ _ _ h => h) (Or.inl ⟨by rfl, fun W hS => by (obtain ⟨s0, s1, s2, s3⟩ := hS; go_simp)⟩) (HSW.out _ HY0.out) ?_
          simp only [Act.put, List.setIfInBounds_toArray, List.set_cons_zero, List.set_cons_succ]
          refine wpAnyH_take (i := 6) (oi := ⟨some 72, _, _, _, _, _⟩) (v := (.agg #[.int .i64 op, .int .i64 a, .int .i64 bb, .int .i64 nx])) rfl (by kernel_rfl) (by kernel_rfl) (by kernel_rfl) (fun _ _ _ h => h) (Or.inl ⟨by rfl, fun W hS => by (obtain ⟨s0, s1, s2, s3⟩ := hS; go_simp)⟩) (HSW.out _ HY0.out) ?_
          simp only [Act.put, List.setIfInBounds_toArray, List.set_cons_zero, List.set_cons_succ]
          refine wpAnyH_take (i := 2) (oi := ⟨some 68, _, _, _, _, _⟩) (v := (.pointer (some ⟨P, 0, none⟩))) rfl (by kernel_rfl) (by kernel_rfl) (by kernel_rfl) (fun _ _ _ h => h) (Or.inl ⟨by rfl, fun W hS => by (obtain ⟨s0, s1, s2, s3⟩ := hS; go_simp)⟩) (HSW.out _ HY0.out) ?_
          simp only [Act.put, List.setIfInBounds_toArray, List.set_cons_zero, List.set_cons_succ]
          refine wpAnyH_take (i := 3) (oi := ⟨some 69, _, _, _, _, _⟩) (v := (.pointer (some ⟨P, 2, none⟩))) rfl (by kernel_rfl) (by kernel_rfl) (by kernel_rfl) (fun _ _ _ h => h) (Or.inl ⟨by rfl, fun W hS => by (obtain ⟨s0, s1, s2, s3⟩ := hS; go_simp)⟩) (HSW.out _ HY0.out) ?_
          simp only [Act.put, List.setIfInBounds_toArray, List.set_cons_zero, List.set_cons_succ]
          refine wpAnyH_ready (rs := [4, 7]) (by kernel_rfl) (by simp) ?_
          refine AllReadyH.cons rfl (fun K hK => ?_) (AllReadyH.cons rfl (fun K hK => ?_) AllReadyH.nil)
          · skip
            have k1 := blk_cell HP0.out.me 2
            have k1 : _ = some (Value.slice wa k wc) := k1
            go_simp
            clear k1
            refine hK.out _ _ (HSW.out _ HY0.out) (fun _ => ?_)
            clear hK K
            refine wpAnyH_ready (rs := [7]) (by kernel_rfl) (by simp) ?_
            refine AllReadyH.cons rfl (fun K hK => ?_) AllReadyH.nil
            go_simp
            refine (HNDC.out _ HP0.out).mono ?_
            rintro e v1 ⟨xs, sa, sc, D', rfl, hxl, hxi, hnw, hdl, hdo, hds, hme1, hdg1, hkp, hx5, hx1⟩
            have HP1 := hide (HP0.out.turned hdl hkp hme1 hdg1)
            have HY1 := hide (hkp.blk HY0.out (fun e => by have h1 := HPY.out; have h2 := HDY.out; rcases e with e | e <;> omega))
            have HKP := hide hkp
            have HXL := hide hxl
            have HXI := hide hxi
            have HOK1 := hide (hok.out.more (P := P) (Dg := Dg) (wa := wa) (wc := wc) (w := v0) (w' := v1) (e := .returned .nilFunc) HHR.out hlt hnw hdl hdo (deep_top hok.out.top hds (by have := hok.out.len; omega)) hx5 hx1)
            clear hxl hxi hnw hdl hdo hds hme1 hdg1 hkp hx5 hx1
            refine hK.out _ _ (HSW.out _ HY1.out) (fun _ => ?_)
            clear hK K
            refine wpAnyH_ready (rs := [8]) (by kernel_rfl) (by simp) ?_
            refine AllReadyH.cons rfl (fun K hK => ?_) AllReadyH.nil
            go_simp
            have HBA := hide (below_alloc v1 (.cells #[.slice sa xs.length sc] 23))
            have HPA := hide (HP1.out.below HBA.out)
            have HYA := hide (Below.blk HBA.out HY1.out)
            refine hK.out _ _ (HSW.out _ HYA.out) (fun _ => ?_)
            clear hK K
            refine wpAnyH_ready (rs := [9]) (by kernel_rfl) (by simp) ?_
            refine AllReadyH.cons rfl (fun K hK => ?_) AllReadyH.nil
            have HVS := hide HKP.out.size
            obtain ⟨wa', wc', v2, happ, hpk2, hvP, hold, hsz, hos, htp, hou⟩ := HP1.out.more (by have h1 := HB0.out.size; have h2 := HVS.out; omega) (by omega) xs sa sc v0.heap.size ⟨HB0.out.size, blk_lt HP0.out.me, blk_lt HP0.out.deep, fun b hb => (HP0.out.row.own.lt b hb).2⟩ HXL.out HXI.out
            have HP2 := hide hpk2
            have HVP := hide (hvP.trans HP1.out.me)
            have HY2 : Hid (v2.heap[Y]? = some (.cells #[.int .i64 op, .int .i64 a, .int .i64 bb, .int .i64 nx] 48 (0, 0))) := hide ((hold Y (blk_lt HY1.out) (fun e => by have := HWY.out _ e; omega)).trans HY1.out)
            have HBF : Hid (Below w.heap.size w v2) := hide ⟨hos.trans (HKP.out.os.trans HB0.out.os), htp.trans (HKP.out.tape.trans HB0.out.tape), hou.trans (HKP.out.output.trans HB0.out.output), Nat.le_trans HB0.out.size (Nat.le_trans HVS.out hsz), fun q hq => (hold q (by have h1 := HB0.out.size; have h2 := HVS.out; omega) (fun e => by have := HP0.out.row.new q e; omega)).trans ((HKP.out.block q (by have h1 := HB0.out.size; omega) (fun e => by have h1 := HPW.out; have h2 := HDW.out; rcases e with e | e <;> omega)).trans (HB0.out.block q hq))⟩
            have HBF2 := hide (below_set HBF.out P 2 (.slice wa' (k + 1) wc') HPW.out)
            have HYS : Hid ((v2.setCell ⟨P, 2, none⟩ (.slice wa' (k + 1) wc')).heap[Y]? = some (.cells #[.int .i64 op, .int .i64 a, .int .i64 bb, .int .i64 nx] 48 (0, 0))) := hide ((Below.heap_setCell v2 ⟨P, 2, none⟩ _ Y (fun e => by have h7 : Y = P := e; have := HPY.out; omega)).trans HY2.out)
            clear hpk2 hvP hold hsz hos htp hou
            refine (if_pos (by kernel_rfl)).mpr ?_
            refine wp_append_run happ _ _ rfl rfl rfl ?_
            simp only [Act.put, List.getElem_toArray, List.getElem_cons_succ, List.getElem_cons_zero, List.setIfInBounds_toArray, List.set_cons_zero, List.set_cons_succ]
            refine hK.out _ _ (HSW.out _ HY2.out) (fun _ => ?_)
            clear hK K happ
            refine wpAnyH_take (i := 10) (oi := ⟨some 76, _, _, _, _, _⟩) (v := (.pointer (some ⟨P, 0, none⟩))) rfl (by kernel_rfl) (by kernel_rfl) (by kernel_rfl) (fun _ _ _ h => h) (Or.inl ⟨by rfl, fun W hS => by (obtain ⟨s0, s1, s2, s3⟩ := hS; go_simp)⟩) (HSW.out _ HY2.out) ?_
            simp only [Act.put, List.setIfInBounds_toArray, List.set_cons_zero, List.set_cons_succ]
            refine wpAnyH_take (i := 11) (oi := ⟨some 77, _, _, _, _, _⟩) (v := (.pointer (some ⟨P, 2, none⟩))) rfl (by kernel_rfl) (by kernel_rfl) (by kernel_rfl) (fun _ _ _ h => h) (Or.inl ⟨by rfl, fun W hS => by (obtain ⟨s0, s1, s2, s3⟩ := hS; go_simp)⟩) (HSW.out _ HY2.out) ?_
            simp only [Act.put, List.setIfInBounds_toArray, List.set_cons_zero, List.set_cons_succ]
            refine wpAnyH_ready (rs := [12]) (by kernel_rfl) (by simp) ?_
            refine AllReadyH.cons rfl (fun K hK => ?_) AllReadyH.nil
            have f4 : v2.frozen? ⟨P, 2, none⟩ = false := blk_frozen HVP.out 2
            have k4 : v2.cell? ⟨P, 2, none⟩ = some (.slice wa k wc) := by rw [blk_cell HVP.out]; rfl
            go_simp
            clear f4 k4
            refine hK.out _ _ (HSW.out _ HYS.out) (fun _ => ?_)
            clear hK K
            refine wpAnyH_done (by kernel_rfl) ?_ _
            go_wp2_with fail
            exact ⟨⟨k + 1, wa', wc', _, _, _, D', by omega, by go_num, HP2, HOK1, HBF2⟩, by simp [intOf]; omega⟩
          · skip
            go_simp
            refine (HNDC.out _ HP0.out).mono ?_
            rintro e v1 ⟨xs, sa, sc, D', rfl, hxl, hxi, hnw, hdl, hdo, hds, hme1, hdg1, hkp, hx5, hx1⟩
            have HP1 := hide (HP0.out.turned hdl hkp hme1 hdg1)
            have HY1 := hide (hkp.blk HY0.out (fun e => by have h1 := HPY.out; have h2 := HDY.out; rcases e with e | e <;> omega))
            have HKP := hide hkp
            have HXL := hide hxl
            have HXI := hide hxi
            have HOK1 := hide (hok.out.more (P := P) (Dg := Dg) (wa := wa) (wc := wc) (w := v0) (w' := v1) (e := .returned .nilFunc) HHR.out hlt hnw hdl hdo (deep_top hok.out.top hds (by have := hok.out.len; omega)) hx5 hx1)
            clear hxl hxi hnw hdl hdo hds hme1 hdg1 hkp hx5 hx1
            refine hK.out _ _ (HSW.out _ HY1.out) (fun _ => ?_)
            clear hK K
            refine wpAnyH_ready (rs := [4, 8]) (by kernel_rfl) (by simp) ?_
            refine AllReadyH.cons rfl (fun K hK => ?_) (AllReadyH.cons rfl (fun K hK => ?_) AllReadyH.nil)
            · skip
              have k1 := blk_cell HP1.out.me 2
              have k1 : _ = some (Value.slice wa k wc) := k1
              go_simp
              clear k1
              refine hK.out _ _ (HSW.out _ HY1.out) (fun _ => ?_)
              clear hK K
              refine wpAnyH_ready (rs := [8]) (by kernel_rfl) (by simp) ?_
              refine AllReadyH.cons rfl (fun K hK => ?_) AllReadyH.nil
              go_simp
              have HBA := hide (below_alloc v1 (.cells #[.slice sa xs.length sc] 23))
              have HPA := hide (HP1.out.below HBA.out)
              have HYA := hide (Below.blk HBA.out HY1.out)
              refine hK.out _ _ (HSW.out _ HYA.out) (fun _ => ?_)
              clear hK K
              refine wpAnyH_ready (rs := [9]) (by kernel_rfl) (by simp) ?_
              refine AllReadyH.cons rfl (fun K hK => ?_) AllReadyH.nil
              have HVS := hide HKP.out.size
              obtain ⟨wa', wc', v2, happ, hpk2, hvP, hold, hsz, hos, htp, hou⟩ := HP1.out.more (by have h1 := HB0.out.size; have h2 := HVS.out; omega) (by omega) xs sa sc v0.heap.size ⟨HB0.out.size, blk_lt HP0.out.me, blk_lt HP0.out.deep, fun b hb => (HP0.out.row.own.lt b hb).2⟩ HXL.out HXI.out
              have HP2 := hide hpk2
              have HVP := hide (hvP.trans HP1.out.me)
              have HY2 : Hid (v2.heap[Y]? = some (.cells #[.int .i64 op, .int .i64 a, .int .i64 bb, .int .i64 nx] 48 (0, 0))) := hide ((hold Y (blk_lt HY1.out) (fun e => by have := HWY.out _ e; omega)).trans HY1.out)
              have HBF : Hid (Below w.heap.size w v2) := hide ⟨hos.trans (HKP.out.os.trans HB0.out.os), htp.trans (HKP.out.tape.trans HB0.out.tape), hou.trans (HKP.out.output.trans HB0.out.output), Nat.le_trans HB0.out.size (Nat.le_trans HVS.out hsz), fun q hq => (hold q (by have h1 := HB0.out.size; have h2 := HVS.out; omega) (fun e => by have := HP0.out.row.new q e; omega)).trans ((HKP.out.block q (by have h1 := HB0.out.size; omega) (fun e => by have h1 := HPW.out; have h2 := HDW.out; rcases e with e | e <;> omega)).trans (HB0.out.block q hq))⟩
              have HBF2 := hide (below_set HBF.out P 2 (.slice wa' (k + 1) wc') HPW.out)
              have HYS : Hid ((v2.setCell ⟨P, 2, none⟩ (.slice wa' (k + 1) wc')).heap[Y]? = some (.cells #[.int .i64 op, .int .i64 a, .int .i64 bb, .int .i64 nx] 48 (0, 0))) := hide ((Below.heap_setCell v2 ⟨P, 2, none⟩ _ Y (fun e => by have h7 : Y = P := e; have := HPY.out; omega)).trans HY2.out)
              clear hpk2 hvP hold hsz hos htp hou
              refine (if_pos (by kernel_rfl)).mpr ?_
              refine wp_append_run happ _ _ rfl rfl rfl ?_
              simp only [Act.put, List.getElem_toArray, List.getElem_cons_succ, List.getElem_cons_zero, List.setIfInBounds_toArray, List.set_cons_zero, List.set_cons_succ]
              refine hK.out _ _ (HSW.out _ HY2.out) (fun _ => ?_)
              clear hK K happ
              refine wpAnyH_take (i := 10) (oi := ⟨some 76, _, _, _, _, _⟩) (v := (.pointer (some ⟨P, 0, none⟩))) rfl (by kernel_rfl) (by kernel_rfl) (by kernel_rfl) (fun _ _ _ h => h) (Or.inl ⟨by rfl, fun W hS => by (obtain ⟨s0, s1, s2, s3⟩ := hS; go_simp)⟩) (HSW.out _ HY2.out) ?_
              simp only [Act.put, List.setIfInBounds_toArray, List.set_cons_zero, List.set_cons_succ]
              refine wpAnyH_take (i := 11) (oi := ⟨some 77, _, _, _, _, _⟩) (v := (.pointer (some ⟨P, 2, none⟩))) rfl (by kernel_rfl) (by kernel_rfl) (by kernel_rfl) (fun _ _ _ h => h) (Or.inl ⟨by rfl, fun W hS => by (obtain ⟨s0, s1, s2, s3⟩ := hS; go_simp)⟩) (HSW.out _ HY2.out) ?_
              simp only [Act.put, List.setIfInBounds_toArray, List.set_cons_zero, List.set_cons_succ]
              refine wpAnyH_ready (rs := [12]) (by kernel_rfl) (by simp) ?_
              refine AllReadyH.cons rfl (fun K hK => ?_) AllReadyH.nil
              have f4 : v2.frozen? ⟨P, 2, none⟩ = false := blk_frozen HVP.out 2
              have k4 : v2.cell? ⟨P, 2, none⟩ = some (.slice wa k wc) := by rw [blk_cell HVP.out]; rfl
              go_simp
              clear f4 k4
              refine hK.out _ _ (HSW.out _ HYS.out) (fun _ => ?_)
              clear hK K
              refine wpAnyH_done (by kernel_rfl) ?_ _
              go_wp2_with fail
              exact ⟨⟨k + 1, wa', wc', _, _, _, D', by omega, by go_num, HP2, HOK1, HBF2⟩, by simp [intOf]; omega⟩
            · skip
              go_simp
              have HBA := hide (below_alloc v1 (.cells #[.slice sa xs.length sc] 23))
              have HPA := hide (HP1.out.below HBA.out)
              have HYA := hide (Below.blk HBA.out HY1.out)
              refine hK.out _ _ (HSW.out _ HYA.out) (fun _ => ?_)
              clear hK K
              refine wpAnyH_ready (rs := [4]) (by kernel_rfl) (by simp) ?_
              refine AllReadyH.cons rfl (fun K hK => ?_) AllReadyH.nil
              have k1 := blk_cell HPA.out.me 2
              have k1 : _ = some (Value.slice wa k wc) := k1
              go_simp
              clear k1
              refine hK.out _ _ (HSW.out _ HYA.out) (fun _ => ?_)
              clear hK K
              refine wpAnyH_ready (rs := [9]) (by kernel_rfl) (by simp) ?_
              refine AllReadyH.cons rfl (fun K hK => ?_) AllReadyH.nil
              have HVS := hide HKP.out.size
              obtain ⟨wa', wc', v2, happ, hpk2, hvP, hold, hsz, hos, htp, hou⟩ := HP1.out.more (by have h1 := HB0.out.size; have h2 := HVS.out; omega) (by omega) xs sa sc v0.heap.size ⟨HB0.out.size, blk_lt HP0.out.me, blk_lt HP0.out.deep, fun b hb => (HP0.out.row.own.lt b hb).2⟩ HXL.out HXI.out
              have HP2 := hide hpk2
              have HVP := hide (hvP.trans HP1.out.me)
              have HY2 : Hid (v2.heap[Y]? = some (.cells #[.int .i64 op, .int .i64 a, .int .i64 bb, .int .i64 nx] 48 (0, 0))) := hide ((hold Y (blk_lt HY1.out) (fun e => by have := HWY.out _ e; omega)).trans HY1.out)
              have HBF : Hid (Below w.heap.size w v2) := hide ⟨hos.trans (HKP.out.os.trans HB0.out.os), htp.trans (HKP.out.tape.trans HB0.out.tape), hou.trans (HKP.out.output.trans HB0.out.output), Nat.le_trans HB0.out.size (Nat.le_trans HVS.out hsz), fun q hq => (hold q (by have h1 := HB0.out.size; have h2 := HVS.out; omega) (fun e => by have := HP0.out.row.new q e; omega)).trans ((HKP.out.block q (by have h1 := HB0.out.size; omega) (fun e => by have h1 := HPW.out; have h2 := HDW.out; rcases e with e | e <;> omega)).trans (HB0.out.block q hq))⟩
              have HBF2 := hide (below_set HBF.out P 2 (.slice wa' (k + 1) wc') HPW.out)
              have HYS : Hid ((v2.setCell ⟨P, 2, none⟩ (.slice wa' (k + 1) wc')).heap[Y]? = some (.cells #[.int .i64 op, .int .i64 a, .int .i64 bb, .int .i64 nx] 48 (0, 0))) := hide ((Below.heap_setCell v2 ⟨P, 2, none⟩ _ Y (fun e => by have h7 : Y = P := e; have := HPY.out; omega)).trans HY2.out)
              clear hpk2 hvP hold hsz hos htp hou
              refine (if_pos (by kernel_rfl)).mpr ?_
              refine wp_append_run happ _ _ rfl rfl rfl ?_
              simp only [Act.put, List.getElem_toArray, List.getElem_cons_succ, List.getElem_cons_zero, List.setIfInBounds_toArray, List.set_cons_zero, List.set_cons_succ]
              refine hK.out _ _ (HSW.out _ HY2.out) (fun _ => ?_)
              clear hK K happ
              refine wpAnyH_take (i := 10) (oi := ⟨some 76, _, _, _, _, _⟩) (v := (.pointer (some ⟨P, 0, none⟩))) rfl (by kernel_rfl) (by kernel_rfl) (by kernel_rfl) (fun _ _ _ h => h) (Or.inl ⟨by rfl, fun W hS => by (obtain ⟨s0, s1, s2, s3⟩ := hS; go_simp)⟩) (HSW.out _ HY2.out) ?_
              simp only [Act.put, List.setIfInBounds_toArray, List.set_cons_zero, List.set_cons_succ]
              refine wpAnyH_take (i := 11) (oi := ⟨some 77, _, _, _, _, _⟩) (v := (.pointer (some ⟨P, 2, none⟩))) rfl (by kernel_rfl) (by kernel_rfl) (by kernel_rfl) (fun _ _ _ h => h) (Or.inl ⟨by rfl, fun W hS => by (obtain ⟨s0, s1, s2, s3⟩ := hS; go_simp)⟩) (HSW.out _ HY2.out) ?_
              simp only [Act.put, List.setIfInBounds_toArray, List.set_cons_zero, List.set_cons_succ]
              refine wpAnyH_ready (rs := [12]) (by kernel_rfl) (by simp) ?_
              refine AllReadyH.cons rfl (fun K hK => ?_) AllReadyH.nil
              have f4 : v2.frozen? ⟨P, 2, none⟩ = false := blk_frozen HVP.out 2
              have k4 : v2.cell? ⟨P, 2, none⟩ = some (.slice wa k wc) := by rw [blk_cell HVP.out]; rfl
              go_simp
              clear f4 k4
              refine hK.out _ _ (HSW.out _ HYS.out) (fun _ => ?_)
              clear hK K
              refine wpAnyH_done (by kernel_rfl) ?_ _
              go_wp2_with fail
              exact ⟨⟨k + 1, wa', wc', _, _, _, D', by omega, by go_num, HP2, HOK1, HBF2⟩, by simp [intOf]; omega⟩
        · have HKL2 : Hid (k = ns.length) := hide (by omega)
          obtain rfl : k = ns.length := HKL2.out
          have HLAY := hide (lay_at hpk.out (HNW.out.below hbw.out) HHR.out HHO.out hok.out.node hn2 (by omega) ho2)
          have HPOK := hide (pack_ok HHR.out HHO.out hok.out.node)
          go_wp2_with fail
          refine HLAY.out.mono ?_
          rintro e w9 ⟨N, ra, la, oa, rc, lc, oc, ys, rfl, hN, hnt, hys, h1, h2, h3, h4, hb9⟩
          have HFIN : Hid (PackedNet gn ns os w (.returned (.tuple #[.pointer (some ⟨N, 0, none⟩), .nilIface])) w9) := hide (by
            have hz := hbw.out.size
            have him : ∀ (ao : Option Addr) (cs : List Value), Lies (FromB wr.heap.size) w9 ao cs → Lies (FromB w.heap.size) w9 ao cs := fun ao cs h => h.imp fun b _ hb => Nat.le_trans hz hb
            exact ⟨_, _, _, N, ra, la, oa, rc, lc, oc, ys, HPOK.out, rfl, Nat.le_trans hz hN, hnt, hys, him _ _ h1, him _ _ h2, fun y hy => him _ _ (h3 y hy), him _ _ h4, Below.step hbw.out hb9⟩)
          clear hnt hys h1 h2 h3 h4 hb9 HLAY HPOK hok hpk
          go_wp2_with fail
          go_ret2
          exact HFIN.out
end Go.Proofs.Ytacgepdmhdcdkaa
