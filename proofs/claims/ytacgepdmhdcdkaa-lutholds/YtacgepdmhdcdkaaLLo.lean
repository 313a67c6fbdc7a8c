/-
  CONTRACT of look at what is not laid yet. (Written by mkllo.py.)
-/
import Derived.Test.YtacgepdmhdcdkaaLLn
set_option linter.unusedSimpArgs false
set_option linter.unusedVariables false
namespace Go.Proofs.Ytacgepdmhdcdkaa
open Go.RowKit Go.Maps

set_option maxRecDepth 100000 in
set_option maxHeartbeats 6400000 in
theorem look_new0 {E P first n : Nat} {wa : Option Addr} {wc : Nat} {X : Nat → List Wy} {SA : Nat → Option Addr} {SC : Nat → Nat} {nv : NV} {W : World} {st : LSt} {la : Option Addr} {lc : Nat} {ys : List Wy} {D : DataW Unit} (h : LEnv E P first n wa wc X SA SC W) (hl : LayM E nv W st la lc ys D) (node : Nat) (hn : node < n) (hn6 : n ≤ 100000) (x : Wy) (xs : List Wy) (hX : X node = x :: xs) (hsm : sameL x.l = false) (h0 : x.l.ins.length = 0) (ht : 0 ≤ x.l.table ∧ (x.l.ins.length = 0 → x.l.table < 2)) (hf : findM st.M (codeM x.l node) = none) (g : Nat → LSt → Nat × LSt)
    (HF : Hid (∀ k, k ≤ x.l.ins.length → (foldTo g x.l.ins st k).2.L.length ≤ 50000 ∧ (foldTo g x.l.ins st k).2.M.length ≤ 50000 ∧ (foldTo g x.l.ins st k).1.length = k)) (HCN : Hid (findM (foldTo g x.l.ins st x.l.ins.length).2.M (codeM x.l node) = none)) (r : Nat × LSt) (HR : Hid (∀ l stk, foldTo g x.l.ins st x.l.ins.length = (l, stk) → r = (first + stk.L.length, ⟨stk.L ++ [⟨l, x.l.table⟩], stk.M ++ [(codeM x.l node, first + stk.L.length)]⟩))) (hf6 : first ≤ 100000) (h4 : x.l.ins.length ≤ 4)
    (HA : Hid (∀ k, k < x.l.ins.length → ∀ (W' : World) (la' : Option Addr) (lc' : Nat) (ys' : List Wy) (D' : DataW Unit), LEnv E P first n wa wc X SA SC W' → LayM E nv W' (foldTo g x.l.ins st k).2 la' lc' ys' D' → Calls Try.prog 35 #[.int .i64 (outAt x.l.ins k), .pointer (some ⟨E, 0, none⟩), .pointer (some ⟨E + 5, 0, none⟩)] W' fun e w' => LookD E nv la' (foldTo g x.l.ins st k).2.L.length lc' ys' (g (outAt x.l.ins k).toNat (foldTo g x.l.ins st k).2) W' e w')) :
    Calls Try.prog 36 #[.int .i64 node, .pointer (some ⟨E, 0, none⟩), .pointer (some ⟨E + 6, 0, none⟩), .pointer (some ⟨E + 4, 0, none⟩), .pointer (some ⟨E + 3, 0, none⟩)] W fun e w' => LookD E nv la st.L.length lc ys r W e w' := by
  have HV0 := hide hl.row.new
  have H0 := hide h0
  clear h0
  have HEB := hide h.size
  obtain ⟨wb, woff, xb, xoff, rfl, hsa, hwE, hxE, c2, c3, c4⟩ := h.way hn hX
  have c0 : W.cell? ⟨E, 0, none⟩ = some (.pointer (some ⟨P, 0, none⟩)) := by rw [blk_cell h.pb]; rfl
  have c1 := h.p2
  have hni : (node : Int) < (n : Int) := by omega
  have hx0 : 0 < (X node).length := by rw [hX]; simp
  have HB1 := hide (below_alloc W (.cells #[.slice x.a x.l.ins.length x.c, .int .i64 x.l.table] 44))
  have HE1 := hide (h.below HB1.out)
  have HL1 := hide (hl.below HB1.out)
  have HN1 := hide (blk_new W (.cells #[.slice x.a x.l.ins.length x.c, .int .i64 x.l.table] 44))
  have HS := hide (same_at x.l x.a x.c (W.alloc (.cells #[.slice x.a x.l.ins.length x.c, .int .i64 x.l.table] 44)))
  have HH := hide h
  have HLM := hide hl
  clear h hl
  go_enter Try.func36, Try.ntmps36
  go_wp2_with fail
  clear c0 c1 c2 c3 c4
  rw [hsm] at HS
  generalize W.alloc (.cells #[.slice x.a x.l.ins.length x.c, .int .i64 x.l.table] 44) = W1 at *
  refine HS.out.mono ?_
  rintro e W2 ⟨rfl, hb2⟩
  have HB2 := hide (Below.step HB1.out hb2)
  have HE2 := hide (HE1.out.below hb2)
  have HL2 := hide (HL1.out.below hb2)
  have HN2 := hide (Below.blk hb2 HN1.out)
  clear hb2 HE1 HL1 HN1 HB1 HS
  have y0 : W2.cell? ⟨W.heap.size, 0, none⟩ = some (.slice x.a x.l.ins.length x.c) := by rw [blk_cell HN2.out]; rfl
  have y1 : W2.cell? ⟨W.heap.size, 1, none⟩ = some (.int .i64 x.l.table) := by rw [blk_cell HN2.out]; rfl
  have mb : W2.cell? ⟨E + 4, 0, none⟩ = some (.map (some (E + 2))) := by rw [blk_cell HE2.out.mb]; rfl
  have hc6 : codeM x.l node ≤ 1000000 := by unfold codeM; split <;> omega
  obtain ⟨v, hlk⟩ := HL2.out.mp.look HL2.out.map (codeM x.l node) hc6
  rw [hf] at hlk
  have h0 := H0.out
  have HW3 := hide (NewAt.start HLM.out HEB.out HB2.out HN2.out)
  have hq : ((x.l.ins.length : Int) == 0) = true := by simp [h0]
  have hk : keyM (codeM x.l node) = -1 - x.l.table := by
    have := ht.2 h0
    unfold codeM keyM; rw [if_pos h0, if_pos (by omega)]; omega
  have hkw : IntKind.i64.wrap (-1 - x.l.table) = -1 - x.l.table := IntWalk.i64_in _ (by have := ht.2 h0; omega)
  rw [hk] at hlk
  have HK := hide hk
  have y2 : (W2.alloc (.cells #[.slice none 0 0, .int .i64 x.l.table] 44)).cell? ⟨W.heap.size, 0, none⟩ = some (.slice x.a x.l.ins.length x.c) := by rw [blk_cell HW3.out.box]; rfl
  clear hk h0 HL2 HLM
  go_wp2_with fail
  clear hlk y0 y1 y2 mb
  have HY := hide (blk_new W2 (.cells #[.slice none 0 0, .int .i64 x.l.table] 44))
  generalize hLB : W2.heap.size = LB at *
  generalize W2.alloc (.cells #[.slice none 0 0, .int .i64 x.l.table] 44) = W3 at *
  go_loopw [13, 55] (fun _ i wr => ∃ (k : Nat) (la' : Option Addr) (lc' : Nat) (ys' : List Wy) (D' : DataW Unit) (ia : Option Addr) (ic : Nat), k ≤ x.l.ins.length ∧ i = .int .i64 k ∧ Hid (NewAt E nv W (.slice la st.L.length lc) ys x LB (foldTo g x.l.ins st k).1 (foldTo g x.l.ins st k).2 wr la' lc' ys' D' ia ic)) (fun _ i _ => x.l.ins.length - (intOf i).toNat)
  case atStart => exact ⟨0, la, lc, ys, D, none, 0, Nat.zero_le _, rfl, HW3⟩
  case round =>
    obtain ⟨k, la', lc', ys', D', ia, ic, hk, rfl, hnw⟩ := hrel
    have HFK := hide (HF.out k hk)
    by_cases hlt : k < x.l.ins.length
    · have hki : (k : Int) < (x.l.ins.length : Int) := by omega
      have HAK := hide (HA.out k hlt)
      have HF1 := hide (HF.out (k + 1) hlt)
      have HFS : Hid (foldTo g x.l.ins st (k + 1) = ((foldTo g x.l.ins st k).1 ++ [((g (outAt x.l.ins k).toNat (foldTo g x.l.ins st k).2).1 : Int)], (g (outAt x.l.ins k).toNat (foldTo g x.l.ins st k).2).2)) := hide rfl
      have HEW := hide (LEnv.new HH.out hnw.out HV0.out)
      obtain ⟨ib, ioff, hia, hic⟩ : ∃ ib ioff, x.a = some ⟨ib, ioff, none⟩ ∧ wr.cell? ⟨ib, ioff + k, none⟩ = some (.int .i64 (outAt x.l.ins k)) := by
        rcases (HEW.out.each node hn).2 x (by rw [hX]; exact List.mem_cons_self ..) with hz | ⟨ib, ioff, g1, g2, g3⟩
        · have := congrArg List.length hz; simp only [intsC, List.length_map, List.length_nil] at this; omega
        · exact ⟨ib, ioff, g1, g3 k _ (by simp [intsC, outAt, hlt])⟩
      generalize foldTo g x.l.ins st k = Fk at *
      obtain ⟨l, stk⟩ := Fk
      simp only at hnw HAK HFS HFK
      obtain ⟨hL5, hM5, hlk⟩ := HFK.out
      have HLK := hide hlk
      clear HFK
      generalize hv : outAt x.l.ins k = vk at *
      rw [hia]
      go_wp2_with fail
      clear hic
      have HW0 := hide (hnw.out.below (Below.refl _ _).drew)
      have HE0 := hide (HEW.out.below (Below.refl _ _).drew)
      have HSW : Hid (∀ (W' : World), LEnv E P first n (some ⟨wb, woff, none⟩) wc X SA SC W' → W'.cell? ⟨E + 6, 0, none⟩ = some (.func (.func 35) #[] #[.pointer (some ⟨E, 0, none⟩), .pointer (some ⟨E + 5, 0, none⟩)])) := hide fun W' h2 => by rw [blk_cell h2.ah]; rfl
      refine wp_region_held_drew (S := fun W => W.cell? ⟨E + 6, 0, none⟩ = some (.func (.func 35) #[] #[.pointer (some ⟨E, 0, none⟩), .pointer (some ⟨E + 5, 0, none⟩)])) (by kernel_rfl) (HSW.out _ HE0.out) (fun _ => ?_)
      clear hnw HEW
      generalize wr.drew = w0 at *
      refine wpAnyH_take (i := 0) (oi := ⟨some 59, _, _, _, _, _⟩) (v := (.pointer (some ⟨LB, 0, none⟩))) rfl (by kernel_rfl) (by kernel_rfl) (by kernel_rfl) (fun _ _ _ h => h) (Or.inl ⟨by rfl, fun W hS => by (have s0 := hS; go_simp)⟩) (HSW.out _ HE0.out) ?_
      simp only [Act.put, List.setIfInBounds_toArray, List.set_cons_zero, List.set_cons_succ]
      refine wpAnyH_take (i := 2) (oi := ⟨some 61, _, _, _, _, _⟩) (v := (.func (.func 35) #[] #[.pointer (some ⟨E, 0, none⟩), .pointer (some ⟨E + 5, 0, none⟩)])) rfl (by kernel_rfl) (by kernel_rfl) (by kernel_rfl) (fun _ _ _ h => h) (Or.inl ⟨by rfl, fun W hS => by (have s0 := hS; go_simp)⟩) (HSW.out _ HE0.out) ?_
      simp only [Act.put, List.setIfInBounds_toArray, List.set_cons_zero, List.set_cons_succ]
      refine wpAnyH_take (i := 3) (oi := ⟨some 62, _, _, _, _, _⟩) (v := (.int .i64 vk)) rfl (by kernel_rfl) (by kernel_rfl) (by kernel_rfl) (fun _ _ _ h => h) (Or.inl ⟨by rfl, fun W hS => by (have s0 := hS; go_simp)⟩) (HSW.out _ HE0.out) ?_
      simp only [Act.put, List.setIfInBounds_toArray, List.set_cons_zero, List.set_cons_succ]
      refine wpAnyH_ready (rs := [1, 4]) (by kernel_rfl) (by simp) ?_
      refine AllReadyH.cons rfl (fun K hK => ?_) (AllReadyH.cons rfl (fun K hK => ?_) AllReadyH.nil)
      · skip
        have k1 := blk_cell HW0.out.me 0
        rw [HLK.out] at k1
        have k1 : _ = some (Value.slice ia k ic) := k1
        go_simp
        clear k1
        refine hK.out _ _ (HSW.out _ HE0.out) (fun _ => ?_)
        clear hK K
        refine wpAnyH_ready (rs := [4]) (by kernel_rfl) (by simp) ?_
        refine AllReadyH.cons rfl (fun K hK => ?_) AllReadyH.nil
        go_simp
        refine (HAK.out _ _ _ _ _ HE0.out HW0.out.lay).mono ?_
        intro e w1 hd
        obtain ⟨la1, lc1, ys1, D1, rfl, hw1, hkl1⟩ := HW0.out.look hd
        have HW1 := hide hw1
        have HE1 := hide (HE0.out.kl hkl1 HW0.out.lay.row.new)
        clear hw1 hkl1 hd HW0 HE0 HAK
        generalize g vk.toNat stk = rg at *
        obtain ⟨sg, stg⟩ := rg
        simp only at HW1 HFS
        rw [HFS.out] at HF1
        simp only at HF1
        refine hK.out _ _ (HSW.out _ HE1.out) (fun _ => ?_)
        clear hK K
        refine wpAnyH_ready (rs := [5]) (by kernel_rfl) (by simp) ?_
        refine AllReadyH.cons rfl (fun K hK => ?_) AllReadyH.nil
        go_simp
        have HBA := hide (below_alloc w1 (.cells #[.int .i64 (sg : Int)] 3))
        have HWA := hide (HW1.out.below HBA.out)
        have HEA := hide (HE1.out.below HBA.out)
        refine hK.out _ _ (HSW.out _ HEA.out) (fun _ => ?_)
        clear hK K
        refine wpAnyH_ready (rs := [6]) (by kernel_rfl) (by simp) ?_
        refine AllReadyH.cons rfl (fun K hK => ?_) AllReadyH.nil
        obtain ⟨ia2, ic2, w2, happ, hw2, hold⟩ := HW1.out.push (sg : Int) (by rw [HLK.out]; omega)
        have HW2 := hide hw2
        rw [HLK.out] at happ HW2
        have me2 := (hold LB (Nat.le_refl _)).trans HW1.out.me
        rw [HLK.out] at me2
        have HME2 := hide me2
        have HAH2 := hide ((hold (E + 6) (by have := HW1.out.lb; have := HEB.out; omega)).trans HE1.out.ah)
        clear hw2 hold me2
        refine (if_pos (by kernel_rfl)).mpr ?_
        refine wp_append_run happ _ _ rfl rfl rfl ?_
        simp only [Act.put, List.getElem_toArray, List.getElem_cons_succ, List.getElem_cons_zero, List.setIfInBounds_toArray, List.set_cons_zero, List.set_cons_succ]
        have HS2 : Hid (w2.cell? ⟨E + 6, 0, none⟩ = some (.func (.func 35) #[] #[.pointer (some ⟨E, 0, none⟩), .pointer (some ⟨E + 5, 0, none⟩)])) := hide (by rw [blk_cell HAH2.out]; rfl)
        refine hK.out _ _ HS2.out (fun _ => ?_)
        clear hK K happ
        refine wpAnyH_take (i := 7) (oi := ⟨some 66, _, _, _, _, _⟩) (v := (.pointer (some ⟨LB, 0, none⟩))) rfl (by kernel_rfl) (by kernel_rfl) (by kernel_rfl) (fun _ _ _ h => h) (Or.inl ⟨by rfl, fun W hS => by (have s0 := hS; go_simp)⟩) HS2.out ?_
        simp only [Act.put, List.setIfInBounds_toArray, List.set_cons_zero, List.set_cons_succ]
        refine wpAnyH_ready (rs := [8]) (by kernel_rfl) (by simp) ?_
        refine AllReadyH.cons rfl (fun K hK => ?_) AllReadyH.nil
        have f4 : w2.frozen? ⟨LB, 0, none⟩ = false := blk_frozen HME2.out 0
        have k4 : w2.cell? ⟨LB, 0, none⟩ = some (.slice ia k ic) := by rw [blk_cell HME2.out]; rfl
        have HS3 : Hid ((w2.setCell ⟨LB, 0, none⟩ (.slice ia2 (k + 1) ic2)).cell? ⟨E + 6, 0, none⟩ = some (.func (.func 35) #[] #[.pointer (some ⟨E, 0, none⟩), .pointer (some ⟨E + 5, 0, none⟩)])) := hide (cell_same HS2.out (Below.heap_setCell w2 ⟨LB, 0, none⟩ _ (E + 6) (fun e => by have h7 : E + 6 = LB := e; have := HW1.out.lb; have := HEB.out; omega)))
        go_simp
        clear f4 k4
        refine hK.out _ _ HS3.out (fun _ => ?_)
        clear hK K
        refine wpAnyH_done (by kernel_rfl) ?_ _
        go_wp2_with fail
        exact ⟨⟨k + 1, la1, lc1, ys1, D1, ia2, ic2, by omega, by go_num, by rw [HFS.out]; exact HW2⟩, by simp [intOf]; omega⟩
      · skip
        go_simp
        refine (HAK.out _ _ _ _ _ HE0.out HW0.out.lay).mono ?_
        intro e w1 hd
        obtain ⟨la1, lc1, ys1, D1, rfl, hw1, hkl1⟩ := HW0.out.look hd
        have HW1 := hide hw1
        have HE1 := hide (HE0.out.kl hkl1 HW0.out.lay.row.new)
        clear hw1 hkl1 hd HW0 HE0 HAK
        generalize g vk.toNat stk = rg at *
        obtain ⟨sg, stg⟩ := rg
        simp only at HW1 HFS
        rw [HFS.out] at HF1
        simp only at HF1
        refine hK.out _ _ (HSW.out _ HE1.out) (fun _ => ?_)
        clear hK K
        refine wpAnyH_ready (rs := [1, 5]) (by kernel_rfl) (by simp) ?_
        refine AllReadyH.cons rfl (fun K hK => ?_) (AllReadyH.cons rfl (fun K hK => ?_) AllReadyH.nil)
        · skip
          have k1 := blk_cell HW1.out.me 0
          rw [HLK.out] at k1
          have k1 : _ = some (Value.slice ia k ic) := k1
          go_simp
          clear k1
          refine hK.out _ _ (HSW.out _ HE1.out) (fun _ => ?_)
          clear hK K
          refine wpAnyH_ready (rs := [5]) (by kernel_rfl) (by simp) ?_
          refine AllReadyH.cons rfl (fun K hK => ?_) AllReadyH.nil
          go_simp
          have HBA := hide (below_alloc w1 (.cells #[.int .i64 (sg : Int)] 3))
          have HWA := hide (HW1.out.below HBA.out)
          have HEA := hide (HE1.out.below HBA.out)
          refine hK.out _ _ (HSW.out _ HEA.out) (fun _ => ?_)
          clear hK K
          refine wpAnyH_ready (rs := [6]) (by kernel_rfl) (by simp) ?_
          refine AllReadyH.cons rfl (fun K hK => ?_) AllReadyH.nil
          obtain ⟨ia2, ic2, w2, happ, hw2, hold⟩ := HW1.out.push (sg : Int) (by rw [HLK.out]; omega)
          have HW2 := hide hw2
          rw [HLK.out] at happ HW2
          have me2 := (hold LB (Nat.le_refl _)).trans HW1.out.me
          rw [HLK.out] at me2
          have HME2 := hide me2
          have HAH2 := hide ((hold (E + 6) (by have := HW1.out.lb; have := HEB.out; omega)).trans HE1.out.ah)
          clear hw2 hold me2
          refine (if_pos (by kernel_rfl)).mpr ?_
          refine wp_append_run happ _ _ rfl rfl rfl ?_
          simp only [Act.put, List.getElem_toArray, List.getElem_cons_succ, List.getElem_cons_zero, List.setIfInBounds_toArray, List.set_cons_zero, List.set_cons_succ]
          have HS2 : Hid (w2.cell? ⟨E + 6, 0, none⟩ = some (.func (.func 35) #[] #[.pointer (some ⟨E, 0, none⟩), .pointer (some ⟨E + 5, 0, none⟩)])) := hide (by rw [blk_cell HAH2.out]; rfl)
          refine hK.out _ _ HS2.out (fun _ => ?_)
          clear hK K happ
          refine wpAnyH_take (i := 7) (oi := ⟨some 66, _, _, _, _, _⟩) (v := (.pointer (some ⟨LB, 0, none⟩))) rfl (by kernel_rfl) (by kernel_rfl) (by kernel_rfl) (fun _ _ _ h => h) (Or.inl ⟨by rfl, fun W hS => by (have s0 := hS; go_simp)⟩) HS2.out ?_
          simp only [Act.put, List.setIfInBounds_toArray, List.set_cons_zero, List.set_cons_succ]
          refine wpAnyH_ready (rs := [8]) (by kernel_rfl) (by simp) ?_
          refine AllReadyH.cons rfl (fun K hK => ?_) AllReadyH.nil
          have f4 : w2.frozen? ⟨LB, 0, none⟩ = false := blk_frozen HME2.out 0
          have k4 : w2.cell? ⟨LB, 0, none⟩ = some (.slice ia k ic) := by rw [blk_cell HME2.out]; rfl
          have HS3 : Hid ((w2.setCell ⟨LB, 0, none⟩ (.slice ia2 (k + 1) ic2)).cell? ⟨E + 6, 0, none⟩ = some (.func (.func 35) #[] #[.pointer (some ⟨E, 0, none⟩), .pointer (some ⟨E + 5, 0, none⟩)])) := hide (cell_same HS2.out (Below.heap_setCell w2 ⟨LB, 0, none⟩ _ (E + 6) (fun e => by have h7 : E + 6 = LB := e; have := HW1.out.lb; have := HEB.out; omega)))
          go_simp
          clear f4 k4
          refine hK.out _ _ HS3.out (fun _ => ?_)
          clear hK K
          refine wpAnyH_done (by kernel_rfl) ?_ _
          go_wp2_with fail
          exact ⟨⟨k + 1, la1, lc1, ys1, D1, ia2, ic2, by omega, by go_num, by rw [HFS.out]; exact HW2⟩, by simp [intOf]; omega⟩
        · skip
          go_simp
          have HBA := hide (below_alloc w1 (.cells #[.int .i64 (sg : Int)] 3))
          have HWA := hide (HW1.out.below HBA.out)
          have HEA := hide (HE1.out.below HBA.out)
          refine hK.out _ _ (HSW.out _ HEA.out) (fun _ => ?_)
          clear hK K
          refine wpAnyH_ready (rs := [1]) (by kernel_rfl) (by simp) ?_
          refine AllReadyH.cons rfl (fun K hK => ?_) AllReadyH.nil
          have k1 := blk_cell HWA.out.me 0
          rw [HLK.out] at k1
          have k1 : _ = some (Value.slice ia k ic) := k1
          go_simp
          clear k1
          refine hK.out _ _ (HSW.out _ HEA.out) (fun _ => ?_)
          clear hK K
          refine wpAnyH_ready (rs := [6]) (by kernel_rfl) (by simp) ?_
          refine AllReadyH.cons rfl (fun K hK => ?_) AllReadyH.nil
          obtain ⟨ia2, ic2, w2, happ, hw2, hold⟩ := HW1.out.push (sg : Int) (by rw [HLK.out]; omega)
          have HW2 := hide hw2
          rw [HLK.out] at happ HW2
          have me2 := (hold LB (Nat.le_refl _)).trans HW1.out.me
          rw [HLK.out] at me2
          have HME2 := hide me2
          have HAH2 := hide ((hold (E + 6) (by have := HW1.out.lb; have := HEB.out; omega)).trans HE1.out.ah)
          clear hw2 hold me2
          refine (if_pos (by kernel_rfl)).mpr ?_
          refine wp_append_run happ _ _ rfl rfl rfl ?_
          simp only [Act.put, List.getElem_toArray, List.getElem_cons_succ, List.getElem_cons_zero, List.setIfInBounds_toArray, List.set_cons_zero, List.set_cons_succ]
          have HS2 : Hid (w2.cell? ⟨E + 6, 0, none⟩ = some (.func (.func 35) #[] #[.pointer (some ⟨E, 0, none⟩), .pointer (some ⟨E + 5, 0, none⟩)])) := hide (by rw [blk_cell HAH2.out]; rfl)
          refine hK.out _ _ HS2.out (fun _ => ?_)
          clear hK K happ
          refine wpAnyH_take (i := 7) (oi := ⟨some 66, _, _, _, _, _⟩) (v := (.pointer (some ⟨LB, 0, none⟩))) rfl (by kernel_rfl) (by kernel_rfl) (by kernel_rfl) (fun _ _ _ h => h) (Or.inl ⟨by rfl, fun W hS => by (have s0 := hS; go_simp)⟩) HS2.out ?_
          simp only [Act.put, List.setIfInBounds_toArray, List.set_cons_zero, List.set_cons_succ]
          refine wpAnyH_ready (rs := [8]) (by kernel_rfl) (by simp) ?_
          refine AllReadyH.cons rfl (fun K hK => ?_) AllReadyH.nil
          have f4 : w2.frozen? ⟨LB, 0, none⟩ = false := blk_frozen HME2.out 0
          have k4 : w2.cell? ⟨LB, 0, none⟩ = some (.slice ia k ic) := by rw [blk_cell HME2.out]; rfl
          have HS3 : Hid ((w2.setCell ⟨LB, 0, none⟩ (.slice ia2 (k + 1) ic2)).cell? ⟨E + 6, 0, none⟩ = some (.func (.func 35) #[] #[.pointer (some ⟨E, 0, none⟩), .pointer (some ⟨E + 5, 0, none⟩)])) := hide (cell_same HS2.out (Below.heap_setCell w2 ⟨LB, 0, none⟩ _ (E + 6) (fun e => by have h7 : E + 6 = LB := e; have := HW1.out.lb; have := HEB.out; omega)))
          go_simp
          clear f4 k4
          refine hK.out _ _ HS3.out (fun _ => ?_)
          clear hK K
          refine wpAnyH_done (by kernel_rfl) ?_ _
          go_wp2_with fail
          exact ⟨⟨k + 1, la1, lc1, ys1, D1, ia2, ic2, by omega, by go_num, by rw [HFS.out]; exact HW2⟩, by simp [intOf]; omega⟩
    · have HKL : Hid (k = x.l.ins.length) := hide (by omega)
      obtain rfl : k = x.l.ins.length := HKL.out
      generalize hFk : foldTo g x.l.ins st x.l.ins.length = Fk at *
      obtain ⟨l, stk⟩ := Fk
      simp only at hnw HFK HCN
      obtain ⟨hL5, hM5, hll⟩ := HFK.out
      have hr := HR.out l stk rfl
      subst hr
      have HLL := hide hll
      have HEW := hide (LEnv.new HH.out hnw.out HV0.out)
      clear hFk hll HFK HR HF HA
      go_wp2_with fail
      have HW0 := hide (hnw.out.below (Below.refl _ _).drew)
      have HE0 := hide (HEW.out.below (Below.refl _ _).drew)
      have HS14 : Hid (∀ (W' : World) (M : List (Nat × Nat)) (Dq : DataW Unit), LEnv E P first n (some ⟨wb, woff, none⟩) wc X SA SC W' → NewAt E nv W (.slice la st.L.length lc) ys x LB l ⟨stk.L, M⟩ W' la' lc' ys' Dq ia ic → W'.cell? ⟨E + 4, 0, none⟩ = some (.map (some (E + 2))) ∧ W'.cell? ⟨E, 0, none⟩ = some (.pointer (some ⟨P, 0, none⟩)) ∧ W'.cell? ⟨P, 0, none⟩ = some (.int .i64 first) ∧ W'.cell? ⟨E + 3, 0, none⟩ = some (.pointer (some ⟨E + 1, 0, none⟩)) ∧ W'.cell? ⟨E + 1, 2, none⟩ = some (.slice la' stk.L.length lc')) := hide fun W' M Dq h1 h2 => ⟨by rw [blk_cell h1.mb]; rfl, by rw [blk_cell h1.pb]; rfl, h1.p0, by rw [blk_cell h1.nb]; rfl, by rw [blk_cell h2.lay.nt]; rfl⟩
      refine wp_region_held_drew (S := fun W' => W'.cell? ⟨E + 4, 0, none⟩ = some (.map (some (E + 2))) ∧ W'.cell? ⟨E, 0, none⟩ = some (.pointer (some ⟨P, 0, none⟩)) ∧ W'.cell? ⟨P, 0, none⟩ = some (.int .i64 first) ∧ W'.cell? ⟨E + 3, 0, none⟩ = some (.pointer (some ⟨E + 1, 0, none⟩)) ∧ W'.cell? ⟨E + 1, 2, none⟩ = some (.slice la' stk.L.length lc')) (by kernel_rfl) (HS14.out _ _ _ HE0.out HW0.out) (fun _ => ?_)
      clear hnw HEW
      generalize wr.drew = w0 at *
      obtain ⟨w1, hmu, hw1⟩ := HW0.out.put (codeM x.l node) (first + stk.L.length) hc6 (by omega) (by omega) HCN.out
      have hcs : ((first + stk.L.length : Nat) : Int) = (first : Int) + (stk.L.length : Int) := by omega
      have HCS := hide hcs
      have hwf : IntKind.i64.wrap ((first : Int) + (stk.L.length : Int)) = (first : Int) + (stk.L.length : Int) := IntWalk.i64_in _ (by omega)
      rw [HK.out, hcs] at hmu
      have HMU := hide hmu
      have HW1 := hide hw1
      have HE1 := hide (LEnv.new HH.out hw1 HV0.out)
      clear hcs hmu hw1
      refine wpAnyH_take (i := 0) (oi := ⟨some 68, _, _, _, _, _⟩) (v := (.map (some (E + 2)))) rfl (by kernel_rfl) (by kernel_rfl) (by kernel_rfl) (fun _ _ _ h => h) (Or.inl ⟨by rfl, fun W hS => by (obtain ⟨s0, s1, s2, s3, s4⟩ := hS; go_simp)⟩) (HS14.out _ _ _ HE0.out HW0.out) ?_
      simp only [Act.put, List.setIfInBounds_toArray, List.set_cons_zero, List.set_cons_succ]
      refine wpAnyH_take (i := 1) (oi := ⟨some 69, _, _, _, _, _⟩) (v := (.int .i64 (-1 - x.l.table))) rfl (by kernel_rfl) (by kernel_rfl) (by kernel_rfl) (fun _ _ _ h => h) (Or.inl ⟨by rfl, fun W hS => by (obtain ⟨s0, s1, s2, s3, s4⟩ := hS; go_simp)⟩) (HS14.out _ _ _ HE0.out HW0.out) ?_
      simp only [Act.put, List.setIfInBounds_toArray, List.set_cons_zero, List.set_cons_succ]
      refine wpAnyH_take (i := 2) (oi := ⟨some 70, _, _, _, _, _⟩) (v := (.pointer (some ⟨P, 0, none⟩))) rfl (by kernel_rfl) (by kernel_rfl) (by kernel_rfl) (fun _ _ _ h => h) (Or.inl ⟨by rfl, fun W hS => by (obtain ⟨s0, s1, s2, s3, s4⟩ := hS; go_simp)⟩) (HS14.out _ _ _ HE0.out HW0.out) ?_
      simp only [Act.put, List.setIfInBounds_toArray, List.set_cons_zero, List.set_cons_succ]
      refine wpAnyH_take (i := 6) (oi := ⟨some 74, _, _, _, _, _⟩) (v := (.pointer (some ⟨E + 1, 0, none⟩))) rfl (by kernel_rfl) (by kernel_rfl) (by kernel_rfl) (fun _ _ _ h => h) (Or.inl ⟨by rfl, fun W hS => by (obtain ⟨s0, s1, s2, s3, s4⟩ := hS; go_simp)⟩) (HS14.out _ _ _ HE0.out HW0.out) ?_
      simp only [Act.put, List.setIfInBounds_toArray, List.set_cons_zero, List.set_cons_succ]
      refine wpAnyH_take (i := 3) (oi := ⟨some 71, _, _, _, _, _⟩) (v := (.pointer (some ⟨P, 0, none⟩))) rfl (by kernel_rfl) (by kernel_rfl) (by kernel_rfl) (fun _ _ _ h => h) (Or.inl ⟨by rfl, fun W hS => by (obtain ⟨s0, s1, s2, s3, s4⟩ := hS; go_simp)⟩) (HS14.out _ _ _ HE0.out HW0.out) ?_
      simp only [Act.put, List.setIfInBounds_toArray, List.set_cons_zero, List.set_cons_succ]
      refine wpAnyH_take (i := 7) (oi := ⟨some 75, _, _, _, _, _⟩) (v := (.pointer (some ⟨E + 1, 0, none⟩))) rfl (by kernel_rfl) (by kernel_rfl) (by kernel_rfl) (fun _ _ _ h => h) (Or.inl ⟨by rfl, fun W hS => by (obtain ⟨s0, s1, s2, s3, s4⟩ := hS; go_simp)⟩) (HS14.out _ _ _ HE0.out HW0.out) ?_
      simp only [Act.put, List.setIfInBounds_toArray, List.set_cons_zero, List.set_cons_succ]
      refine wpAnyH_take (i := 4) (oi := ⟨some 72, _, _, _, _, _⟩) (v := (.pointer (some ⟨P, 0, none⟩))) rfl (by kernel_rfl) (by kernel_rfl) (by kernel_rfl) (fun _ _ _ h => h) (Or.inl ⟨by rfl, fun W hS => by (obtain ⟨s0, s1, s2, s3, s4⟩ := hS; go_simp)⟩) (HS14.out _ _ _ HE0.out HW0.out) ?_
      simp only [Act.put, List.setIfInBounds_toArray, List.set_cons_zero, List.set_cons_succ]
      refine wpAnyH_take (i := 8) (oi := ⟨some 76, _, _, _, _, _⟩) (v := (.pointer (some ⟨E + 1, 2, none⟩))) rfl (by kernel_rfl) (by kernel_rfl) (by kernel_rfl) (fun _ _ _ h => h) (Or.inl ⟨by rfl, fun W hS => by (obtain ⟨s0, s1, s2, s3, s4⟩ := hS; go_simp)⟩) (HS14.out _ _ _ HE0.out HW0.out) ?_
      simp only [Act.put, List.setIfInBounds_toArray, List.set_cons_zero, List.set_cons_succ]
      refine wpAnyH_take (i := 5) (oi := ⟨some 73, _, _, _, _, _⟩) (v := (.int .i64 first)) rfl (by kernel_rfl) (by kernel_rfl) (by kernel_rfl) (fun _ _ _ h => h) (Or.inl ⟨by rfl, fun W hS => by (obtain ⟨s0, s1, s2, s3, s4⟩ := hS; go_simp)⟩) (HS14.out _ _ _ HE0.out HW0.out) ?_
      simp only [Act.put, List.setIfInBounds_toArray, List.set_cons_zero, List.set_cons_succ]
      refine wpAnyH_take (i := 9) (oi := ⟨some 77, _, _, _, _, _⟩) (v := (.slice la' stk.L.length lc')) rfl (by kernel_rfl) (by kernel_rfl) (by kernel_rfl) (fun _ _ _ h => h) (Or.inl ⟨by rfl, fun W hS => by (obtain ⟨s0, s1, s2, s3, s4⟩ := hS; go_simp)⟩) (HS14.out _ _ _ HE0.out HW0.out) ?_
      simp only [Act.put, List.setIfInBounds_toArray, List.set_cons_zero, List.set_cons_succ]
      refine wpAnyH_take (i := 10) (oi := ⟨some 78, _, _, _, _, _⟩) (v := (.int .i64 stk.L.length)) rfl (by kernel_rfl) (by kernel_rfl) (by kernel_rfl) (fun _ _ _ h => h) (Or.inl ⟨by rfl, fun W hS => by (obtain ⟨s0, s1, s2, s3, s4⟩ := hS; go_simp)⟩) (HS14.out _ _ _ HE0.out HW0.out) ?_
      simp only [Act.put, List.setIfInBounds_toArray, List.set_cons_zero, List.set_cons_succ]
      refine wpAnyH_take (i := 11) (oi := ⟨some 79, _, _, _, _, _⟩) (v := (.int .i64 ((first : Int) + (stk.L.length : Int)))) rfl (by kernel_rfl) (by kernel_rfl) (by kernel_rfl) (fun _ _ _ h => h) (Or.inl ⟨by rfl, fun W hS => by (obtain ⟨s0, s1, s2, s3, s4⟩ := hS; go_simp)⟩) (HS14.out _ _ _ HE0.out HW0.out) ?_
      simp only [Act.put, List.setIfInBounds_toArray, List.set_cons_zero, List.set_cons_succ]
      refine wpAnyH_ready (rs := [12]) (by kernel_rfl) (by simp) ?_
      refine AllReadyH.cons rfl (fun K hK => ?_) AllReadyH.nil
      have hmu := HMU.out
      go_simp
      clear hmu
      refine hK.out _ _ (HS14.out _ _ _ HE1.out HW1.out) (fun _ => ?_)
      clear hK K HMU HW0 HE0
      refine wpAnyH_done (by kernel_rfl) ?_ _
      go_wp2_with fail
      have HW2 := hide (HW1.out.below (Below.refl _ _).drew)
      have HE2 := hide (HE1.out.below (Below.refl _ _).drew)
      have HS15 : Hid (∀ W' : World, W'.heap[E + 3]? = some (.cells #[.pointer (some ⟨E + 1, 0, none⟩)] 35 (0, 0)) → W'.heap[LB]? = some (.cells #[.slice ia l.length ic, .int .i64 x.l.table] 44 (0, 0)) → W'.cell? ⟨E + 3, 0, none⟩ = some (.pointer (some ⟨E + 1, 0, none⟩)) ∧ W'.cell? ⟨LB, 0, none⟩ = some (.slice ia l.length ic) ∧ W'.cell? ⟨LB, 1, none⟩ = some (.int .i64 x.l.table)) := hide fun W' h1 h2 => ⟨by rw [blk_cell h1]; rfl, by rw [blk_cell h2]; rfl, by rw [blk_cell h2]; rfl⟩
      refine wp_region_held_drew (S := fun W' => W'.cell? ⟨E + 3, 0, none⟩ = some (.pointer (some ⟨E + 1, 0, none⟩)) ∧ W'.cell? ⟨LB, 0, none⟩ = some (.slice ia l.length ic) ∧ W'.cell? ⟨LB, 1, none⟩ = some (.int .i64 x.l.table)) (by kernel_rfl) (HS15.out _ HE2.out.nb HW2.out.me) (fun _ => ?_)
      clear HW1 HE1
      generalize w1.drew = w2 at *
      obtain ⟨la2, lc2, w3, happ, hlay3, hkl3, hown3, hold3, hin3⟩ := HW2.out.done hL5 HV0.out
      have HBA := hide (below_alloc w2 (.cells #[.slice ia l.length ic, .int .i64 x.l.table] 44))
      have HWA := hide (HW2.out.below HBA.out)
      have HEA := hide (HE2.out.below HBA.out)
      have hnb3 : w3.heap[E + 3]? = _ := (hold3 (E + 3) (by have := HW2.out.lb; have := HEB.out; omega) fun e => by have := HW2.out.lay.row.new _ e; omega).trans HE2.out.nb
      have hmb3 : w3.heap[LB]? = _ := (hold3 LB (Nat.le_refl _) fun e => (HW2.out.own _ e).2.2 rfl).trans HW2.out.me
      have hnt3 : w3.heap[E + 1]? = _ := (hold3 (E + 1) (by have := HW2.out.lb; have := HEB.out; omega) fun e => by have := HW2.out.lay.row.new _ e; omega).trans HW2.out.lay.nt
      have HNB3 := hide hnb3
      have HMB3 := hide hmb3
      have HNT3 := hide hnt3
      have HAPP := hide happ
      have HLAY3 := hide hlay3
      have HKL3 := hide hkl3
      have HOWN3 := hide hown3
      have HIN3 := hide fun c hc hy => hin3 c hc (HW2.out.old c hc hy)
      clear happ hlay3 hkl3 hown3 hold3 hin3 hnb3 hmb3 hnt3
      refine wpAnyH_take (i := 0) (oi := ⟨some 80, _, _, _, _, _⟩) (v := (.pointer (some ⟨E + 1, 0, none⟩))) rfl (by kernel_rfl) (by kernel_rfl) (by kernel_rfl) (fun _ _ _ h => h) (Or.inl ⟨by rfl, fun W hS => by (obtain ⟨s0, s1, s2⟩ := hS; go_simp)⟩) (HS15.out _ HE2.out.nb HW2.out.me) ?_
      simp only [Act.put, List.setIfInBounds_toArray, List.set_cons_zero, List.set_cons_succ]
      refine wpAnyH_take (i := 1) (oi := ⟨some 81, _, _, _, _, _⟩) (v := (.pointer (some ⟨E + 1, 0, none⟩))) rfl (by kernel_rfl) (by kernel_rfl) (by kernel_rfl) (fun _ _ _ h => h) (Or.inl ⟨by rfl, fun W hS => by (obtain ⟨s0, s1, s2⟩ := hS; go_simp)⟩) (HS15.out _ HE2.out.nb HW2.out.me) ?_
      simp only [Act.put, List.setIfInBounds_toArray, List.set_cons_zero, List.set_cons_succ]
      refine wpAnyH_take (i := 5) (oi := ⟨some 85, _, _, _, _, _⟩) (v := (.agg #[.slice ia l.length ic, .int .i64 x.l.table])) rfl (by kernel_rfl) (by kernel_rfl) (by kernel_rfl) (fun _ _ _ h => h) (Or.inl ⟨by rfl, fun W hS => by (obtain ⟨s0, s1, s2⟩ := hS; go_simp)⟩) (HS15.out _ HE2.out.nb HW2.out.me) ?_
      simp only [Act.put, List.setIfInBounds_toArray, List.set_cons_zero, List.set_cons_succ]
      refine wpAnyH_take (i := 2) (oi := ⟨some 82, _, _, _, _, _⟩) (v := (.pointer (some ⟨E + 1, 0, none⟩))) rfl (by kernel_rfl) (by kernel_rfl) (by kernel_rfl) (fun _ _ _ h => h) (Or.inl ⟨by rfl, fun W hS => by (obtain ⟨s0, s1, s2⟩ := hS; go_simp)⟩) (HS15.out _ HE2.out.nb HW2.out.me) ?_
      simp only [Act.put, List.setIfInBounds_toArray, List.set_cons_zero, List.set_cons_succ]
      refine wpAnyH_take (i := 3) (oi := ⟨some 83, _, _, _, _, _⟩) (v := (.pointer (some ⟨E + 1, 2, none⟩))) rfl (by kernel_rfl) (by kernel_rfl) (by kernel_rfl) (fun _ _ _ h => h) (Or.inl ⟨by rfl, fun W hS => by (obtain ⟨s0, s1, s2⟩ := hS; go_simp)⟩) (HS15.out _ HE2.out.nb HW2.out.me) ?_
      simp only [Act.put, List.setIfInBounds_toArray, List.set_cons_zero, List.set_cons_succ]
      refine wpAnyH_ready (rs := [4, 6]) (by kernel_rfl) (by simp) ?_
      refine AllReadyH.cons rfl (fun K hK => ?_) (AllReadyH.cons rfl (fun K hK => ?_) AllReadyH.nil)
      · skip
        have k1 : w2.cell? ⟨E + 1, 2, none⟩ = some (.slice la' stk.L.length lc') := by rw [blk_cell HW2.out.lay.nt]; rfl
        go_simp
        clear k1
        refine hK.out _ _ (HS15.out _ HE2.out.nb HW2.out.me) (fun _ => ?_)
        clear hK K
        refine wpAnyH_ready (rs := [6]) (by kernel_rfl) (by simp) ?_
        refine AllReadyH.cons rfl (fun K hK => ?_) AllReadyH.nil
        go_simp
        refine hK.out _ _ (HS15.out _ HEA.out.nb HWA.out.me) (fun _ => ?_)
        clear hK K
        refine wpAnyH_ready (rs := [7]) (by kernel_rfl) (by simp) ?_
        refine AllReadyH.cons rfl (fun K hK => ?_) AllReadyH.nil
        refine (if_pos (by kernel_rfl)).mpr ?_
        refine wp_append_run HAPP.out _ _ rfl rfl rfl ?_
        simp only [Act.put, List.getElem_toArray, List.getElem_cons_succ, List.getElem_cons_zero, List.setIfInBounds_toArray, List.set_cons_zero, List.set_cons_succ]
        refine hK.out _ _ (HS15.out _ HNB3.out HMB3.out) (fun _ => ?_)
        clear hK K HAPP
        refine wpAnyH_take (i := 8) (oi := ⟨some 88, _, _, _, _, _⟩) (v := (.pointer (some ⟨E + 1, 0, none⟩))) rfl (by kernel_rfl) (by kernel_rfl) (by kernel_rfl) (fun _ _ _ h => h) (Or.inl ⟨by rfl, fun W hS => by (obtain ⟨s0, s1, s2⟩ := hS; go_simp)⟩) (HS15.out _ HNB3.out HMB3.out) ?_
        simp only [Act.put, List.setIfInBounds_toArray, List.set_cons_zero, List.set_cons_succ]
        refine wpAnyH_take (i := 9) (oi := ⟨some 89, _, _, _, _, _⟩) (v := (.pointer (some ⟨E + 1, 2, none⟩))) rfl (by kernel_rfl) (by kernel_rfl) (by kernel_rfl) (fun _ _ _ h => h) (Or.inl ⟨by rfl, fun W hS => by (obtain ⟨s0, s1, s2⟩ := hS; go_simp)⟩) (HS15.out _ HNB3.out HMB3.out) ?_
        simp only [Act.put, List.setIfInBounds_toArray, List.set_cons_zero, List.set_cons_succ]
        refine wpAnyH_ready (rs := [10]) (by kernel_rfl) (by simp) ?_
        refine AllReadyH.cons rfl (fun K hK => ?_) AllReadyH.nil
        have f4 : w3.frozen? ⟨E + 1, 2, none⟩ = false := blk_frozen HNT3.out 2
        have k4 : w3.cell? ⟨E + 1, 2, none⟩ = some (.slice la' stk.L.length lc') := by rw [blk_cell HNT3.out]; rfl
        have HS4 := hide (HS15.out (w3.setCell ⟨E + 1, 2, none⟩ (.slice la2 (stk.L.length + 1) lc2)) ((Below.heap_setCell w3 ⟨E + 1, 2, none⟩ _ (E + 3) (fun e => by have h7 : E + 3 = E + 1 := e; omega)).trans HNB3.out) ((Below.heap_setCell w3 ⟨E + 1, 2, none⟩ _ LB (fun e => by have h7 : LB = E + 1 := e; have := HW2.out.lb; have := HEB.out; omega)).trans HMB3.out))
        go_simp
        clear f4 k4
        refine hK.out _ _ HS4.out (fun _ => ?_)
        clear hK K
        refine wpAnyH_done (by kernel_rfl) ?_ _
        have HE4 := hide (HH.out.kl HKL3.out HV0.out)
        have mb4 : (w3.setCell ⟨E + 1, 2, none⟩ (.slice la2 (stk.L.length + 1) lc2)).cell? ⟨E + 4, 0, none⟩ = some (.map (some (E + 2))) := by rw [blk_cell HE4.out.mb]; rfl
        have hget := HLAY3.out.mp.get HLAY3.out.map (codeM x.l node) (first + stk.L.length) hc6 (by rw [findM_app _ _ _ _ HCN.out, if_pos rfl])
        rw [HK.out, HCS.out] at hget
        go_wp2_with fail
        go_ret
        exact ⟨la2, lc2, _, _, ret_int HCS.out.symm, HLAY3.out, HKL3.out, fun b hb => HOWN3.out b (by rw [List.length_append] at hb; exact hb), HIN3.out⟩
      · skip
        go_simp
        refine hK.out _ _ (HS15.out _ HEA.out.nb HWA.out.me) (fun _ => ?_)
        clear hK K
        refine wpAnyH_ready (rs := [4]) (by kernel_rfl) (by simp) ?_
        refine AllReadyH.cons rfl (fun K hK => ?_) AllReadyH.nil
        have k1 : (w2.alloc (.cells #[.slice ia l.length ic, .int .i64 x.l.table] 44)).cell? ⟨E + 1, 2, none⟩ = some (.slice la' stk.L.length lc') := by rw [blk_cell HWA.out.lay.nt]; rfl
        go_simp
        clear k1
        refine hK.out _ _ (HS15.out _ HEA.out.nb HWA.out.me) (fun _ => ?_)
        clear hK K
        refine wpAnyH_ready (rs := [7]) (by kernel_rfl) (by simp) ?_
        refine AllReadyH.cons rfl (fun K hK => ?_) AllReadyH.nil
        refine (if_pos (by kernel_rfl)).mpr ?_
        refine wp_append_run HAPP.out _ _ rfl rfl rfl ?_
        simp only [Act.put, List.getElem_toArray, List.getElem_cons_succ, List.getElem_cons_zero, List.setIfInBounds_toArray, List.set_cons_zero, List.set_cons_succ]
        refine hK.out _ _ (HS15.out _ HNB3.out HMB3.out) (fun _ => ?_)
        clear hK K HAPP
        refine wpAnyH_take (i := 8) (oi := ⟨some 88, _, _, _, _, _⟩) (v := (.pointer (some ⟨E + 1, 0, none⟩))) rfl (by kernel_rfl) (by kernel_rfl) (by kernel_rfl) (fun _ _ _ h => h) (Or.inl ⟨by rfl, fun W hS => by (obtain ⟨s0, s1, s2⟩ := hS; go_simp)⟩) (HS15.out _ HNB3.out HMB3.out) ?_
        simp only [Act.put, List.setIfInBounds_toArray, List.set_cons_zero, List.set_cons_succ]
        refine wpAnyH_take (i := 9) (oi := ⟨some 89, _, _, _, _, _⟩) (v := (.pointer (some ⟨E + 1, 2, none⟩))) rfl (by kernel_rfl) (by kernel_rfl) (by kernel_rfl) (fun _ _ _ h => h) (Or.inl ⟨by rfl, fun W hS => by (obtain ⟨s0, s1, s2⟩ := hS; go_simp)⟩) (HS15.out _ HNB3.out HMB3.out) ?_
        simp only [Act.put, List.setIfInBounds_toArray, List.set_cons_zero, List.set_cons_succ]
        refine wpAnyH_ready (rs := [10]) (by kernel_rfl) (by simp) ?_
        refine AllReadyH.cons rfl (fun K hK => ?_) AllReadyH.nil
        have f4 : w3.frozen? ⟨E + 1, 2, none⟩ = false := blk_frozen HNT3.out 2
        have k4 : w3.cell? ⟨E + 1, 2, none⟩ = some (.slice la' stk.L.length lc') := by rw [blk_cell HNT3.out]; rfl
        have HS4 := hide (HS15.out (w3.setCell ⟨E + 1, 2, none⟩ (.slice la2 (stk.L.length + 1) lc2)) ((Below.heap_setCell w3 ⟨E + 1, 2, none⟩ _ (E + 3) (fun e => by have h7 : E + 3 = E + 1 := e; omega)).trans HNB3.out) ((Below.heap_setCell w3 ⟨E + 1, 2, none⟩ _ LB (fun e => by have h7 : LB = E + 1 := e; have := HW2.out.lb; have := HEB.out; omega)).trans HMB3.out))
        go_simp
        clear f4 k4
        refine hK.out _ _ HS4.out (fun _ => ?_)
        clear hK K
        refine wpAnyH_done (by kernel_rfl) ?_ _
        have HE4 := hide (HH.out.kl HKL3.out HV0.out)
        have mb4 : (w3.setCell ⟨E + 1, 2, none⟩ (.slice la2 (stk.L.length + 1) lc2)).cell? ⟨E + 4, 0, none⟩ = some (.map (some (E + 2))) := by rw [blk_cell HE4.out.mb]; rfl
        have hget := HLAY3.out.mp.get HLAY3.out.map (codeM x.l node) (first + stk.L.length) hc6 (by rw [findM_app _ _ _ _ HCN.out, if_pos rfl])
        rw [HK.out, HCS.out] at hget
        go_wp2_with fail
        go_ret
        exact ⟨la2, lc2, _, _, ret_int HCS.out.symm, HLAY3.out, HKL3.out, fun b hb => HOWN3.out b (by rw [List.length_append] at hb; exact hb), HIN3.out⟩

set_option maxRecDepth 100000 in
set_option maxHeartbeats 6400000 in
theorem look_new1 {E P first n : Nat} {wa : Option Addr} {wc : Nat} {X : Nat → List Wy} {SA : Nat → Option Addr} {SC : Nat → Nat} {nv : NV} {W : World} {st : LSt} {la : Option Addr} {lc : Nat} {ys : List Wy} {D : DataW Unit} (h : LEnv E P first n wa wc X SA SC W) (hl : LayM E nv W st la lc ys D) (node : Nat) (hn : node < n) (hn6 : n ≤ 100000) (x : Wy) (xs : List Wy) (hX : X node = x :: xs) (hsm : sameL x.l = false) (h0 : ¬ x.l.ins.length = 0) (ht : 0 ≤ x.l.table ∧ (x.l.ins.length = 0 → x.l.table < 2)) (hf : findM st.M (codeM x.l node) = none) (g : Nat → LSt → Nat × LSt)
    (HF : Hid (∀ k, k ≤ x.l.ins.length → (foldTo g x.l.ins st k).2.L.length ≤ 50000 ∧ (foldTo g x.l.ins st k).2.M.length ≤ 50000 ∧ (foldTo g x.l.ins st k).1.length = k)) (HCN : Hid (findM (foldTo g x.l.ins st x.l.ins.length).2.M (codeM x.l node) = none)) (r : Nat × LSt) (HR : Hid (∀ l stk, foldTo g x.l.ins st x.l.ins.length = (l, stk) → r = (first + stk.L.length, ⟨stk.L ++ [⟨l, x.l.table⟩], stk.M ++ [(codeM x.l node, first + stk.L.length)]⟩))) (hf6 : first ≤ 100000) (h4 : x.l.ins.length ≤ 4)
    (HA : Hid (∀ k, k < x.l.ins.length → ∀ (W' : World) (la' : Option Addr) (lc' : Nat) (ys' : List Wy) (D' : DataW Unit), LEnv E P first n wa wc X SA SC W' → LayM E nv W' (foldTo g x.l.ins st k).2 la' lc' ys' D' → Calls Try.prog 35 #[.int .i64 (outAt x.l.ins k), .pointer (some ⟨E, 0, none⟩), .pointer (some ⟨E + 5, 0, none⟩)] W' fun e w' => LookD E nv la' (foldTo g x.l.ins st k).2.L.length lc' ys' (g (outAt x.l.ins k).toNat (foldTo g x.l.ins st k).2) W' e w')) :
    Calls Try.prog 36 #[.int .i64 node, .pointer (some ⟨E, 0, none⟩), .pointer (some ⟨E + 6, 0, none⟩), .pointer (some ⟨E + 4, 0, none⟩), .pointer (some ⟨E + 3, 0, none⟩)] W fun e w' => LookD E nv la st.L.length lc ys r W e w' := by
  have HV0 := hide hl.row.new
  have H0 := hide h0
  clear h0
  have HEB := hide h.size
  obtain ⟨wb, woff, xb, xoff, rfl, hsa, hwE, hxE, c2, c3, c4⟩ := h.way hn hX
  have c0 : W.cell? ⟨E, 0, none⟩ = some (.pointer (some ⟨P, 0, none⟩)) := by rw [blk_cell h.pb]; rfl
  have c1 := h.p2
  have hni : (node : Int) < (n : Int) := by omega
  have hx0 : 0 < (X node).length := by rw [hX]; simp
  have HB1 := hide (below_alloc W (.cells #[.slice x.a x.l.ins.length x.c, .int .i64 x.l.table] 44))
  have HE1 := hide (h.below HB1.out)
  have HL1 := hide (hl.below HB1.out)
  have HN1 := hide (blk_new W (.cells #[.slice x.a x.l.ins.length x.c, .int .i64 x.l.table] 44))
  have HS := hide (same_at x.l x.a x.c (W.alloc (.cells #[.slice x.a x.l.ins.length x.c, .int .i64 x.l.table] 44)))
  have HH := hide h
  have HLM := hide hl
  clear h hl
  go_enter Try.func36, Try.ntmps36
  go_wp2_with fail
  clear c0 c1 c2 c3 c4
  rw [hsm] at HS
  generalize W.alloc (.cells #[.slice x.a x.l.ins.length x.c, .int .i64 x.l.table] 44) = W1 at *
  refine HS.out.mono ?_
  rintro e W2 ⟨rfl, hb2⟩
  have HB2 := hide (Below.step HB1.out hb2)
  have HE2 := hide (HE1.out.below hb2)
  have HL2 := hide (HL1.out.below hb2)
  have HN2 := hide (Below.blk hb2 HN1.out)
  clear hb2 HE1 HL1 HN1 HB1 HS
  have y0 : W2.cell? ⟨W.heap.size, 0, none⟩ = some (.slice x.a x.l.ins.length x.c) := by rw [blk_cell HN2.out]; rfl
  have y1 : W2.cell? ⟨W.heap.size, 1, none⟩ = some (.int .i64 x.l.table) := by rw [blk_cell HN2.out]; rfl
  have mb : W2.cell? ⟨E + 4, 0, none⟩ = some (.map (some (E + 2))) := by rw [blk_cell HE2.out.mb]; rfl
  have hc6 : codeM x.l node ≤ 1000000 := by unfold codeM; split <;> omega
  obtain ⟨v, hlk⟩ := HL2.out.mp.look HL2.out.map (codeM x.l node) hc6
  rw [hf] at hlk
  have h0 := H0.out
  have HW3 := hide (NewAt.start HLM.out HEB.out HB2.out HN2.out)
  have hq : ((x.l.ins.length : Int) == 0) = false := beq_eq_false_iff_ne.2 (by omega)
  have hk : keyM (codeM x.l node) = (node : Int) := by
    unfold codeM keyM; rw [if_neg h0, if_neg (by omega)]; omega
  rw [hk] at hlk
  have HK := hide hk
  have y2 : (W2.alloc (.cells #[.slice none 0 0, .int .i64 x.l.table] 44)).cell? ⟨W.heap.size, 0, none⟩ = some (.slice x.a x.l.ins.length x.c) := by rw [blk_cell HW3.out.box]; rfl
  clear hk h0 HL2 HLM
  go_wp2_with fail
  clear hlk y0 y1 y2 mb
  have HY := hide (blk_new W2 (.cells #[.slice none 0 0, .int .i64 x.l.table] 44))
  generalize hLB : W2.heap.size = LB at *
  generalize W2.alloc (.cells #[.slice none 0 0, .int .i64 x.l.table] 44) = W3 at *
  go_loopw [13, 55] (fun _ i wr => ∃ (k : Nat) (la' : Option Addr) (lc' : Nat) (ys' : List Wy) (D' : DataW Unit) (ia : Option Addr) (ic : Nat), k ≤ x.l.ins.length ∧ i = .int .i64 k ∧ Hid (NewAt E nv W (.slice la st.L.length lc) ys x LB (foldTo g x.l.ins st k).1 (foldTo g x.l.ins st k).2 wr la' lc' ys' D' ia ic)) (fun _ i _ => x.l.ins.length - (intOf i).toNat)
  case atStart => exact ⟨0, la, lc, ys, D, none, 0, Nat.zero_le _, rfl, HW3⟩
  case round =>
    obtain ⟨k, la', lc', ys', D', ia, ic, hk, rfl, hnw⟩ := hrel
    have HFK := hide (HF.out k hk)
    by_cases hlt : k < x.l.ins.length
    · have hki : (k : Int) < (x.l.ins.length : Int) := by omega
      have HAK := hide (HA.out k hlt)
      have HF1 := hide (HF.out (k + 1) hlt)
      have HFS : Hid (foldTo g x.l.ins st (k + 1) = ((foldTo g x.l.ins st k).1 ++ [((g (outAt x.l.ins k).toNat (foldTo g x.l.ins st k).2).1 : Int)], (g (outAt x.l.ins k).toNat (foldTo g x.l.ins st k).2).2)) := hide rfl
      have HEW := hide (LEnv.new HH.out hnw.out HV0.out)
      obtain ⟨ib, ioff, hia, hic⟩ : ∃ ib ioff, x.a = some ⟨ib, ioff, none⟩ ∧ wr.cell? ⟨ib, ioff + k, none⟩ = some (.int .i64 (outAt x.l.ins k)) := by
        rcases (HEW.out.each node hn).2 x (by rw [hX]; exact List.mem_cons_self ..) with hz | ⟨ib, ioff, g1, g2, g3⟩
        · have := congrArg List.length hz; simp only [intsC, List.length_map, List.length_nil] at this; omega
        · exact ⟨ib, ioff, g1, g3 k _ (by simp [intsC, outAt, hlt])⟩
      generalize foldTo g x.l.ins st k = Fk at *
      obtain ⟨l, stk⟩ := Fk
      simp only at hnw HAK HFS HFK
      obtain ⟨hL5, hM5, hlk⟩ := HFK.out
      have HLK := hide hlk
      clear HFK
      generalize hv : outAt x.l.ins k = vk at *
      rw [hia]
      go_wp2_with fail
      clear hic
      have HW0 := hide (hnw.out.below (Below.refl _ _).drew)
      have HE0 := hide (HEW.out.below (Below.refl _ _).drew)
      have HSW : Hid (∀ (W' : World), LEnv E P first n (some ⟨wb, woff, none⟩) wc X SA SC W' → W'.cell? ⟨E + 6, 0, none⟩ = some (.func (.func 35) #[] #[.pointer (some ⟨E, 0, none⟩), .pointer (some ⟨E + 5, 0, none⟩)])) := hide fun W' h2 => by rw [blk_cell h2.ah]; rfl
      refine wp_region_held_drew (S := fun W => W.cell? ⟨E + 6, 0, none⟩ = some (.func (.func 35) #[] #[.pointer (some ⟨E, 0, none⟩), .pointer (some ⟨E + 5, 0, none⟩)])) (by kernel_rfl) (HSW.out _ HE0.out) (fun _ => ?_)
      clear hnw HEW
      generalize wr.drew = w0 at *
      refine wpAnyH_take (i := 0) (oi := ⟨some 59, _, _, _, _, _⟩) (v := (.pointer (some ⟨LB, 0, none⟩))) rfl (by kernel_rfl) (by kernel_rfl) (by kernel_rfl) (fun _ _ _ h => h) (Or.inl ⟨by rfl, fun W hS => by (have s0 := hS; go_simp)⟩) (HSW.out _ HE0.out) ?_
      simp only [Act.put, List.setIfInBounds_toArray, List.set_cons_zero, List.set_cons_succ]
      refine wpAnyH_take (i := 2) (oi := ⟨some 61, _, _, _, _, _⟩) (v := (.func (.func 35) #[] #[.pointer (some ⟨E, 0, none⟩), .pointer (some ⟨E + 5, 0, none⟩)])) rfl (by kernel_rfl) (by kernel_rfl) (by kernel_rfl) (fun _ _ _ h => h) (Or.inl ⟨by rfl, fun W hS => by (have s0 := hS; go_simp)⟩) (HSW.out _ HE0.out) ?_
      simp only [Act.put, List.setIfInBounds_toArray, List.set_cons_zero, List.set_cons_succ]
      refine wpAnyH_take (i := 3) (oi := ⟨some 62, _, _, _, _, _⟩) (v := (.int .i64 vk)) rfl (by kernel_rfl) (by kernel_rfl) (by kernel_rfl) (fun _ _ _ h => h) (Or.inl ⟨by rfl, fun W hS => by (have s0 := hS; go_simp)⟩) (HSW.out _ HE0.out) ?_
      simp only [Act.put, List.setIfInBounds_toArray, List.set_cons_zero, List.set_cons_succ]
      refine wpAnyH_ready (rs := [1, 4]) (by kernel_rfl) (by simp) ?_
      refine AllReadyH.cons rfl (fun K hK => ?_) (AllReadyH.cons rfl (fun K hK => ?_) AllReadyH.nil)
      · skip
        have k1 := blk_cell HW0.out.me 0
        rw [HLK.out] at k1
        have k1 : _ = some (Value.slice ia k ic) := k1
        go_simp
        clear k1
        refine hK.out _ _ (HSW.out _ HE0.out) (fun _ => ?_)
        clear hK K
        refine wpAnyH_ready (rs := [4]) (by kernel_rfl) (by simp) ?_
        refine AllReadyH.cons rfl (fun K hK => ?_) AllReadyH.nil
        go_simp
        refine (HAK.out _ _ _ _ _ HE0.out HW0.out.lay).mono ?_
        intro e w1 hd
        obtain ⟨la1, lc1, ys1, D1, rfl, hw1, hkl1⟩ := HW0.out.look hd
        have HW1 := hide hw1
        have HE1 := hide (HE0.out.kl hkl1 HW0.out.lay.row.new)
        clear hw1 hkl1 hd HW0 HE0 HAK
        generalize g vk.toNat stk = rg at *
        obtain ⟨sg, stg⟩ := rg
        simp only at HW1 HFS
        rw [HFS.out] at HF1
        simp only at HF1
        refine hK.out _ _ (HSW.out _ HE1.out) (fun _ => ?_)
        clear hK K
        refine wpAnyH_ready (rs := [5]) (by kernel_rfl) (by simp) ?_
        refine AllReadyH.cons rfl (fun K hK => ?_) AllReadyH.nil
        go_simp
        have HBA := hide (below_alloc w1 (.cells #[.int .i64 (sg : Int)] 3))
        have HWA := hide (HW1.out.below HBA.out)
        have HEA := hide (HE1.out.below HBA.out)
        refine hK.out _ _ (HSW.out _ HEA.out) (fun _ => ?_)
        clear hK K
        refine wpAnyH_ready (rs := [6]) (by kernel_rfl) (by simp) ?_
        refine AllReadyH.cons rfl (fun K hK => ?_) AllReadyH.nil
        obtain ⟨ia2, ic2, w2, happ, hw2, hold⟩ := HW1.out.push (sg : Int) (by rw [HLK.out]; omega)
        have HW2 := hide hw2
        rw [HLK.out] at happ HW2
        have me2 := (hold LB (Nat.le_refl _)).trans HW1.out.me
        rw [HLK.out] at me2
        have HME2 := hide me2
        have HAH2 := hide ((hold (E + 6) (by have := HW1.out.lb; have := HEB.out; omega)).trans HE1.out.ah)
        clear hw2 hold me2
        refine (if_pos (by kernel_rfl)).mpr ?_
        refine wp_append_run happ _ _ rfl rfl rfl ?_
        simp only [Act.put, List.getElem_toArray, List.getElem_cons_succ, List.getElem_cons_zero, List.setIfInBounds_toArray, List.set_cons_zero, List.set_cons_succ]
        have HS2 : Hid (w2.cell? ⟨E + 6, 0, none⟩ = some (.func (.func 35) #[] #[.pointer (some ⟨E, 0, none⟩), .pointer (some ⟨E + 5, 0, none⟩)])) := hide (by rw [blk_cell HAH2.out]; rfl)
        refine hK.out _ _ HS2.out (fun _ => ?_)
        clear hK K happ
        refine wpAnyH_take (i := 7) (oi := ⟨some 66, _, _, _, _, _⟩) (v := (.pointer (some ⟨LB, 0, none⟩))) rfl (by kernel_rfl) (by kernel_rfl) (by kernel_rfl) (fun _ _ _ h => h) (Or.inl ⟨by rfl, fun W hS => by (have s0 := hS; go_simp)⟩) HS2.out ?_
        simp only [Act.put, List.setIfInBounds_toArray, List.set_cons_zero, List.set_cons_succ]
        refine wpAnyH_ready (rs := [8]) (by kernel_rfl) (by simp) ?_
        refine AllReadyH.cons rfl (fun K hK => ?_) AllReadyH.nil
        have f4 : w2.frozen? ⟨LB, 0, none⟩ = false := blk_frozen HME2.out 0
        have k4 : w2.cell? ⟨LB, 0, none⟩ = some (.slice ia k ic) := by rw [blk_cell HME2.out]; rfl
        have HS3 : Hid ((w2.setCell ⟨LB, 0, none⟩ (.slice ia2 (k + 1) ic2)).cell? ⟨E + 6, 0, none⟩ = some (.func (.func 35) #[] #[.pointer (some ⟨E, 0, none⟩), .pointer (some ⟨E + 5, 0, none⟩)])) := hide (cell_same HS2.out (Below.heap_setCell w2 ⟨LB, 0, none⟩ _ (E + 6) (fun e => by have h7 : E + 6 = LB := e; have := HW1.out.lb; have := HEB.out; omega)))
        go_simp
        clear f4 k4
        refine hK.out _ _ HS3.out (fun _ => ?_)
        clear hK K
        refine wpAnyH_done (by kernel_rfl) ?_ _
        go_wp2_with fail
        exact ⟨⟨k + 1, la1, lc1, ys1, D1, ia2, ic2, by omega, by go_num, by rw [HFS.out]; exact HW2⟩, by simp [intOf]; omega⟩
      · skip
        go_simp
        refine (HAK.out _ _ _ _ _ HE0.out HW0.out.lay).mono ?_
        intro e w1 hd
        obtain ⟨la1, lc1, ys1, D1, rfl, hw1, hkl1⟩ := HW0.out.look hd
        have HW1 := hide hw1
        have HE1 := hide (HE0.out.kl hkl1 HW0.out.lay.row.new)
        clear hw1 hkl1 hd HW0 HE0 HAK
        generalize g vk.toNat stk = rg at *
        obtain ⟨sg, stg⟩ := rg
        simp only at HW1 HFS
        rw [HFS.out] at HF1
        simp only at HF1
        refine hK.out _ _ (HSW.out _ HE1.out) (fun _ => ?_)
        clear hK K
        refine wpAnyH_ready (rs := [1, 5]) (by kernel_rfl) (by simp) ?_
        refine AllReadyH.cons rfl (fun K hK => ?_) (AllReadyH.cons rfl (fun K hK => ?_) AllReadyH.nil)
        · skip
          have k1 := blk_cell HW1.out.me 0
          rw [HLK.out] at k1
          have k1 : _ = some (Value.slice ia k ic) := k1
          go_simp
          clear k1
          refine hK.out _ _ (HSW.out _ HE1.out) (fun _ => ?_)
          clear hK K
          refine wpAnyH_ready (rs := [5]) (by kernel_rfl) (by simp) ?_
          refine AllReadyH.cons rfl (fun K hK => ?_) AllReadyH.nil
          go_simp
          have HBA := hide (below_alloc w1 (.cells #[.int .i64 (sg : Int)] 3))
          have HWA := hide (HW1.out.below HBA.out)
          have HEA := hide (HE1.out.below HBA.out)
          refine hK.out _ _ (HSW.out _ HEA.out) (fun _ => ?_)
          clear hK K
          refine wpAnyH_ready (rs := [6]) (by kernel_rfl) (by simp) ?_
          refine AllReadyH.cons rfl (fun K hK => ?_) AllReadyH.nil
          obtain ⟨ia2, ic2, w2, happ, hw2, hold⟩ := HW1.out.push (sg : Int) (by rw [HLK.out]; omega)
          have HW2 := hide hw2
          rw [HLK.out] at happ HW2
          have me2 := (hold LB (Nat.le_refl _)).trans HW1.out.me
          rw [HLK.out] at me2
          have HME2 := hide me2
          have HAH2 := hide ((hold (E + 6) (by have := HW1.out.lb; have := HEB.out; omega)).trans HE1.out.ah)
          clear hw2 hold me2
          refine (if_pos (by kernel_rfl)).mpr ?_
          refine wp_append_run happ _ _ rfl rfl rfl ?_
          simp only [Act.put, List.getElem_toArray, List.getElem_cons_succ, List.getElem_cons_zero, List.setIfInBounds_toArray, List.set_cons_zero, List.set_cons_succ]
          have HS2 : Hid (w2.cell? ⟨E + 6, 0, none⟩ = some (.func (.func 35) #[] #[.pointer (some ⟨E, 0, none⟩), .pointer (some ⟨E + 5, 0, none⟩)])) := hide (by rw [blk_cell HAH2.out]; rfl)
          refine hK.out _ _ HS2.out (fun _ => ?_)
          clear hK K happ
          refine wpAnyH_take (i := 7) (oi := ⟨some 66, _, _, _, _, _⟩) (v := (.pointer (some ⟨LB, 0, none⟩))) rfl (by kernel_rfl) (by kernel_rfl) (by kernel_rfl) (fun _ _ _ h => h) (Or.inl ⟨by rfl, fun W hS => by (have s0 := hS; go_simp)⟩) HS2.out ?_
          simp only [Act.put, List.setIfInBounds_toArray, List.set_cons_zero, List.set_cons_succ]
          refine wpAnyH_ready (rs := [8]) (by kernel_rfl) (by simp) ?_
          refine AllReadyH.cons rfl (fun K hK => ?_) AllReadyH.nil
          have f4 : w2.frozen? ⟨LB, 0, none⟩ = false := blk_frozen HME2.out 0
          have k4 : w2.cell? ⟨LB, 0, none⟩ = some (.slice ia k ic) := by rw [blk_cell HME2.out]; rfl
          have HS3 : Hid ((w2.setCell ⟨LB, 0, none⟩ (.slice ia2 (k + 1) ic2)).cell? ⟨E + 6, 0, none⟩ = some (.func (.func 35) #[] #[.pointer (some ⟨E, 0, none⟩), .pointer (some ⟨E + 5, 0, none⟩)])) := hide (cell_same HS2.out (Below.heap_setCell w2 ⟨LB, 0, none⟩ _ (E + 6) (fun e => by have h7 : E + 6 = LB := e; have := HW1.out.lb; have := HEB.out; omega)))
          go_simp
          clear f4 k4
          refine hK.out _ _ HS3.out (fun _ => ?_)
          clear hK K
          refine wpAnyH_done (by kernel_rfl) ?_ _
          go_wp2_with fail
          exact ⟨⟨k + 1, la1, lc1, ys1, D1, ia2, ic2, by omega, by go_num, by rw [HFS.out]; exact HW2⟩, by simp [intOf]; omega⟩
        · skip
          go_simp
          have HBA := hide (below_alloc w1 (.cells #[.int .i64 (sg : Int)] 3))
          have HWA := hide (HW1.out.below HBA.out)
          have HEA := hide (HE1.out.below HBA.out)
          refine hK.out _ _ (HSW.out _ HEA.out) (fun _ => ?_)
          clear hK K
          refine wpAnyH_ready (rs := [1]) (by kernel_rfl) (by simp) ?_
          refine AllReadyH.cons rfl (fun K hK => ?_) AllReadyH.nil
          have k1 := blk_cell HWA.out.me 0
          rw [HLK.out] at k1
          have k1 : _ = some (Value.slice ia k ic) := k1
          go_simp
          clear k1
          refine hK.out _ _ (HSW.out _ HEA.out) (fun _ => ?_)
          clear hK K
          refine wpAnyH_ready (rs := [6]) (by kernel_rfl) (by simp) ?_
          refine AllReadyH.cons rfl (fun K hK => ?_) AllReadyH.nil
          obtain ⟨ia2, ic2, w2, happ, hw2, hold⟩ := HW1.out.push (sg : Int) (by rw [HLK.out]; omega)
          have HW2 := hide hw2
          rw [HLK.out] at happ HW2
          have me2 := (hold LB (Nat.le_refl _)).trans HW1.out.me
          rw [HLK.out] at me2
          have HME2 := hide me2
          have HAH2 := hide ((hold (E + 6) (by have := HW1.out.lb; have := HEB.out; omega)).trans HE1.out.ah)
          clear hw2 hold me2
          refine (if_pos (by kernel_rfl)).mpr ?_
          refine wp_append_run happ _ _ rfl rfl rfl ?_
          simp only [Act.put, List.getElem_toArray, List.getElem_cons_succ, List.getElem_cons_zero, List.setIfInBounds_toArray, List.set_cons_zero, List.set_cons_succ]
          have HS2 : Hid (w2.cell? ⟨E + 6, 0, none⟩ = some (.func (.func 35) #[] #[.pointer (some ⟨E, 0, none⟩), .pointer (some ⟨E + 5, 0, none⟩)])) := hide (by rw [blk_cell HAH2.out]; rfl)
          refine hK.out _ _ HS2.out (fun _ => ?_)
          clear hK K happ
          refine wpAnyH_take (i := 7) (oi := ⟨some 66, _, _, _, _, _⟩) (v := (.pointer (some ⟨LB, 0, none⟩))) rfl (by kernel_rfl) (by kernel_rfl) (by kernel_rfl) (fun _ _ _ h => h) (Or.inl ⟨by rfl, fun W hS => by (have s0 := hS; go_simp)⟩) HS2.out ?_
          simp only [Act.put, List.setIfInBounds_toArray, List.set_cons_zero, List.set_cons_succ]
          refine wpAnyH_ready (rs := [8]) (by kernel_rfl) (by simp) ?_
          refine AllReadyH.cons rfl (fun K hK => ?_) AllReadyH.nil
          have f4 : w2.frozen? ⟨LB, 0, none⟩ = false := blk_frozen HME2.out 0
          have k4 : w2.cell? ⟨LB, 0, none⟩ = some (.slice ia k ic) := by rw [blk_cell HME2.out]; rfl
          have HS3 : Hid ((w2.setCell ⟨LB, 0, none⟩ (.slice ia2 (k + 1) ic2)).cell? ⟨E + 6, 0, none⟩ = some (.func (.func 35) #[] #[.pointer (some ⟨E, 0, none⟩), .pointer (some ⟨E + 5, 0, none⟩)])) := hide (cell_same HS2.out (Below.heap_setCell w2 ⟨LB, 0, none⟩ _ (E + 6) (fun e => by have h7 : E + 6 = LB := e; have := HW1.out.lb; have := HEB.out; omega)))
          go_simp
          clear f4 k4
          refine hK.out _ _ HS3.out (fun _ => ?_)
          clear hK K
          refine wpAnyH_done (by kernel_rfl) ?_ _
          go_wp2_with fail
          exact ⟨⟨k + 1, la1, lc1, ys1, D1, ia2, ic2, by omega, by go_num, by rw [HFS.out]; exact HW2⟩, by simp [intOf]; omega⟩
    · have HKL : Hid (k = x.l.ins.length) := hide (by omega)
      obtain rfl : k = x.l.ins.length := HKL.out
      generalize hFk : foldTo g x.l.ins st x.l.ins.length = Fk at *
      obtain ⟨l, stk⟩ := Fk
      simp only at hnw HFK HCN
      obtain ⟨hL5, hM5, hll⟩ := HFK.out
      have hr := HR.out l stk rfl
      subst hr
      have HLL := hide hll
      have HEW := hide (LEnv.new HH.out hnw.out HV0.out)
      clear hFk hll HFK HR HF HA
      go_wp2_with fail
      have HW0 := hide (hnw.out.below (Below.refl _ _).drew)
      have HE0 := hide (HEW.out.below (Below.refl _ _).drew)
      have HS14 : Hid (∀ (W' : World) (M : List (Nat × Nat)) (Dq : DataW Unit), LEnv E P first n (some ⟨wb, woff, none⟩) wc X SA SC W' → NewAt E nv W (.slice la st.L.length lc) ys x LB l ⟨stk.L, M⟩ W' la' lc' ys' Dq ia ic → W'.cell? ⟨E + 4, 0, none⟩ = some (.map (some (E + 2))) ∧ W'.cell? ⟨E, 0, none⟩ = some (.pointer (some ⟨P, 0, none⟩)) ∧ W'.cell? ⟨P, 0, none⟩ = some (.int .i64 first) ∧ W'.cell? ⟨E + 3, 0, none⟩ = some (.pointer (some ⟨E + 1, 0, none⟩)) ∧ W'.cell? ⟨E + 1, 2, none⟩ = some (.slice la' stk.L.length lc')) := hide fun W' M Dq h1 h2 => ⟨by rw [blk_cell h1.mb]; rfl, by rw [blk_cell h1.pb]; rfl, h1.p0, by rw [blk_cell h1.nb]; rfl, by rw [blk_cell h2.lay.nt]; rfl⟩
      refine wp_region_held_drew (S := fun W' => W'.cell? ⟨E + 4, 0, none⟩ = some (.map (some (E + 2))) ∧ W'.cell? ⟨E, 0, none⟩ = some (.pointer (some ⟨P, 0, none⟩)) ∧ W'.cell? ⟨P, 0, none⟩ = some (.int .i64 first) ∧ W'.cell? ⟨E + 3, 0, none⟩ = some (.pointer (some ⟨E + 1, 0, none⟩)) ∧ W'.cell? ⟨E + 1, 2, none⟩ = some (.slice la' stk.L.length lc')) (by kernel_rfl) (HS14.out _ _ _ HE0.out HW0.out) (fun _ => ?_)
      clear hnw HEW
      generalize wr.drew = w0 at *
      obtain ⟨w1, hmu, hw1⟩ := HW0.out.put (codeM x.l node) (first + stk.L.length) hc6 (by omega) (by omega) HCN.out
      have hcs : ((first + stk.L.length : Nat) : Int) = (first : Int) + (stk.L.length : Int) := by omega
      have HCS := hide hcs
      have hwf : IntKind.i64.wrap ((first : Int) + (stk.L.length : Int)) = (first : Int) + (stk.L.length : Int) := IntWalk.i64_in _ (by omega)
      rw [HK.out, hcs] at hmu
      have HMU := hide hmu
      have HW1 := hide hw1
      have HE1 := hide (LEnv.new HH.out hw1 HV0.out)
      clear hcs hmu hw1
      refine wpAnyH_take (i := 0) (oi := ⟨some 68, _, _, _, _, _⟩) (v := (.map (some (E + 2)))) rfl (by kernel_rfl) (by kernel_rfl) (by kernel_rfl) (fun _ _ _ h => h) (Or.inl ⟨by rfl, fun W hS => by (obtain ⟨s0, s1, s2, s3, s4⟩ := hS; go_simp)⟩) (HS14.out _ _ _ HE0.out HW0.out) ?_
      simp only [Act.put, List.setIfInBounds_toArray, List.set_cons_zero, List.set_cons_succ]
      refine wpAnyH_take (i := 1) (oi := ⟨some 69, _, _, _, _, _⟩) (v := (.int .i64 node)) rfl (by kernel_rfl) (by kernel_rfl) (by kernel_rfl) (fun _ _ _ h => h) (Or.inl ⟨by rfl, fun W hS => by (obtain ⟨s0, s1, s2, s3, s4⟩ := hS; go_simp)⟩) (HS14.out _ _ _ HE0.out HW0.out) ?_
      simp only [Act.put, List.setIfInBounds_toArray, List.set_cons_zero, List.set_cons_succ]
      refine wpAnyH_take (i := 2) (oi := ⟨some 70, _, _, _, _, _⟩) (v := (.pointer (some ⟨P, 0, none⟩))) rfl (by kernel_rfl) (by kernel_rfl) (by kernel_rfl) (fun _ _ _ h => h) (Or.inl ⟨by rfl, fun W hS => by (obtain ⟨s0, s1, s2, s3, s4⟩ := hS; go_simp)⟩) (HS14.out _ _ _ HE0.out HW0.out) ?_
      simp only [Act.put, List.setIfInBounds_toArray, List.set_cons_zero, List.set_cons_succ]
      refine wpAnyH_take (i := 6) (oi := ⟨some 74, _, _, _, _, _⟩) (v := (.pointer (some ⟨E + 1, 0, none⟩))) rfl (by kernel_rfl) (by kernel_rfl) (by kernel_rfl) (fun _ _ _ h => h) (Or.inl ⟨by rfl, fun W hS => by (obtain ⟨s0, s1, s2, s3, s4⟩ := hS; go_simp)⟩) (HS14.out _ _ _ HE0.out HW0.out) ?_
      simp only [Act.put, List.setIfInBounds_toArray, List.set_cons_zero, List.set_cons_succ]
      refine wpAnyH_take (i := 3) (oi := ⟨some 71, _, _, _, _, _⟩) (v := (.pointer (some ⟨P, 0, none⟩))) rfl (by kernel_rfl) (by kernel_rfl) (by kernel_rfl) (fun _ _ _ h => h) (Or.inl ⟨by rfl, fun W hS => by (obtain ⟨s0, s1, s2, s3, s4⟩ := hS; go_simp)⟩) (HS14.out _ _ _ HE0.out HW0.out) ?_
      simp only [Act.put, List.setIfInBounds_toArray, List.set_cons_zero, List.set_cons_succ]
      refine wpAnyH_take (i := 7) (oi := ⟨some 75, _, _, _, _, _⟩) (v := (.pointer (some ⟨E + 1, 0, none⟩))) rfl (by kernel_rfl) (by kernel_rfl) (by kernel_rfl) (fun _ _ _ h => h) (Or.inl ⟨by rfl, fun W hS => by (obtain ⟨s0, s1, s2, s3, s4⟩ := hS; go_simp)⟩) (HS14.out _ _ _ HE0.out HW0.out) ?_
      simp only [Act.put, List.setIfInBounds_toArray, List.set_cons_zero, List.set_cons_succ]
      refine wpAnyH_take (i := 4) (oi := ⟨some 72, _, _, _, _, _⟩) (v := (.pointer (some ⟨P, 0, none⟩))) rfl (by kernel_rfl) (by kernel_rfl) (by kernel_rfl) (fun _ _ _ h => h) (Or.inl ⟨by rfl, fun W hS => by (obtain ⟨s0, s1, s2, s3, s4⟩ := hS; go_simp)⟩) (HS14.out _ _ _ HE0.out HW0.out) ?_
      simp only [Act.put, List.setIfInBounds_toArray, List.set_cons_zero, List.set_cons_succ]
      refine wpAnyH_take (i := 8) (oi := ⟨some 76, _, _, _, _, _⟩) (v := (.pointer (some ⟨E + 1, 2, none⟩))) rfl (by kernel_rfl) (by kernel_rfl) (by kernel_rfl) (fun _ _ _ h => h) (Or.inl ⟨by rfl, fun W hS => by (obtain ⟨s0, s1, s2, s3, s4⟩ := hS; go_simp)⟩) (HS14.out _ _ _ HE0.out HW0.out) ?_
      simp only [Act.put, List.setIfInBounds_toArray, List.set_cons_zero, List.set_cons_succ]
      refine wpAnyH_take (i := 5) (oi := ⟨some 73, _, _, _, _, _⟩) (v := (.int .i64 first)) rfl (by kernel_rfl) (by kernel_rfl) (by kernel_rfl) (fun _ _ _ h => h) (Or.inl ⟨by rfl, fun W hS => by (obtain ⟨s0, s1, s2, s3, s4⟩ := hS; go_simp)⟩) (HS14.out _ _ _ HE0.out HW0.out) ?_
      simp only [Act.put, List.setIfInBounds_toArray, List.set_cons_zero, List.set_cons_succ]
      refine wpAnyH_take (i := 9) (oi := ⟨some 77, _, _, _, _, _⟩) (v := (.slice la' stk.L.length lc')) rfl (by kernel_rfl) (by kernel_rfl) (by kernel_rfl) (fun _ _ _ h => h) (Or.inl ⟨by rfl, fun W hS => by (obtain ⟨s0, s1, s2, s3, s4⟩ := hS; go_simp)⟩) (HS14.out _ _ _ HE0.out HW0.out) ?_
      simp only [Act.put, List.setIfInBounds_toArray, List.set_cons_zero, List.set_cons_succ]
      refine wpAnyH_take (i := 10) (oi := ⟨some 78, _, _, _, _, _⟩) (v := (.int .i64 stk.L.length)) rfl (by kernel_rfl) (by kernel_rfl) (by kernel_rfl) (fun _ _ _ h => h) (Or.inl ⟨by rfl, fun W hS => by (obtain ⟨s0, s1, s2, s3, s4⟩ := hS; go_simp)⟩) (HS14.out _ _ _ HE0.out HW0.out) ?_
      simp only [Act.put, List.setIfInBounds_toArray, List.set_cons_zero, List.set_cons_succ]
      refine wpAnyH_take (i := 11) (oi := ⟨some 79, _, _, _, _, _⟩) (v := (.int .i64 ((first : Int) + (stk.L.length : Int)))) rfl (by kernel_rfl) (by kernel_rfl) (by kernel_rfl) (fun _ _ _ h => h) (Or.inl ⟨by rfl, fun W hS => by (obtain ⟨s0, s1, s2, s3, s4⟩ := hS; go_simp)⟩) (HS14.out _ _ _ HE0.out HW0.out) ?_
      simp only [Act.put, List.setIfInBounds_toArray, List.set_cons_zero, List.set_cons_succ]
      refine wpAnyH_ready (rs := [12]) (by kernel_rfl) (by simp) ?_
      refine AllReadyH.cons rfl (fun K hK => ?_) AllReadyH.nil
      have hmu := HMU.out
      go_simp
      clear hmu
      refine hK.out _ _ (HS14.out _ _ _ HE1.out HW1.out) (fun _ => ?_)
      clear hK K HMU HW0 HE0
      refine wpAnyH_done (by kernel_rfl) ?_ _
      go_wp2_with fail
      have HW2 := hide (HW1.out.below (Below.refl _ _).drew)
      have HE2 := hide (HE1.out.below (Below.refl _ _).drew)
      have HS15 : Hid (∀ W' : World, W'.heap[E + 3]? = some (.cells #[.pointer (some ⟨E + 1, 0, none⟩)] 35 (0, 0)) → W'.heap[LB]? = some (.cells #[.slice ia l.length ic, .int .i64 x.l.table] 44 (0, 0)) → W'.cell? ⟨E + 3, 0, none⟩ = some (.pointer (some ⟨E + 1, 0, none⟩)) ∧ W'.cell? ⟨LB, 0, none⟩ = some (.slice ia l.length ic) ∧ W'.cell? ⟨LB, 1, none⟩ = some (.int .i64 x.l.table)) := hide fun W' h1 h2 => ⟨by rw [blk_cell h1]; rfl, by rw [blk_cell h2]; rfl, by rw [blk_cell h2]; rfl⟩
      refine wp_region_held_drew (S := fun W' => W'.cell? ⟨E + 3, 0, none⟩ = some (.pointer (some ⟨E + 1, 0, none⟩)) ∧ W'.cell? ⟨LB, 0, none⟩ = some (.slice ia l.length ic) ∧ W'.cell? ⟨LB, 1, none⟩ = some (.int .i64 x.l.table)) (by kernel_rfl) (HS15.out _ HE2.out.nb HW2.out.me) (fun _ => ?_)
      clear HW1 HE1
      generalize w1.drew = w2 at *
      obtain ⟨la2, lc2, w3, happ, hlay3, hkl3, hown3, hold3, hin3⟩ := HW2.out.done hL5 HV0.out
      have HBA := hide (below_alloc w2 (.cells #[.slice ia l.length ic, .int .i64 x.l.table] 44))
      have HWA := hide (HW2.out.below HBA.out)
      have HEA := hide (HE2.out.below HBA.out)
      have hnb3 : w3.heap[E + 3]? = _ := (hold3 (E + 3) (by have := HW2.out.lb; have := HEB.out; omega) fun e => by have := HW2.out.lay.row.new _ e; omega).trans HE2.out.nb
      have hmb3 : w3.heap[LB]? = _ := (hold3 LB (Nat.le_refl _) fun e => (HW2.out.own _ e).2.2 rfl).trans HW2.out.me
      have hnt3 : w3.heap[E + 1]? = _ := (hold3 (E + 1) (by have := HW2.out.lb; have := HEB.out; omega) fun e => by have := HW2.out.lay.row.new _ e; omega).trans HW2.out.lay.nt
      have HNB3 := hide hnb3
      have HMB3 := hide hmb3
      have HNT3 := hide hnt3
      have HAPP := hide happ
      have HLAY3 := hide hlay3
      have HKL3 := hide hkl3
      have HOWN3 := hide hown3
      have HIN3 := hide fun c hc hy => hin3 c hc (HW2.out.old c hc hy)
      clear happ hlay3 hkl3 hown3 hold3 hin3 hnb3 hmb3 hnt3
      refine wpAnyH_take (i := 0) (oi := ⟨some 80, _, _, _, _, _⟩) (v := (.pointer (some ⟨E + 1, 0, none⟩))) rfl (by kernel_rfl) (by kernel_rfl) (by kernel_rfl) (fun _ _ _ h => h) (Or.inl ⟨by rfl, fun W hS => by (obtain ⟨s0, s1, s2⟩ := hS; go_simp)⟩) (HS15.out _ HE2.out.nb HW2.out.me) ?_
      simp only [Act.put, List.setIfInBounds_toArray, List.set_cons_zero, List.set_cons_succ]
      refine wpAnyH_take (i := 1) (oi := ⟨some 81, _, _, _, _, _⟩) (v := (.pointer (some ⟨E + 1, 0, none⟩))) rfl (by kernel_rfl) (by kernel_rfl) (by kernel_rfl) (fun _ _ _ h => h) (Or.inl ⟨by rfl, fun W hS => by (obtain ⟨s0, s1, s2⟩ := hS; go_simp)⟩) (HS15.out _ HE2.out.nb HW2.out.me) ?_
      simp only [Act.put, List.setIfInBounds_toArray, List.set_cons_zero, List.set_cons_succ]
      refine wpAnyH_take (i := 5) (oi := ⟨some 85, _, _, _, _, _⟩) (v := (.agg #[.slice ia l.length ic, .int .i64 x.l.table])) rfl (by kernel_rfl) (by kernel_rfl) (by kernel_rfl) (fun _ _ _ h => h) (Or.inl ⟨by rfl, fun W hS => by (obtain ⟨s0, s1, s2⟩ := hS; go_simp)⟩) (HS15.out _ HE2.out.nb HW2.out.me) ?_
      simp only [Act.put, List.setIfInBounds_toArray, List.set_cons_zero, List.set_cons_succ]
      refine wpAnyH_take (i := 2) (oi := ⟨some 82, _, _, _, _, _⟩) (v := (.pointer (some ⟨E + 1, 0, none⟩))) rfl (by kernel_rfl) (by kernel_rfl) (by kernel_rfl) (fun _ _ _ h => h) (Or.inl ⟨by rfl, fun W hS => by (obtain ⟨s0, s1, s2⟩ := hS; go_simp)⟩) (HS15.out _ HE2.out.nb HW2.out.me) ?_
      simp only [Act.put, List.setIfInBounds_toArray, List.set_cons_zero, List.set_cons_succ]
      refine wpAnyH_take (i := 3) (oi := ⟨some 83, _, _, _, _, _⟩) (v := (.pointer (some ⟨E + 1, 2, none⟩))) rfl (by kernel_rfl) (by kernel_rfl) (by kernel_rfl) (fun _ _ _ h => h) (Or.inl ⟨by rfl, fun W hS => by (obtain ⟨s0, s1, s2⟩ := hS; go_simp)⟩) (HS15.out _ HE2.out.nb HW2.out.me) ?_
      simp only [Act.put, List.setIfInBounds_toArray, List.set_cons_zero, List.set_cons_succ]
      refine wpAnyH_ready (rs := [4, 6]) (by kernel_rfl) (by simp) ?_
      refine AllReadyH.cons rfl (fun K hK => ?_) (AllReadyH.cons rfl (fun K hK => ?_) AllReadyH.nil)
      · skip
        have k1 : w2.cell? ⟨E + 1, 2, none⟩ = some (.slice la' stk.L.length lc') := by rw [blk_cell HW2.out.lay.nt]; rfl
        go_simp
        clear k1
        refine hK.out _ _ (HS15.out _ HE2.out.nb HW2.out.me) (fun _ => ?_)
        clear hK K
        refine wpAnyH_ready (rs := [6]) (by kernel_rfl) (by simp) ?_
        refine AllReadyH.cons rfl (fun K hK => ?_) AllReadyH.nil
        go_simp
        refine hK.out _ _ (HS15.out _ HEA.out.nb HWA.out.me) (fun _ => ?_)
        clear hK K
        refine wpAnyH_ready (rs := [7]) (by kernel_rfl) (by simp) ?_
        refine AllReadyH.cons rfl (fun K hK => ?_) AllReadyH.nil
        refine (if_pos (by kernel_rfl)).mpr ?_
        refine wp_append_run HAPP.out _ _ rfl rfl rfl ?_
        simp only [Act.put, List.getElem_toArray, List.getElem_cons_succ, List.getElem_cons_zero, List.setIfInBounds_toArray, List.set_cons_zero, List.set_cons_succ]
        refine hK.out _ _ (HS15.out _ HNB3.out HMB3.out) (fun _ => ?_)
        clear hK K HAPP
        refine wpAnyH_take (i := 8) (oi := ⟨some 88, _, _, _, _, _⟩) (v := (.pointer (some ⟨E + 1, 0, none⟩))) rfl (by kernel_rfl) (by kernel_rfl) (by kernel_rfl) (fun _ _ _ h => h) (Or.inl ⟨by rfl, fun W hS => by (obtain ⟨s0, s1, s2⟩ := hS; go_simp)⟩) (HS15.out _ HNB3.out HMB3.out) ?_
        simp only [Act.put, List.setIfInBounds_toArray, List.set_cons_zero, List.set_cons_succ]
        refine wpAnyH_take (i := 9) (oi := ⟨some 89, _, _, _, _, _⟩) (v := (.pointer (some ⟨E + 1, 2, none⟩))) rfl (by kernel_rfl) (by kernel_rfl) (by kernel_rfl) (fun _ _ _ h => h) (Or.inl ⟨by rfl, fun W hS => by (obtain ⟨s0, s1, s2⟩ := hS; go_simp)⟩) (HS15.out _ HNB3.out HMB3.out) ?_
        simp only [Act.put, List.setIfInBounds_toArray, List.set_cons_zero, List.set_cons_succ]
        refine wpAnyH_ready (rs := [10]) (by kernel_rfl) (by simp) ?_
        refine AllReadyH.cons rfl (fun K hK => ?_) AllReadyH.nil
        have f4 : w3.frozen? ⟨E + 1, 2, none⟩ = false := blk_frozen HNT3.out 2
        have k4 : w3.cell? ⟨E + 1, 2, none⟩ = some (.slice la' stk.L.length lc') := by rw [blk_cell HNT3.out]; rfl
        have HS4 := hide (HS15.out (w3.setCell ⟨E + 1, 2, none⟩ (.slice la2 (stk.L.length + 1) lc2)) ((Below.heap_setCell w3 ⟨E + 1, 2, none⟩ _ (E + 3) (fun e => by have h7 : E + 3 = E + 1 := e; omega)).trans HNB3.out) ((Below.heap_setCell w3 ⟨E + 1, 2, none⟩ _ LB (fun e => by have h7 : LB = E + 1 := e; have := HW2.out.lb; have := HEB.out; omega)).trans HMB3.out))
        go_simp
        clear f4 k4
        refine hK.out _ _ HS4.out (fun _ => ?_)
        clear hK K
        refine wpAnyH_done (by kernel_rfl) ?_ _
        have HE4 := hide (HH.out.kl HKL3.out HV0.out)
        have mb4 : (w3.setCell ⟨E + 1, 2, none⟩ (.slice la2 (stk.L.length + 1) lc2)).cell? ⟨E + 4, 0, none⟩ = some (.map (some (E + 2))) := by rw [blk_cell HE4.out.mb]; rfl
        have hget := HLAY3.out.mp.get HLAY3.out.map (codeM x.l node) (first + stk.L.length) hc6 (by rw [findM_app _ _ _ _ HCN.out, if_pos rfl])
        rw [HK.out, HCS.out] at hget
        go_wp2_with fail
        go_ret
        exact ⟨la2, lc2, _, _, ret_int HCS.out.symm, HLAY3.out, HKL3.out, fun b hb => HOWN3.out b (by rw [List.length_append] at hb; exact hb), HIN3.out⟩
      · skip
        go_simp
        refine hK.out _ _ (HS15.out _ HEA.out.nb HWA.out.me) (fun _ => ?_)
        clear hK K
        refine wpAnyH_ready (rs := [4]) (by kernel_rfl) (by simp) ?_
        refine AllReadyH.cons rfl (fun K hK => ?_) AllReadyH.nil
        have k1 : (w2.alloc (.cells #[.slice ia l.length ic, .int .i64 x.l.table] 44)).cell? ⟨E + 1, 2, none⟩ = some (.slice la' stk.L.length lc') := by rw [blk_cell HWA.out.lay.nt]; rfl
        go_simp
        clear k1
        refine hK.out _ _ (HS15.out _ HEA.out.nb HWA.out.me) (fun _ => ?_)
        clear hK K
        refine wpAnyH_ready (rs := [7]) (by kernel_rfl) (by simp) ?_
        refine AllReadyH.cons rfl (fun K hK => ?_) AllReadyH.nil
        refine (if_pos (by kernel_rfl)).mpr ?_
        refine wp_append_run HAPP.out _ _ rfl rfl rfl ?_
        simp only [Act.put, List.getElem_toArray, List.getElem_cons_succ, List.getElem_cons_zero, List.setIfInBounds_toArray, List.set_cons_zero, List.set_cons_succ]
        refine hK.out _ _ (HS15.out _ HNB3.out HMB3.out) (fun _ => ?_)
        clear hK K HAPP
        refine wpAnyH_take (i := 8) (oi := ⟨some 88, _, _, _, _, _⟩) (v := (.pointer (some ⟨E + 1, 0, none⟩))) rfl (by kernel_rfl) (by kernel_rfl) (by kernel_rfl) (fun _ _ _ h => h) (Or.inl ⟨by rfl, fun W hS => by (obtain ⟨s0, s1, s2⟩ := hS; go_simp)⟩) (HS15.out _ HNB3.out HMB3.out) ?_
        simp only [Act.put, List.setIfInBounds_toArray, List.set_cons_zero, List.set_cons_succ]
        refine wpAnyH_take (i := 9) (oi := ⟨some 89, _, _, _, _, _⟩) (v := (.pointer (some ⟨E + 1, 2, none⟩))) rfl (by kernel_rfl) (by kernel_rfl) (by kernel_rfl) (fun _ _ _ h => h) (Or.inl ⟨by rfl, fun W hS => by (obtain ⟨s0, s1, s2⟩ := hS; go_simp)⟩) (HS15.out _ HNB3.out HMB3.out) ?_
        simp only [Act.put, List.setIfInBounds_toArray, List.set_cons_zero, List.set_cons_succ]
        refine wpAnyH_ready (rs := [10]) (by kernel_rfl) (by simp) ?_
        refine AllReadyH.cons rfl (fun K hK => ?_) AllReadyH.nil
        have f4 : w3.frozen? ⟨E + 1, 2, none⟩ = false := blk_frozen HNT3.out 2
        have k4 : w3.cell? ⟨E + 1, 2, none⟩ = some (.slice la' stk.L.length lc') := by rw [blk_cell HNT3.out]; rfl
        have HS4 := hide (HS15.out (w3.setCell ⟨E + 1, 2, none⟩ (.slice la2 (stk.L.length + 1) lc2)) ((Below.heap_setCell w3 ⟨E + 1, 2, none⟩ _ (E + 3) (fun e => by have h7 : E + 3 = E + 1 := e; omega)).trans HNB3.out) ((Below.heap_setCell w3 ⟨E + 1, 2, none⟩ _ LB (fun e => by have h7 : LB = E + 1 := e; have := HW2.out.lb; have := HEB.out; omega)).trans HMB3.out))
        go_simp
        clear f4 k4
        refine hK.out _ _ HS4.out (fun _ => ?_)
        clear hK K
        refine wpAnyH_done (by kernel_rfl) ?_ _
        have HE4 := hide (HH.out.kl HKL3.out HV0.out)
        have mb4 : (w3.setCell ⟨E + 1, 2, none⟩ (.slice la2 (stk.L.length + 1) lc2)).cell? ⟨E + 4, 0, none⟩ = some (.map (some (E + 2))) := by rw [blk_cell HE4.out.mb]; rfl
        have hget := HLAY3.out.mp.get HLAY3.out.map (codeM x.l node) (first + stk.L.length) hc6 (by rw [findM_app _ _ _ _ HCN.out, if_pos rfl])
        rw [HK.out, HCS.out] at hget
        go_wp2_with fail
        go_ret
        exact ⟨la2, lc2, _, _, ret_int HCS.out.symm, HLAY3.out, HKL3.out, fun b hb => HOWN3.out b (by rw [List.length_append] at hb; exact hb), HIN3.out⟩
end Go.Proofs.Ytacgepdmhdcdkaa
