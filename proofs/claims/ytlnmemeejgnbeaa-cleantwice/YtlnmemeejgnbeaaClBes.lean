/-
  CONTRACT of beside, what is given being the same.
-/
import Derived.Test.YtlnmemeejgnbeaaClBld
import Derived.Test.YtlnmemeejgnbeaaClTp
set_option linter.unusedSimpArgs false
set_option linter.unusedVariables false
namespace Go.Proofs.Ytlnmemeejgnbeaa
open Go.RowKit

theorem Bld.setG {B : Nat} {w wx : World} {M : Nat} {given : Int} {na : Option Addr} {nc : Nat} {oa : Option Addr} {oc : Nat} {ms : List Nd} {mo : List Int} (h : Bld B w wx M given na nc oa oc ms mo) (g : Int) : Bld B w (wx.setCell ⟨M, 0, none⟩ (.int .i64 g)) M g na nc oa oc ms mo :=
  ⟨h.below.setCell h.mB _, by rw [blk_set h.me]; rfl, h.nodes.same fun b hb _ => Below.heap_setCell wx ⟨M, 0, none⟩ _ b (h.dn b hb), h.outs.same fun b hb _ => Below.heap_setCell wx ⟨M, 0, none⟩ _ b (h.dq b hb), h.dn, h.dq, h.dd, h.mB, by simp only [World.setCell, Array.size_modify]; exact h.hB⟩
theorem Mine.grown {e size B : Nat} {w w' : World} {v : Value} {n : Nat} {xs : List Value} {row : Option Nat} (h : Mine e size B w v n xs) (hg : w.grownBy w' row) (hne : ∀ b, v.ownBlock = some b → some b ≠ row) : Mine e size B w' v n xs := h.same fun b hb hl => hg.block b hl (hne b hb)
/-- where a row may lie: where it lay, or in what was new -/
def InNew (v : Value) (e lo hi : Nat) : Prop := ∀ b, v.ownBlock = some b → (b = e ∨ lo ≤ b) ∧ b < hi
theorem bes_done {w1 y : World} {M g1 : Nat} {na' oa' : Option Addr} {nc' oc' : Nat} {ns : List Nd} {os : List Int} {bn bo : Nat} (hb : Below w1.heap.size w1 y) (hM : y.heap[M]? = some (.cells #[.int .i64 0, .slice none 0 0, .slice none 0 0] 28 (0, 0))) (hMg : w1.heap.size ≤ M)
    (hn : Mine 26 4 bn y (.slice na' ns.length nc') ns.length (ndsC ns)) (ho : Mine 3 1 bo y (.slice oa' os.length oc') os.length (intsC os)) (hbn : w1.heap.size ≤ bn) (hbo : w1.heap.size ≤ bo)
    (dn : ∀ b, (Value.slice na' ns.length nc').ownBlock = some b → b ≠ M) (dq : ∀ b, (Value.slice oa' os.length oc').ownBlock = some b → b ≠ M) (dd : ∀ b, (Value.slice na' ns.length nc').ownBlock = some b → (Value.slice oa' os.length oc').ownBlock ≠ some b) :
    Bld w1.heap.size w1 (((y.setCell ⟨M, 0, none⟩ (.int .i64 (g1 : Int))).setCell ⟨M, 1, none⟩ (.slice na' ns.length nc')).setCell ⟨M, 2, none⟩ (.slice oa' os.length oc')) M g1 na' nc' oa' oc' ns os := by
  have key : ∀ b, b ≠ M → (((y.setCell ⟨M, 0, none⟩ (.int .i64 (g1 : Int))).setCell ⟨M, 1, none⟩ (.slice na' ns.length nc')).setCell ⟨M, 2, none⟩ (.slice oa' os.length oc')).heap[b]? = y.heap[b]? := fun b hbM => by
    rw [Below.heap_setCell _ ⟨M, 2, none⟩ _ b hbM, Below.heap_setCell _ ⟨M, 1, none⟩ _ b hbM, Below.heap_setCell _ ⟨M, 0, none⟩ _ b hbM]
  have hB3 : Below w1.heap.size w1 (((y.setCell ⟨M, 0, none⟩ (.int .i64 (g1 : Int))).setCell ⟨M, 1, none⟩ (.slice na' ns.length nc')).setCell ⟨M, 2, none⟩ (.slice oa' os.length oc')) := ((hb.setCell hMg _).setCell hMg _).setCell hMg _
  exact ⟨hB3, blk_set3 hM _ _ _, (hn.same fun b hb' _ => key b (dn b hb')).from hbn, (ho.same fun b hb' _ => key b (dq b hb')).from hbo, dn, dq, dd, hMg, hB3.size⟩

set_option maxRecDepth 100000 in
set_option maxHeartbeats 6400000 in
theorem beside_same (g1 : Nat) (ns ms : List Nd) (os mo : List Int) (na oa ma pa : Option Addr) (nc oc mc pc : Nat) (w : World) (hn : Lies AnyB w na (ndsC ns)) (ho : Lies AnyB w oa (intsC os)) (hm : Lies AnyB w ma (ndsC ms)) (hp : Lies AnyB w pa (intsC mo)) (h1 : RightP g1 ns os) (h2 : RightP g1 ms mo) (hb : g1 ≤ 200 ∧ g1 ≤ 200 ∧ ns.length ≤ 60 ∧ ms.length ≤ 60 ∧ os.length ≤ 30 ∧ mo.length ≤ 30) :
    Calls Try.prog 16 #[.agg #[.int .i64 (g1 : Int), .slice na ns.length nc, .slice oa os.length oc], .agg #[.int .i64 (g1 : Int), .slice ma ms.length mc, .slice pa mo.length pc], .bool true] w fun e w' => (∃ (na' oa' : Option Addr) (nc' oc' : Nat), e = .returned (.agg #[.int .i64 (g1 : Int), .slice na' (jnN ns ms ns.length 0 ms.length).length nc', .slice oa' (jnO os mo ns.length mo.length).length oc']) ∧ Lies AnyB w' na' (ndsC (jnN ns ms ns.length 0 ms.length)) ∧ Lies AnyB w' oa' (intsC (jnO os mo ns.length mo.length))) ∧ Below w.heap.size w w' := by
  have HB0 : Hid (Below w.heap.size w (((w.alloc (.cells #[.int .i64 (g1 : Int), .slice na ns.length nc, .slice oa os.length oc] 28)).alloc (.cells #[.int .i64 (g1 : Int), .slice ma ms.length mc, .slice pa mo.length pc] 28)).alloc (.cells #[.int .i64 0, .slice none 0 0, .slice none 0 0] 28))) := hide (((below_alloc _ _).alloc (by simp) _).alloc (by simp; omega) _)
  have HNA : Hid (NetAt ⟨w.heap.size, na, nc, oa, oc⟩ AnyB (((w.alloc (.cells #[.int .i64 (g1 : Int), .slice na ns.length nc, .slice oa os.length oc] 28)).alloc (.cells #[.int .i64 (g1 : Int), .slice ma ms.length mc, .slice pa mo.length pc] 28)).alloc (.cells #[.int .i64 0, .slice none 0 0, .slice none 0 0] 28)) g1 ns os ∧ NetAt ⟨w.heap.size + 1, ma, mc, pa, pc⟩ AnyB (((w.alloc (.cells #[.int .i64 (g1 : Int), .slice na ns.length nc, .slice oa os.length oc] 28)).alloc (.cells #[.int .i64 (g1 : Int), .slice ma ms.length mc, .slice pa mo.length pc] 28)).alloc (.cells #[.int .i64 0, .slice none 0 0, .slice none 0 0] 28)) g1 ms mo ∧ (((w.alloc (.cells #[.int .i64 (g1 : Int), .slice na ns.length nc, .slice oa os.length oc] 28)).alloc (.cells #[.int .i64 (g1 : Int), .slice ma ms.length mc, .slice pa mo.length pc] 28)).alloc (.cells #[.int .i64 0, .slice none 0 0, .slice none 0 0] 28)).heap[w.heap.size + 2]? = some (.cells #[.int .i64 0, .slice none 0 0, .slice none 0 0] 28 (0, 0)) ∧ w.heap.size + 2 < (((w.alloc (.cells #[.int .i64 (g1 : Int), .slice na ns.length nc, .slice oa os.length oc] 28)).alloc (.cells #[.int .i64 (g1 : Int), .slice ma ms.length mc, .slice pa mo.length pc] 28)).alloc (.cells #[.int .i64 0, .slice none 0 0, .slice none 0 0] 28)).heap.size) := hide (by
    have b1 := blk_new w (.cells #[.int .i64 (g1 : Int), .slice na ns.length nc, .slice oa os.length oc] 28)
    have l1 := below_alloc w (.cells #[.int .i64 (g1 : Int), .slice na ns.length nc, .slice oa os.length oc] 28)
    generalize hw1 : w.alloc (.cells #[.int .i64 (g1 : Int), .slice na ns.length nc, .slice oa os.length oc] 28) = w1 at *
    have z1 : w1.heap.size = w.heap.size + 1 := by rw [← hw1]; simp
    have b2 := blk_new w1 (.cells #[.int .i64 (g1 : Int), .slice ma ms.length mc, .slice pa mo.length pc] 28)
    have l2 := below_alloc w1 (.cells #[.int .i64 (g1 : Int), .slice ma ms.length mc, .slice pa mo.length pc] 28)
    generalize hw2 : w1.alloc (.cells #[.int .i64 (g1 : Int), .slice ma ms.length mc, .slice pa mo.length pc] 28) = w2 at *
    have z2 : w2.heap.size = w.heap.size + 2 := by rw [← hw2]; simp; omega
    have b3 := blk_new w2 (.cells #[.int .i64 0, .slice none 0 0, .slice none 0 0] 28)
    have l3 := below_alloc w2 (.cells #[.int .i64 0, .slice none 0 0, .slice none 0 0] 28)
    generalize hw3 : w2.alloc (.cells #[.int .i64 0, .slice none 0 0, .slice none 0 0] 28) = w3 at *
    have z3 : w3.heap.size = w.heap.size + 3 := by rw [← hw3]; simp; omega
    rw [z2] at b3
    rw [z1] at b2
    exact ⟨⟨Below.blk l3 (Below.blk l2 b1), ((hn.below l1).below l2).below l3, ((ho.below l1).below l2).below l3⟩, ⟨Below.blk l3 b2, ((hm.below l1).below l2).below l3, ((hp.below l1).below l2).below l3⟩, b3, by omega⟩)
  have H1 := hide h1
  have H2 := hide h2
  have HBD := hide hb
  clear hn ho hm hp h1 h2 hb
  have c10 : (((w.alloc (.cells #[.int .i64 (g1 : Int), .slice na ns.length nc, .slice oa os.length oc] 28)).alloc (.cells #[.int .i64 (g1 : Int), .slice ma ms.length mc, .slice pa mo.length pc] 28)).alloc (.cells #[.int .i64 0, .slice none 0 0, .slice none 0 0] 28)).cell? ⟨w.heap.size, 1, none⟩ = some (.slice na ns.length nc) := HNA.out.1.c1
  go_enter Try.func16, Try.ntmps16
  go_wp2_with fail
  clear c10
  generalize (((w.alloc (.cells #[.int .i64 (g1 : Int), .slice na ns.length nc, .slice oa os.length oc] 28)).alloc (.cells #[.int .i64 (g1 : Int), .slice ma ms.length mc, .slice pa mo.length pc] 28)).alloc (.cells #[.int .i64 0, .slice none 0 0, .slice none 0 0] 28)) = w1 at *
  go_cut [8] from 16 to 26 (fun v wx => ∃ M na' nc' oa' oc', v = .pointer (some ⟨M, 0, none⟩) ∧ Bld w1.heap.size w1 wx M g1 na' nc' oa' oc' ns os)
  case first =>
    have HSW : Hid (∀ W, Below w1.heap.size w1 W → W.cell? ⟨w.heap.size, 0, none⟩ = some (.int .i64 (g1 : Int)) ∧ W.cell? ⟨w.heap.size, 1, none⟩ = some (.slice na ns.length nc) ∧ W.cell? ⟨w.heap.size, 2, none⟩ = some (.slice oa os.length oc)) := hide fun W hb => ⟨(HNA.out.1.below hb).c0, (HNA.out.1.below hb).c1, (HNA.out.1.below hb).c2⟩
    have HBx1 : Hid (Below w1.heap.size w1 w1.drew) := hide (Below.refl _ _).drew
    refine wp_region_held_drew (S := fun W => W.cell? ⟨w.heap.size, 0, none⟩ = some (.int .i64 (g1 : Int)) ∧ W.cell? ⟨w.heap.size, 1, none⟩ = some (.slice na ns.length nc) ∧ W.cell? ⟨w.heap.size, 2, none⟩ = some (.slice oa os.length oc)) (by kernel_rfl) (HSW.out _ HBx1.out) (fun _ => ?_)
    generalize w1.drew = x1 at *
    refine wpAnyH_take (i := 0) (oi := ⟨some 16, _, _, _, _, _⟩) (v := (.pointer (some ⟨w.heap.size, 0, none⟩))) rfl (by kernel_rfl) (by kernel_rfl) (by kernel_rfl) (fun _ _ _ h => h) (Or.inl ⟨by rfl, fun W hS => by (obtain ⟨s0, s1, s2⟩ := hS; go_simp)⟩) (HSW.out _ HBx1.out) ?_
    simp only [Act.put, List.setIfInBounds_toArray, List.set_cons_zero, List.set_cons_succ]
    refine wpAnyH_take (i := 1) (oi := ⟨some 17, _, _, _, _, _⟩) (v := (.int .i64 (g1 : Int))) rfl (by kernel_rfl) (by kernel_rfl) (by kernel_rfl) (fun _ _ _ h => h) (Or.inl ⟨by rfl, fun W hS => by (obtain ⟨s0, s1, s2⟩ := hS; go_simp)⟩) (HSW.out _ HBx1.out) ?_
    simp only [Act.put, List.setIfInBounds_toArray, List.set_cons_zero, List.set_cons_succ]
    refine wpAnyH_take (i := 3) (oi := ⟨some 19, _, _, _, _, _⟩) (v := (.pointer (some ⟨w.heap.size, 1, none⟩))) rfl (by kernel_rfl) (by kernel_rfl) (by kernel_rfl) (fun _ _ _ h => h) (Or.inl ⟨by rfl, fun W hS => by (obtain ⟨s0, s1, s2⟩ := hS; go_simp)⟩) (HSW.out _ HBx1.out) ?_
    simp only [Act.put, List.setIfInBounds_toArray, List.set_cons_zero, List.set_cons_succ]
    refine wpAnyH_take (i := 4) (oi := ⟨some 20, _, _, _, _, _⟩) (v := (.slice na ns.length nc)) rfl (by kernel_rfl) (by kernel_rfl) (by kernel_rfl) (fun _ _ _ h => h) (Or.inl ⟨by rfl, fun W hS => by (obtain ⟨s0, s1, s2⟩ := hS; go_simp)⟩) (HSW.out _ HBx1.out) ?_
    simp only [Act.put, List.setIfInBounds_toArray, List.set_cons_zero, List.set_cons_succ]
    refine wpAnyH_take (i := 7) (oi := ⟨some 23, _, _, _, _, _⟩) (v := (.pointer (some ⟨w.heap.size, 2, none⟩))) rfl (by kernel_rfl) (by kernel_rfl) (by kernel_rfl) (fun _ _ _ h => h) (Or.inl ⟨by rfl, fun W hS => by (obtain ⟨s0, s1, s2⟩ := hS; go_simp)⟩) (HSW.out _ HBx1.out) ?_
    simp only [Act.put, List.setIfInBounds_toArray, List.set_cons_zero, List.set_cons_succ]
    refine wpAnyH_take (i := 8) (oi := ⟨some 24, _, _, _, _, _⟩) (v := (.slice oa os.length oc)) rfl (by kernel_rfl) (by kernel_rfl) (by kernel_rfl) (fun _ _ _ h => h) (Or.inl ⟨by rfl, fun W hS => by (obtain ⟨s0, s1, s2⟩ := hS; go_simp)⟩) (HSW.out _ HBx1.out) ?_
    simp only [Act.put, List.setIfInBounds_toArray, List.set_cons_zero, List.set_cons_succ]
    have hzw : w1.heap.size ≤ x1.heap.size := HBx1.out.size
    refine wpAnyH_ready (rs := [2, 6, 11]) (by kernel_rfl) (by simp) ?_
    refine AllReadyH.cons rfl (fun K hK => ?_) (AllReadyH.cons rfl (fun K hK => ?_) (AllReadyH.cons rfl (fun K hK => ?_) AllReadyH.nil))
    · go_simp
      have HT : Hid (Below x1.heap.size x1 (x1.alloc (.cells #[] 26))) := hide (below_alloc _ _)
      have HBx2 : Hid (Below w1.heap.size w1 (x1.alloc (.cells #[] 26))) := hide (Below.step HBx1.out HT.out)
      have HEN := hide (blk_new x1 (.cells #[] 26))
      refine hK.out _ _ (HSW.out _ HBx2.out) (fun _ => ?_)
      clear hK K
      generalize x1.alloc (.cells #[] 26) = x2 at *
      have hzx2 : x1.heap.size < x2.heap.size := blk_lt HEN.out
      clear HT
      refine wpAnyH_ready (rs := [5, 6, 11]) (by kernel_rfl) (by simp) ?_
      refine AllReadyH.cons rfl (fun K hK => ?_) (AllReadyH.cons rfl (fun K hK => ?_) (AllReadyH.cons rfl (fun K hK => ?_) AllReadyH.nil))
      · obtain ⟨na', nc', x3, happ, hm, hg, hnb⟩ := app_nd (c := nc) (n' := ns.length) (Mine.empty (size := 4) HEN.out) (l := []) rfl (new := ns) rfl (by omega) ((HNA.out.1.below HBx2.out).nodes) (Nat.le_of_lt (blk_lt HEN.out)) (by have := HBD.out; omega)
        have HRN := hide hm
        have hzx3 : x2.heap.size ≤ x3.heap.size := hg.size
        have HIN : Hid (InNew (.slice na' ns.length nc') (x1.heap.size) x2.heap.size x3.heap.size) := hide fun b hb => ⟨(hnb b hb).imp (fun h => by simp [Value.ownBlock] at h; omega) id, hm.lt hb⟩
        have HBx3 : Hid (Below w1.heap.size w1 x3) := hide (Below.grownOn HBx2.out hg (fun b hb => by simp [Value.ownBlock] at hb; have := hzw; omega) HBx2.out.size)
        clear hm hg hnb
        refine (if_pos (by kernel_rfl)).mpr ?_
        refine wp_append_run happ _ _ rfl rfl rfl ?_
        simp only [Act.put, List.setIfInBounds_toArray, List.set_cons_zero, List.set_cons_succ]
        refine hK.out _ _ (HSW.out _ HBx3.out) (fun _ => ?_)
        clear hK K
        clear happ HEN
        refine wpAnyH_ready (rs := [6, 11]) (by kernel_rfl) (by simp) ?_
        refine AllReadyH.cons rfl (fun K hK => ?_) (AllReadyH.cons rfl (fun K hK => ?_) AllReadyH.nil)
        · go_simp
          have HT : Hid (Below x3.heap.size x3 (x3.alloc (.cells #[] 3))) := hide (below_alloc _ _)
          have HBx4 : Hid (Below w1.heap.size w1 (x3.alloc (.cells #[] 3))) := hide (Below.step HBx3.out HT.out)
          have HEO := hide (blk_new x3 (.cells #[] 3))
          have HRN := hide (HRN.out.below HT.out)
          refine hK.out _ _ (HSW.out _ HBx4.out) (fun _ => ?_)
          clear hK K
          generalize x3.alloc (.cells #[] 3) = x4 at *
          have hzx4 : x3.heap.size < x4.heap.size := blk_lt HEO.out
          clear HT
          refine wpAnyH_ready (rs := [9, 11]) (by kernel_rfl) (by simp) ?_
          refine AllReadyH.cons rfl (fun K hK => ?_) (AllReadyH.cons rfl (fun K hK => ?_) AllReadyH.nil)
          · obtain ⟨oa', oc', x5, happ, hm, hg, hnb⟩ := app_in (c := oc) (n' := os.length) (Mine.empty (size := 1) HEO.out) (l := []) rfl (new := os) rfl (by omega) ((HNA.out.1.below HBx4.out).outs) (Nat.le_of_lt (blk_lt HEO.out)) (by have := HBD.out; omega)
            have HRO := hide hm
            have hzx5 : x4.heap.size ≤ x5.heap.size := hg.size
            have HIO : Hid (InNew (.slice oa' os.length oc') (x3.heap.size) x4.heap.size x5.heap.size) := hide fun b hb => ⟨(hnb b hb).imp (fun h => by simp [Value.ownBlock] at h; omega) id, hm.lt hb⟩
            have HBx5 : Hid (Below w1.heap.size w1 x5) := hide (Below.grownOn HBx4.out hg (fun b hb => by simp [Value.ownBlock] at hb; have := hzw; omega) HBx4.out.size)
            have HRN := hide (HRN.out.grown hg (fun b hb e => by have := HIN.out b hb; simp [Value.ownBlock] at e; omega))
            clear hm hg hnb
            refine (if_pos (by kernel_rfl)).mpr ?_
            refine wp_append_run happ _ _ rfl rfl rfl ?_
            simp only [Act.put, List.setIfInBounds_toArray, List.set_cons_zero, List.set_cons_succ]
            refine hK.out _ _ (HSW.out _ HBx5.out) (fun _ => ?_)
            clear hK K
            clear happ HEO
            refine wpAnyH_take (i := 10) (oi := ⟨some 26, _, _, _, _, _⟩) (v := (.agg #[.int .i64 (g1 : Int), .slice na' ns.length nc', .slice oa' os.length oc'])) rfl (by kernel_rfl) (by kernel_rfl) (by kernel_rfl) (fun _ _ _ h => h) (Or.inl ⟨by rfl, fun W hS => by (obtain ⟨s0, s1, s2⟩ := hS; go_simp)⟩) (HSW.out _ HBx5.out) ?_
            simp only [Act.put, List.setIfInBounds_toArray, List.set_cons_zero, List.set_cons_succ]
            refine wpAnyH_ready (rs := [11]) (by kernel_rfl) (by simp) ?_
            refine AllReadyH.cons rfl (fun K hK => ?_) AllReadyH.nil
            go_simp
            have HT : Hid (Below x5.heap.size x5 (x5.alloc (.cells #[.int .i64 0, .slice none 0 0, .slice none 0 0] 28))) := hide (below_alloc _ _)
            have HBx6 : Hid (Below w1.heap.size w1 (x5.alloc (.cells #[.int .i64 0, .slice none 0 0, .slice none 0 0] 28))) := hide (Below.step HBx5.out HT.out)
            have HMM := hide (blk_new x5 (.cells #[.int .i64 0, .slice none 0 0, .slice none 0 0] 28))
            have HRN := hide (HRN.out.below HT.out)
            have HRO := hide (HRO.out.below HT.out)
            refine hK.out _ _ (HSW.out _ HBx6.out) (fun _ => ?_)
            clear hK K
            generalize x5.alloc (.cells #[.int .i64 0, .slice none 0 0, .slice none 0 0] 28) = x6 at *
            have hzx6 : x5.heap.size < x6.heap.size := blk_lt HMM.out
            clear HT
            have k0 : x6.cell? ⟨x5.heap.size, 0, none⟩ = some (.int .i64 0) := by rw [blk_cell HMM.out]; rfl
            have k1 : x6.cell? ⟨x5.heap.size, 1, none⟩ = some (.slice none 0 0) := by rw [blk_cell HMM.out]; rfl
            have k2 : x6.cell? ⟨x5.heap.size, 2, none⟩ = some (.slice none 0 0) := by rw [blk_cell HMM.out]; rfl
            have kf : ∀ i, x6.frozen? ⟨x5.heap.size, i, none⟩ = false := fun i => blk_frozen HMM.out i
            refine wpAnyH_ready (rs := [12]) (by kernel_rfl) (by simp) ?_
            refine AllReadyH.cons rfl (fun K hK => ?_) AllReadyH.nil
            go_simp
            have HBL := hide (bes_done (g1 := g1) HBx6.out HMM.out (by omega) HRN.out HRO.out (by omega) (by omega) (fun b hb e => by have := HIN.out b hb; omega) (fun b hb e => by have := HIO.out b hb; omega) (fun b hb hc => by have h1 := HIN.out b hb; have h2 := HIO.out b hc; omega))
            refine hK.out _ _ (HSW.out _ HBL.out.below) (fun _ => ?_)
            clear hK K
            refine wpAnyH_done (by kernel_rfl) ?_ _
            go_wp2_with fail
            go_meet
            case rel => exact ⟨_, na', nc', oa', oc', rfl, HBL.out⟩
          · go_simp
            have HT : Hid (Below x4.heap.size x4 (x4.alloc (.cells #[.int .i64 0, .slice none 0 0, .slice none 0 0] 28))) := hide (below_alloc _ _)
            have HBx5 : Hid (Below w1.heap.size w1 (x4.alloc (.cells #[.int .i64 0, .slice none 0 0, .slice none 0 0] 28))) := hide (Below.step HBx4.out HT.out)
            have HMM := hide (blk_new x4 (.cells #[.int .i64 0, .slice none 0 0, .slice none 0 0] 28))
            have HEO := hide (Below.blk HT.out HEO.out)
            have HRN := hide (HRN.out.below HT.out)
            refine hK.out _ _ (HSW.out _ HBx5.out) (fun _ => ?_)
            clear hK K
            generalize x4.alloc (.cells #[.int .i64 0, .slice none 0 0, .slice none 0 0] 28) = x5 at *
            have hzx5 : x4.heap.size < x5.heap.size := blk_lt HMM.out
            clear HT
            refine wpAnyH_ready (rs := [9]) (by kernel_rfl) (by simp) ?_
            refine AllReadyH.cons rfl (fun K hK => ?_) AllReadyH.nil
            obtain ⟨oa', oc', x6, happ, hm, hg, hnb⟩ := app_in (c := oc) (n' := os.length) (Mine.empty (size := 1) HEO.out) (l := []) rfl (new := os) rfl (by omega) ((HNA.out.1.below HBx5.out).outs) (Nat.le_of_lt (blk_lt HEO.out)) (by have := HBD.out; omega)
            have HRO := hide hm
            have hzx6 : x5.heap.size ≤ x6.heap.size := hg.size
            have HIO : Hid (InNew (.slice oa' os.length oc') (x3.heap.size) x5.heap.size x6.heap.size) := hide fun b hb => ⟨(hnb b hb).imp (fun h => by simp [Value.ownBlock] at h; omega) id, hm.lt hb⟩
            have HBx6 : Hid (Below w1.heap.size w1 x6) := hide (Below.grownOn HBx5.out hg (fun b hb => by simp [Value.ownBlock] at hb; have := hzw; omega) HBx5.out.size)
            have HRN := hide (HRN.out.grown hg (fun b hb e => by have := HIN.out b hb; simp [Value.ownBlock] at e; omega))
            have HMM := hide ((hg.block _ (blk_lt HMM.out) (fun e => by simp [Value.ownBlock] at e; omega)).trans HMM.out)
            clear hm hg hnb
            refine (if_pos (by kernel_rfl)).mpr ?_
            refine wp_append_run happ _ _ rfl rfl rfl ?_
            simp only [Act.put, List.setIfInBounds_toArray, List.set_cons_zero, List.set_cons_succ]
            refine hK.out _ _ (HSW.out _ HBx6.out) (fun _ => ?_)
            clear hK K
            clear happ HEO
            refine wpAnyH_take (i := 10) (oi := ⟨some 26, _, _, _, _, _⟩) (v := (.agg #[.int .i64 (g1 : Int), .slice na' ns.length nc', .slice oa' os.length oc'])) rfl (by kernel_rfl) (by kernel_rfl) (by kernel_rfl) (fun _ _ _ h => h) (Or.inl ⟨by rfl, fun W hS => by (obtain ⟨s0, s1, s2⟩ := hS; go_simp)⟩) (HSW.out _ HBx6.out) ?_
            simp only [Act.put, List.setIfInBounds_toArray, List.set_cons_zero, List.set_cons_succ]
            have k0 : x6.cell? ⟨x4.heap.size, 0, none⟩ = some (.int .i64 0) := by rw [blk_cell HMM.out]; rfl
            have k1 : x6.cell? ⟨x4.heap.size, 1, none⟩ = some (.slice none 0 0) := by rw [blk_cell HMM.out]; rfl
            have k2 : x6.cell? ⟨x4.heap.size, 2, none⟩ = some (.slice none 0 0) := by rw [blk_cell HMM.out]; rfl
            have kf : ∀ i, x6.frozen? ⟨x4.heap.size, i, none⟩ = false := fun i => blk_frozen HMM.out i
            refine wpAnyH_ready (rs := [12]) (by kernel_rfl) (by simp) ?_
            refine AllReadyH.cons rfl (fun K hK => ?_) AllReadyH.nil
            go_simp
            have HBL := hide (bes_done (g1 := g1) HBx6.out HMM.out (by omega) HRN.out HRO.out (by omega) (by omega) (fun b hb e => by have := HIN.out b hb; omega) (fun b hb e => by have := HIO.out b hb; omega) (fun b hb hc => by have h1 := HIN.out b hb; have h2 := HIO.out b hc; omega))
            refine hK.out _ _ (HSW.out _ HBL.out.below) (fun _ => ?_)
            clear hK K
            refine wpAnyH_done (by kernel_rfl) ?_ _
            go_wp2_with fail
            go_meet
            case rel => exact ⟨_, na', nc', oa', oc', rfl, HBL.out⟩
        · go_simp
          have HT : Hid (Below x3.heap.size x3 (x3.alloc (.cells #[.int .i64 0, .slice none 0 0, .slice none 0 0] 28))) := hide (below_alloc _ _)
          have HBx4 : Hid (Below w1.heap.size w1 (x3.alloc (.cells #[.int .i64 0, .slice none 0 0, .slice none 0 0] 28))) := hide (Below.step HBx3.out HT.out)
          have HMM := hide (blk_new x3 (.cells #[.int .i64 0, .slice none 0 0, .slice none 0 0] 28))
          have HRN := hide (HRN.out.below HT.out)
          refine hK.out _ _ (HSW.out _ HBx4.out) (fun _ => ?_)
          clear hK K
          generalize x3.alloc (.cells #[.int .i64 0, .slice none 0 0, .slice none 0 0] 28) = x4 at *
          have hzx4 : x3.heap.size < x4.heap.size := blk_lt HMM.out
          clear HT
          refine wpAnyH_ready (rs := [6]) (by kernel_rfl) (by simp) ?_
          refine AllReadyH.cons rfl (fun K hK => ?_) AllReadyH.nil
          go_simp
          have HT : Hid (Below x4.heap.size x4 (x4.alloc (.cells #[] 3))) := hide (below_alloc _ _)
          have HBx5 : Hid (Below w1.heap.size w1 (x4.alloc (.cells #[] 3))) := hide (Below.step HBx4.out HT.out)
          have HEO := hide (blk_new x4 (.cells #[] 3))
          have HMM := hide (Below.blk HT.out HMM.out)
          have HRN := hide (HRN.out.below HT.out)
          refine hK.out _ _ (HSW.out _ HBx5.out) (fun _ => ?_)
          clear hK K
          generalize x4.alloc (.cells #[] 3) = x5 at *
          have hzx5 : x4.heap.size < x5.heap.size := blk_lt HEO.out
          clear HT
          refine wpAnyH_ready (rs := [9]) (by kernel_rfl) (by simp) ?_
          refine AllReadyH.cons rfl (fun K hK => ?_) AllReadyH.nil
          obtain ⟨oa', oc', x6, happ, hm, hg, hnb⟩ := app_in (c := oc) (n' := os.length) (Mine.empty (size := 1) HEO.out) (l := []) rfl (new := os) rfl (by omega) ((HNA.out.1.below HBx5.out).outs) (Nat.le_of_lt (blk_lt HEO.out)) (by have := HBD.out; omega)
          have HRO := hide hm
          have hzx6 : x5.heap.size ≤ x6.heap.size := hg.size
          have HIO : Hid (InNew (.slice oa' os.length oc') (x4.heap.size) x5.heap.size x6.heap.size) := hide fun b hb => ⟨(hnb b hb).imp (fun h => by simp [Value.ownBlock] at h; omega) id, hm.lt hb⟩
          have HBx6 : Hid (Below w1.heap.size w1 x6) := hide (Below.grownOn HBx5.out hg (fun b hb => by simp [Value.ownBlock] at hb; have := hzw; omega) HBx5.out.size)
          have HRN := hide (HRN.out.grown hg (fun b hb e => by have := HIN.out b hb; simp [Value.ownBlock] at e; omega))
          have HMM := hide ((hg.block _ (blk_lt HMM.out) (fun e => by simp [Value.ownBlock] at e; omega)).trans HMM.out)
          clear hm hg hnb
          refine (if_pos (by kernel_rfl)).mpr ?_
          refine wp_append_run happ _ _ rfl rfl rfl ?_
          simp only [Act.put, List.setIfInBounds_toArray, List.set_cons_zero, List.set_cons_succ]
          refine hK.out _ _ (HSW.out _ HBx6.out) (fun _ => ?_)
          clear hK K
          clear happ HEO
          refine wpAnyH_take (i := 10) (oi := ⟨some 26, _, _, _, _, _⟩) (v := (.agg #[.int .i64 (g1 : Int), .slice na' ns.length nc', .slice oa' os.length oc'])) rfl (by kernel_rfl) (by kernel_rfl) (by kernel_rfl) (fun _ _ _ h => h) (Or.inl ⟨by rfl, fun W hS => by (obtain ⟨s0, s1, s2⟩ := hS; go_simp)⟩) (HSW.out _ HBx6.out) ?_
          simp only [Act.put, List.setIfInBounds_toArray, List.set_cons_zero, List.set_cons_succ]
          have k0 : x6.cell? ⟨x3.heap.size, 0, none⟩ = some (.int .i64 0) := by rw [blk_cell HMM.out]; rfl
          have k1 : x6.cell? ⟨x3.heap.size, 1, none⟩ = some (.slice none 0 0) := by rw [blk_cell HMM.out]; rfl
          have k2 : x6.cell? ⟨x3.heap.size, 2, none⟩ = some (.slice none 0 0) := by rw [blk_cell HMM.out]; rfl
          have kf : ∀ i, x6.frozen? ⟨x3.heap.size, i, none⟩ = false := fun i => blk_frozen HMM.out i
          refine wpAnyH_ready (rs := [12]) (by kernel_rfl) (by simp) ?_
          refine AllReadyH.cons rfl (fun K hK => ?_) AllReadyH.nil
          go_simp
          have HBL := hide (bes_done (g1 := g1) HBx6.out HMM.out (by omega) HRN.out HRO.out (by omega) (by omega) (fun b hb e => by have := HIN.out b hb; omega) (fun b hb e => by have := HIO.out b hb; omega) (fun b hb hc => by have h1 := HIN.out b hb; have h2 := HIO.out b hc; omega))
          refine hK.out _ _ (HSW.out _ HBL.out.below) (fun _ => ?_)
          clear hK K
          refine wpAnyH_done (by kernel_rfl) ?_ _
          go_wp2_with fail
          go_meet
          case rel => exact ⟨_, na', nc', oa', oc', rfl, HBL.out⟩
      · go_simp
        have HT : Hid (Below x2.heap.size x2 (x2.alloc (.cells #[] 3))) := hide (below_alloc _ _)
        have HBx3 : Hid (Below w1.heap.size w1 (x2.alloc (.cells #[] 3))) := hide (Below.step HBx2.out HT.out)
        have HEO := hide (blk_new x2 (.cells #[] 3))
        have HEN := hide (Below.blk HT.out HEN.out)
        refine hK.out _ _ (HSW.out _ HBx3.out) (fun _ => ?_)
        clear hK K
        generalize x2.alloc (.cells #[] 3) = x3 at *
        have hzx3 : x2.heap.size < x3.heap.size := blk_lt HEO.out
        clear HT
        refine wpAnyH_ready (rs := [5, 11]) (by kernel_rfl) (by simp) ?_
        refine AllReadyH.cons rfl (fun K hK => ?_) (AllReadyH.cons rfl (fun K hK => ?_) AllReadyH.nil)
        · obtain ⟨na', nc', x4, happ, hm, hg, hnb⟩ := app_nd (c := nc) (n' := ns.length) (Mine.empty (size := 4) HEN.out) (l := []) rfl (new := ns) rfl (by omega) ((HNA.out.1.below HBx3.out).nodes) (Nat.le_of_lt (blk_lt HEN.out)) (by have := HBD.out; omega)
          have HRN := hide hm
          have hzx4 : x3.heap.size ≤ x4.heap.size := hg.size
          have HIN : Hid (InNew (.slice na' ns.length nc') (x1.heap.size) x3.heap.size x4.heap.size) := hide fun b hb => ⟨(hnb b hb).imp (fun h => by simp [Value.ownBlock] at h; omega) id, hm.lt hb⟩
          have HBx4 : Hid (Below w1.heap.size w1 x4) := hide (Below.grownOn HBx3.out hg (fun b hb => by simp [Value.ownBlock] at hb; have := hzw; omega) HBx3.out.size)
          have HEO := hide ((hg.block _ (blk_lt HEO.out) (fun e => by simp [Value.ownBlock] at e; omega)).trans HEO.out)
          clear hm hg hnb
          refine (if_pos (by kernel_rfl)).mpr ?_
          refine wp_append_run happ _ _ rfl rfl rfl ?_
          simp only [Act.put, List.setIfInBounds_toArray, List.set_cons_zero, List.set_cons_succ]
          refine hK.out _ _ (HSW.out _ HBx4.out) (fun _ => ?_)
          clear hK K
          clear happ HEN
          refine wpAnyH_ready (rs := [9, 11]) (by kernel_rfl) (by simp) ?_
          refine AllReadyH.cons rfl (fun K hK => ?_) (AllReadyH.cons rfl (fun K hK => ?_) AllReadyH.nil)
          · obtain ⟨oa', oc', x5, happ, hm, hg, hnb⟩ := app_in (c := oc) (n' := os.length) (Mine.empty (size := 1) HEO.out) (l := []) rfl (new := os) rfl (by omega) ((HNA.out.1.below HBx4.out).outs) (Nat.le_of_lt (blk_lt HEO.out)) (by have := HBD.out; omega)
            have HRO := hide hm
            have hzx5 : x4.heap.size ≤ x5.heap.size := hg.size
            have HIO : Hid (InNew (.slice oa' os.length oc') (x2.heap.size) x4.heap.size x5.heap.size) := hide fun b hb => ⟨(hnb b hb).imp (fun h => by simp [Value.ownBlock] at h; omega) id, hm.lt hb⟩
            have HBx5 : Hid (Below w1.heap.size w1 x5) := hide (Below.grownOn HBx4.out hg (fun b hb => by simp [Value.ownBlock] at hb; have := hzw; omega) HBx4.out.size)
            have HRN := hide (HRN.out.grown hg (fun b hb e => by have := HIN.out b hb; simp [Value.ownBlock] at e; omega))
            clear hm hg hnb
            refine (if_pos (by kernel_rfl)).mpr ?_
            refine wp_append_run happ _ _ rfl rfl rfl ?_
            simp only [Act.put, List.setIfInBounds_toArray, List.set_cons_zero, List.set_cons_succ]
            refine hK.out _ _ (HSW.out _ HBx5.out) (fun _ => ?_)
            clear hK K
            clear happ HEO
            refine wpAnyH_take (i := 10) (oi := ⟨some 26, _, _, _, _, _⟩) (v := (.agg #[.int .i64 (g1 : Int), .slice na' ns.length nc', .slice oa' os.length oc'])) rfl (by kernel_rfl) (by kernel_rfl) (by kernel_rfl) (fun _ _ _ h => h) (Or.inl ⟨by rfl, fun W hS => by (obtain ⟨s0, s1, s2⟩ := hS; go_simp)⟩) (HSW.out _ HBx5.out) ?_
            simp only [Act.put, List.setIfInBounds_toArray, List.set_cons_zero, List.set_cons_succ]
            refine wpAnyH_ready (rs := [11]) (by kernel_rfl) (by simp) ?_
            refine AllReadyH.cons rfl (fun K hK => ?_) AllReadyH.nil
            go_simp
            have HT : Hid (Below x5.heap.size x5 (x5.alloc (.cells #[.int .i64 0, .slice none 0 0, .slice none 0 0] 28))) := hide (below_alloc _ _)
            have HBx6 : Hid (Below w1.heap.size w1 (x5.alloc (.cells #[.int .i64 0, .slice none 0 0, .slice none 0 0] 28))) := hide (Below.step HBx5.out HT.out)
            have HMM := hide (blk_new x5 (.cells #[.int .i64 0, .slice none 0 0, .slice none 0 0] 28))
            have HRN := hide (HRN.out.below HT.out)
            have HRO := hide (HRO.out.below HT.out)
            refine hK.out _ _ (HSW.out _ HBx6.out) (fun _ => ?_)
            clear hK K
            generalize x5.alloc (.cells #[.int .i64 0, .slice none 0 0, .slice none 0 0] 28) = x6 at *
            have hzx6 : x5.heap.size < x6.heap.size := blk_lt HMM.out
            clear HT
            have k0 : x6.cell? ⟨x5.heap.size, 0, none⟩ = some (.int .i64 0) := by rw [blk_cell HMM.out]; rfl
            have k1 : x6.cell? ⟨x5.heap.size, 1, none⟩ = some (.slice none 0 0) := by rw [blk_cell HMM.out]; rfl
            have k2 : x6.cell? ⟨x5.heap.size, 2, none⟩ = some (.slice none 0 0) := by rw [blk_cell HMM.out]; rfl
            have kf : ∀ i, x6.frozen? ⟨x5.heap.size, i, none⟩ = false := fun i => blk_frozen HMM.out i
            refine wpAnyH_ready (rs := [12]) (by kernel_rfl) (by simp) ?_
            refine AllReadyH.cons rfl (fun K hK => ?_) AllReadyH.nil
            go_simp
            have HBL := hide (bes_done (g1 := g1) HBx6.out HMM.out (by omega) HRN.out HRO.out (by omega) (by omega) (fun b hb e => by have := HIN.out b hb; omega) (fun b hb e => by have := HIO.out b hb; omega) (fun b hb hc => by have h1 := HIN.out b hb; have h2 := HIO.out b hc; omega))
            refine hK.out _ _ (HSW.out _ HBL.out.below) (fun _ => ?_)
            clear hK K
            refine wpAnyH_done (by kernel_rfl) ?_ _
            go_wp2_with fail
            go_meet
            case rel => exact ⟨_, na', nc', oa', oc', rfl, HBL.out⟩
          · go_simp
            have HT : Hid (Below x4.heap.size x4 (x4.alloc (.cells #[.int .i64 0, .slice none 0 0, .slice none 0 0] 28))) := hide (below_alloc _ _)
            have HBx5 : Hid (Below w1.heap.size w1 (x4.alloc (.cells #[.int .i64 0, .slice none 0 0, .slice none 0 0] 28))) := hide (Below.step HBx4.out HT.out)
            have HMM := hide (blk_new x4 (.cells #[.int .i64 0, .slice none 0 0, .slice none 0 0] 28))
            have HEO := hide (Below.blk HT.out HEO.out)
            have HRN := hide (HRN.out.below HT.out)
            refine hK.out _ _ (HSW.out _ HBx5.out) (fun _ => ?_)
            clear hK K
            generalize x4.alloc (.cells #[.int .i64 0, .slice none 0 0, .slice none 0 0] 28) = x5 at *
            have hzx5 : x4.heap.size < x5.heap.size := blk_lt HMM.out
            clear HT
            refine wpAnyH_ready (rs := [9]) (by kernel_rfl) (by simp) ?_
            refine AllReadyH.cons rfl (fun K hK => ?_) AllReadyH.nil
            obtain ⟨oa', oc', x6, happ, hm, hg, hnb⟩ := app_in (c := oc) (n' := os.length) (Mine.empty (size := 1) HEO.out) (l := []) rfl (new := os) rfl (by omega) ((HNA.out.1.below HBx5.out).outs) (Nat.le_of_lt (blk_lt HEO.out)) (by have := HBD.out; omega)
            have HRO := hide hm
            have hzx6 : x5.heap.size ≤ x6.heap.size := hg.size
            have HIO : Hid (InNew (.slice oa' os.length oc') (x2.heap.size) x5.heap.size x6.heap.size) := hide fun b hb => ⟨(hnb b hb).imp (fun h => by simp [Value.ownBlock] at h; omega) id, hm.lt hb⟩
            have HBx6 : Hid (Below w1.heap.size w1 x6) := hide (Below.grownOn HBx5.out hg (fun b hb => by simp [Value.ownBlock] at hb; have := hzw; omega) HBx5.out.size)
            have HRN := hide (HRN.out.grown hg (fun b hb e => by have := HIN.out b hb; simp [Value.ownBlock] at e; omega))
            have HMM := hide ((hg.block _ (blk_lt HMM.out) (fun e => by simp [Value.ownBlock] at e; omega)).trans HMM.out)
            clear hm hg hnb
            refine (if_pos (by kernel_rfl)).mpr ?_
            refine wp_append_run happ _ _ rfl rfl rfl ?_
            simp only [Act.put, List.setIfInBounds_toArray, List.set_cons_zero, List.set_cons_succ]
            refine hK.out _ _ (HSW.out _ HBx6.out) (fun _ => ?_)
            clear hK K
            clear happ HEO
            refine wpAnyH_take (i := 10) (oi := ⟨some 26, _, _, _, _, _⟩) (v := (.agg #[.int .i64 (g1 : Int), .slice na' ns.length nc', .slice oa' os.length oc'])) rfl (by kernel_rfl) (by kernel_rfl) (by kernel_rfl) (fun _ _ _ h => h) (Or.inl ⟨by rfl, fun W hS => by (obtain ⟨s0, s1, s2⟩ := hS; go_simp)⟩) (HSW.out _ HBx6.out) ?_
            simp only [Act.put, List.setIfInBounds_toArray, List.set_cons_zero, List.set_cons_succ]
            have k0 : x6.cell? ⟨x4.heap.size, 0, none⟩ = some (.int .i64 0) := by rw [blk_cell HMM.out]; rfl
            have k1 : x6.cell? ⟨x4.heap.size, 1, none⟩ = some (.slice none 0 0) := by rw [blk_cell HMM.out]; rfl
            have k2 : x6.cell? ⟨x4.heap.size, 2, none⟩ = some (.slice none 0 0) := by rw [blk_cell HMM.out]; rfl
            have kf : ∀ i, x6.frozen? ⟨x4.heap.size, i, none⟩ = false := fun i => blk_frozen HMM.out i
            refine wpAnyH_ready (rs := [12]) (by kernel_rfl) (by simp) ?_
            refine AllReadyH.cons rfl (fun K hK => ?_) AllReadyH.nil
            go_simp
            have HBL := hide (bes_done (g1 := g1) HBx6.out HMM.out (by omega) HRN.out HRO.out (by omega) (by omega) (fun b hb e => by have := HIN.out b hb; omega) (fun b hb e => by have := HIO.out b hb; omega) (fun b hb hc => by have h1 := HIN.out b hb; have h2 := HIO.out b hc; omega))
            refine hK.out _ _ (HSW.out _ HBL.out.below) (fun _ => ?_)
            clear hK K
            refine wpAnyH_done (by kernel_rfl) ?_ _
            go_wp2_with fail
            go_meet
            case rel => exact ⟨_, na', nc', oa', oc', rfl, HBL.out⟩
        · go_simp
          have HT : Hid (Below x3.heap.size x3 (x3.alloc (.cells #[.int .i64 0, .slice none 0 0, .slice none 0 0] 28))) := hide (below_alloc _ _)
          have HBx4 : Hid (Below w1.heap.size w1 (x3.alloc (.cells #[.int .i64 0, .slice none 0 0, .slice none 0 0] 28))) := hide (Below.step HBx3.out HT.out)
          have HMM := hide (blk_new x3 (.cells #[.int .i64 0, .slice none 0 0, .slice none 0 0] 28))
          have HEN := hide (Below.blk HT.out HEN.out)
          have HEO := hide (Below.blk HT.out HEO.out)
          refine hK.out _ _ (HSW.out _ HBx4.out) (fun _ => ?_)
          clear hK K
          generalize x3.alloc (.cells #[.int .i64 0, .slice none 0 0, .slice none 0 0] 28) = x4 at *
          have hzx4 : x3.heap.size < x4.heap.size := blk_lt HMM.out
          clear HT
          refine wpAnyH_ready (rs := [5]) (by kernel_rfl) (by simp) ?_
          refine AllReadyH.cons rfl (fun K hK => ?_) AllReadyH.nil
          obtain ⟨na', nc', x5, happ, hm, hg, hnb⟩ := app_nd (c := nc) (n' := ns.length) (Mine.empty (size := 4) HEN.out) (l := []) rfl (new := ns) rfl (by omega) ((HNA.out.1.below HBx4.out).nodes) (Nat.le_of_lt (blk_lt HEN.out)) (by have := HBD.out; omega)
          have HRN := hide hm
          have hzx5 : x4.heap.size ≤ x5.heap.size := hg.size
          have HIN : Hid (InNew (.slice na' ns.length nc') (x1.heap.size) x4.heap.size x5.heap.size) := hide fun b hb => ⟨(hnb b hb).imp (fun h => by simp [Value.ownBlock] at h; omega) id, hm.lt hb⟩
          have HBx5 : Hid (Below w1.heap.size w1 x5) := hide (Below.grownOn HBx4.out hg (fun b hb => by simp [Value.ownBlock] at hb; have := hzw; omega) HBx4.out.size)
          have HEO := hide ((hg.block _ (blk_lt HEO.out) (fun e => by simp [Value.ownBlock] at e; omega)).trans HEO.out)
          have HMM := hide ((hg.block _ (blk_lt HMM.out) (fun e => by simp [Value.ownBlock] at e; omega)).trans HMM.out)
          clear hm hg hnb
          refine (if_pos (by kernel_rfl)).mpr ?_
          refine wp_append_run happ _ _ rfl rfl rfl ?_
          simp only [Act.put, List.setIfInBounds_toArray, List.set_cons_zero, List.set_cons_succ]
          refine hK.out _ _ (HSW.out _ HBx5.out) (fun _ => ?_)
          clear hK K
          clear happ HEN
          refine wpAnyH_ready (rs := [9]) (by kernel_rfl) (by simp) ?_
          refine AllReadyH.cons rfl (fun K hK => ?_) AllReadyH.nil
          obtain ⟨oa', oc', x6, happ, hm, hg, hnb⟩ := app_in (c := oc) (n' := os.length) (Mine.empty (size := 1) HEO.out) (l := []) rfl (new := os) rfl (by omega) ((HNA.out.1.below HBx5.out).outs) (Nat.le_of_lt (blk_lt HEO.out)) (by have := HBD.out; omega)
          have HRO := hide hm
          have hzx6 : x5.heap.size ≤ x6.heap.size := hg.size
          have HIO : Hid (InNew (.slice oa' os.length oc') (x2.heap.size) x5.heap.size x6.heap.size) := hide fun b hb => ⟨(hnb b hb).imp (fun h => by simp [Value.ownBlock] at h; omega) id, hm.lt hb⟩
          have HBx6 : Hid (Below w1.heap.size w1 x6) := hide (Below.grownOn HBx5.out hg (fun b hb => by simp [Value.ownBlock] at hb; have := hzw; omega) HBx5.out.size)
          have HRN := hide (HRN.out.grown hg (fun b hb e => by have := HIN.out b hb; simp [Value.ownBlock] at e; omega))
          have HMM := hide ((hg.block _ (blk_lt HMM.out) (fun e => by simp [Value.ownBlock] at e; omega)).trans HMM.out)
          clear hm hg hnb
          refine (if_pos (by kernel_rfl)).mpr ?_
          refine wp_append_run happ _ _ rfl rfl rfl ?_
          simp only [Act.put, List.setIfInBounds_toArray, List.set_cons_zero, List.set_cons_succ]
          refine hK.out _ _ (HSW.out _ HBx6.out) (fun _ => ?_)
          clear hK K
          clear happ HEO
          refine wpAnyH_take (i := 10) (oi := ⟨some 26, _, _, _, _, _⟩) (v := (.agg #[.int .i64 (g1 : Int), .slice na' ns.length nc', .slice oa' os.length oc'])) rfl (by kernel_rfl) (by kernel_rfl) (by kernel_rfl) (fun _ _ _ h => h) (Or.inl ⟨by rfl, fun W hS => by (obtain ⟨s0, s1, s2⟩ := hS; go_simp)⟩) (HSW.out _ HBx6.out) ?_
          simp only [Act.put, List.setIfInBounds_toArray, List.set_cons_zero, List.set_cons_succ]
          have k0 : x6.cell? ⟨x3.heap.size, 0, none⟩ = some (.int .i64 0) := by rw [blk_cell HMM.out]; rfl
          have k1 : x6.cell? ⟨x3.heap.size, 1, none⟩ = some (.slice none 0 0) := by rw [blk_cell HMM.out]; rfl
          have k2 : x6.cell? ⟨x3.heap.size, 2, none⟩ = some (.slice none 0 0) := by rw [blk_cell HMM.out]; rfl
          have kf : ∀ i, x6.frozen? ⟨x3.heap.size, i, none⟩ = false := fun i => blk_frozen HMM.out i
          refine wpAnyH_ready (rs := [12]) (by kernel_rfl) (by simp) ?_
          refine AllReadyH.cons rfl (fun K hK => ?_) AllReadyH.nil
          go_simp
          have HBL := hide (bes_done (g1 := g1) HBx6.out HMM.out (by omega) HRN.out HRO.out (by omega) (by omega) (fun b hb e => by have := HIN.out b hb; omega) (fun b hb e => by have := HIO.out b hb; omega) (fun b hb hc => by have h1 := HIN.out b hb; have h2 := HIO.out b hc; omega))
          refine hK.out _ _ (HSW.out _ HBL.out.below) (fun _ => ?_)
          clear hK K
          refine wpAnyH_done (by kernel_rfl) ?_ _
          go_wp2_with fail
          go_meet
          case rel => exact ⟨_, na', nc', oa', oc', rfl, HBL.out⟩
      · go_simp
        have HT : Hid (Below x2.heap.size x2 (x2.alloc (.cells #[.int .i64 0, .slice none 0 0, .slice none 0 0] 28))) := hide (below_alloc _ _)
        have HBx3 : Hid (Below w1.heap.size w1 (x2.alloc (.cells #[.int .i64 0, .slice none 0 0, .slice none 0 0] 28))) := hide (Below.step HBx2.out HT.out)
        have HMM := hide (blk_new x2 (.cells #[.int .i64 0, .slice none 0 0, .slice none 0 0] 28))
        have HEN := hide (Below.blk HT.out HEN.out)
        refine hK.out _ _ (HSW.out _ HBx3.out) (fun _ => ?_)
        clear hK K
        generalize x2.alloc (.cells #[.int .i64 0, .slice none 0 0, .slice none 0 0] 28) = x3 at *
        have hzx3 : x2.heap.size < x3.heap.size := blk_lt HMM.out
        clear HT
        refine wpAnyH_ready (rs := [5, 6]) (by kernel_rfl) (by simp) ?_
        refine AllReadyH.cons rfl (fun K hK => ?_) (AllReadyH.cons rfl (fun K hK => ?_) AllReadyH.nil)
        · obtain ⟨na', nc', x4, happ, hm, hg, hnb⟩ := app_nd (c := nc) (n' := ns.length) (Mine.empty (size := 4) HEN.out) (l := []) rfl (new := ns) rfl (by omega) ((HNA.out.1.below HBx3.out).nodes) (Nat.le_of_lt (blk_lt HEN.out)) (by have := HBD.out; omega)
          have HRN := hide hm
          have hzx4 : x3.heap.size ≤ x4.heap.size := hg.size
          have HIN : Hid (InNew (.slice na' ns.length nc') (x1.heap.size) x3.heap.size x4.heap.size) := hide fun b hb => ⟨(hnb b hb).imp (fun h => by simp [Value.ownBlock] at h; omega) id, hm.lt hb⟩
          have HBx4 : Hid (Below w1.heap.size w1 x4) := hide (Below.grownOn HBx3.out hg (fun b hb => by simp [Value.ownBlock] at hb; have := hzw; omega) HBx3.out.size)
          have HMM := hide ((hg.block _ (blk_lt HMM.out) (fun e => by simp [Value.ownBlock] at e; omega)).trans HMM.out)
          clear hm hg hnb
          refine (if_pos (by kernel_rfl)).mpr ?_
          refine wp_append_run happ _ _ rfl rfl rfl ?_
          simp only [Act.put, List.setIfInBounds_toArray, List.set_cons_zero, List.set_cons_succ]
          refine hK.out _ _ (HSW.out _ HBx4.out) (fun _ => ?_)
          clear hK K
          clear happ HEN
          refine wpAnyH_ready (rs := [6]) (by kernel_rfl) (by simp) ?_
          refine AllReadyH.cons rfl (fun K hK => ?_) AllReadyH.nil
          go_simp
          have HT : Hid (Below x4.heap.size x4 (x4.alloc (.cells #[] 3))) := hide (below_alloc _ _)
          have HBx5 : Hid (Below w1.heap.size w1 (x4.alloc (.cells #[] 3))) := hide (Below.step HBx4.out HT.out)
          have HEO := hide (blk_new x4 (.cells #[] 3))
          have HMM := hide (Below.blk HT.out HMM.out)
          have HRN := hide (HRN.out.below HT.out)
          refine hK.out _ _ (HSW.out _ HBx5.out) (fun _ => ?_)
          clear hK K
          generalize x4.alloc (.cells #[] 3) = x5 at *
          have hzx5 : x4.heap.size < x5.heap.size := blk_lt HEO.out
          clear HT
          refine wpAnyH_ready (rs := [9]) (by kernel_rfl) (by simp) ?_
          refine AllReadyH.cons rfl (fun K hK => ?_) AllReadyH.nil
          obtain ⟨oa', oc', x6, happ, hm, hg, hnb⟩ := app_in (c := oc) (n' := os.length) (Mine.empty (size := 1) HEO.out) (l := []) rfl (new := os) rfl (by omega) ((HNA.out.1.below HBx5.out).outs) (Nat.le_of_lt (blk_lt HEO.out)) (by have := HBD.out; omega)
          have HRO := hide hm
          have hzx6 : x5.heap.size ≤ x6.heap.size := hg.size
          have HIO : Hid (InNew (.slice oa' os.length oc') (x4.heap.size) x5.heap.size x6.heap.size) := hide fun b hb => ⟨(hnb b hb).imp (fun h => by simp [Value.ownBlock] at h; omega) id, hm.lt hb⟩
          have HBx6 : Hid (Below w1.heap.size w1 x6) := hide (Below.grownOn HBx5.out hg (fun b hb => by simp [Value.ownBlock] at hb; have := hzw; omega) HBx5.out.size)
          have HRN := hide (HRN.out.grown hg (fun b hb e => by have := HIN.out b hb; simp [Value.ownBlock] at e; omega))
          have HMM := hide ((hg.block _ (blk_lt HMM.out) (fun e => by simp [Value.ownBlock] at e; omega)).trans HMM.out)
          clear hm hg hnb
          refine (if_pos (by kernel_rfl)).mpr ?_
          refine wp_append_run happ _ _ rfl rfl rfl ?_
          simp only [Act.put, List.setIfInBounds_toArray, List.set_cons_zero, List.set_cons_succ]
          refine hK.out _ _ (HSW.out _ HBx6.out) (fun _ => ?_)
          clear hK K
          clear happ HEO
          refine wpAnyH_take (i := 10) (oi := ⟨some 26, _, _, _, _, _⟩) (v := (.agg #[.int .i64 (g1 : Int), .slice na' ns.length nc', .slice oa' os.length oc'])) rfl (by kernel_rfl) (by kernel_rfl) (by kernel_rfl) (fun _ _ _ h => h) (Or.inl ⟨by rfl, fun W hS => by (obtain ⟨s0, s1, s2⟩ := hS; go_simp)⟩) (HSW.out _ HBx6.out) ?_
          simp only [Act.put, List.setIfInBounds_toArray, List.set_cons_zero, List.set_cons_succ]
          have k0 : x6.cell? ⟨x2.heap.size, 0, none⟩ = some (.int .i64 0) := by rw [blk_cell HMM.out]; rfl
          have k1 : x6.cell? ⟨x2.heap.size, 1, none⟩ = some (.slice none 0 0) := by rw [blk_cell HMM.out]; rfl
          have k2 : x6.cell? ⟨x2.heap.size, 2, none⟩ = some (.slice none 0 0) := by rw [blk_cell HMM.out]; rfl
          have kf : ∀ i, x6.frozen? ⟨x2.heap.size, i, none⟩ = false := fun i => blk_frozen HMM.out i
          refine wpAnyH_ready (rs := [12]) (by kernel_rfl) (by simp) ?_
          refine AllReadyH.cons rfl (fun K hK => ?_) AllReadyH.nil
          go_simp
          have HBL := hide (bes_done (g1 := g1) HBx6.out HMM.out (by omega) HRN.out HRO.out (by omega) (by omega) (fun b hb e => by have := HIN.out b hb; omega) (fun b hb e => by have := HIO.out b hb; omega) (fun b hb hc => by have h1 := HIN.out b hb; have h2 := HIO.out b hc; omega))
          refine hK.out _ _ (HSW.out _ HBL.out.below) (fun _ => ?_)
          clear hK K
          refine wpAnyH_done (by kernel_rfl) ?_ _
          go_wp2_with fail
          go_meet
          case rel => exact ⟨_, na', nc', oa', oc', rfl, HBL.out⟩
        · go_simp
          have HT : Hid (Below x3.heap.size x3 (x3.alloc (.cells #[] 3))) := hide (below_alloc _ _)
          have HBx4 : Hid (Below w1.heap.size w1 (x3.alloc (.cells #[] 3))) := hide (Below.step HBx3.out HT.out)
          have HEO := hide (blk_new x3 (.cells #[] 3))
          have HEN := hide (Below.blk HT.out HEN.out)
          have HMM := hide (Below.blk HT.out HMM.out)
          refine hK.out _ _ (HSW.out _ HBx4.out) (fun _ => ?_)
          clear hK K
          generalize x3.alloc (.cells #[] 3) = x4 at *
          have hzx4 : x3.heap.size < x4.heap.size := blk_lt HEO.out
          clear HT
          refine wpAnyH_ready (rs := [5]) (by kernel_rfl) (by simp) ?_
          refine AllReadyH.cons rfl (fun K hK => ?_) AllReadyH.nil
          obtain ⟨na', nc', x5, happ, hm, hg, hnb⟩ := app_nd (c := nc) (n' := ns.length) (Mine.empty (size := 4) HEN.out) (l := []) rfl (new := ns) rfl (by omega) ((HNA.out.1.below HBx4.out).nodes) (Nat.le_of_lt (blk_lt HEN.out)) (by have := HBD.out; omega)
          have HRN := hide hm
          have hzx5 : x4.heap.size ≤ x5.heap.size := hg.size
          have HIN : Hid (InNew (.slice na' ns.length nc') (x1.heap.size) x4.heap.size x5.heap.size) := hide fun b hb => ⟨(hnb b hb).imp (fun h => by simp [Value.ownBlock] at h; omega) id, hm.lt hb⟩
          have HBx5 : Hid (Below w1.heap.size w1 x5) := hide (Below.grownOn HBx4.out hg (fun b hb => by simp [Value.ownBlock] at hb; have := hzw; omega) HBx4.out.size)
          have HEO := hide ((hg.block _ (blk_lt HEO.out) (fun e => by simp [Value.ownBlock] at e; omega)).trans HEO.out)
          have HMM := hide ((hg.block _ (blk_lt HMM.out) (fun e => by simp [Value.ownBlock] at e; omega)).trans HMM.out)
          clear hm hg hnb
          refine (if_pos (by kernel_rfl)).mpr ?_
          refine wp_append_run happ _ _ rfl rfl rfl ?_
          simp only [Act.put, List.setIfInBounds_toArray, List.set_cons_zero, List.set_cons_succ]
          refine hK.out _ _ (HSW.out _ HBx5.out) (fun _ => ?_)
          clear hK K
          clear happ HEN
          refine wpAnyH_ready (rs := [9]) (by kernel_rfl) (by simp) ?_
          refine AllReadyH.cons rfl (fun K hK => ?_) AllReadyH.nil
          obtain ⟨oa', oc', x6, happ, hm, hg, hnb⟩ := app_in (c := oc) (n' := os.length) (Mine.empty (size := 1) HEO.out) (l := []) rfl (new := os) rfl (by omega) ((HNA.out.1.below HBx5.out).outs) (Nat.le_of_lt (blk_lt HEO.out)) (by have := HBD.out; omega)
          have HRO := hide hm
          have hzx6 : x5.heap.size ≤ x6.heap.size := hg.size
          have HIO : Hid (InNew (.slice oa' os.length oc') (x3.heap.size) x5.heap.size x6.heap.size) := hide fun b hb => ⟨(hnb b hb).imp (fun h => by simp [Value.ownBlock] at h; omega) id, hm.lt hb⟩
          have HBx6 : Hid (Below w1.heap.size w1 x6) := hide (Below.grownOn HBx5.out hg (fun b hb => by simp [Value.ownBlock] at hb; have := hzw; omega) HBx5.out.size)
          have HRN := hide (HRN.out.grown hg (fun b hb e => by have := HIN.out b hb; simp [Value.ownBlock] at e; omega))
          have HMM := hide ((hg.block _ (blk_lt HMM.out) (fun e => by simp [Value.ownBlock] at e; omega)).trans HMM.out)
          clear hm hg hnb
          refine (if_pos (by kernel_rfl)).mpr ?_
          refine wp_append_run happ _ _ rfl rfl rfl ?_
          simp only [Act.put, List.setIfInBounds_toArray, List.set_cons_zero, List.set_cons_succ]
          refine hK.out _ _ (HSW.out _ HBx6.out) (fun _ => ?_)
          clear hK K
          clear happ HEO
          refine wpAnyH_take (i := 10) (oi := ⟨some 26, _, _, _, _, _⟩) (v := (.agg #[.int .i64 (g1 : Int), .slice na' ns.length nc', .slice oa' os.length oc'])) rfl (by kernel_rfl) (by kernel_rfl) (by kernel_rfl) (fun _ _ _ h => h) (Or.inl ⟨by rfl, fun W hS => by (obtain ⟨s0, s1, s2⟩ := hS; go_simp)⟩) (HSW.out _ HBx6.out) ?_
          simp only [Act.put, List.setIfInBounds_toArray, List.set_cons_zero, List.set_cons_succ]
          have k0 : x6.cell? ⟨x2.heap.size, 0, none⟩ = some (.int .i64 0) := by rw [blk_cell HMM.out]; rfl
          have k1 : x6.cell? ⟨x2.heap.size, 1, none⟩ = some (.slice none 0 0) := by rw [blk_cell HMM.out]; rfl
          have k2 : x6.cell? ⟨x2.heap.size, 2, none⟩ = some (.slice none 0 0) := by rw [blk_cell HMM.out]; rfl
          have kf : ∀ i, x6.frozen? ⟨x2.heap.size, i, none⟩ = false := fun i => blk_frozen HMM.out i
          refine wpAnyH_ready (rs := [12]) (by kernel_rfl) (by simp) ?_
          refine AllReadyH.cons rfl (fun K hK => ?_) AllReadyH.nil
          go_simp
          have HBL := hide (bes_done (g1 := g1) HBx6.out HMM.out (by omega) HRN.out HRO.out (by omega) (by omega) (fun b hb e => by have := HIN.out b hb; omega) (fun b hb e => by have := HIO.out b hb; omega) (fun b hb hc => by have h1 := HIN.out b hb; have h2 := HIO.out b hc; omega))
          refine hK.out _ _ (HSW.out _ HBL.out.below) (fun _ => ?_)
          clear hK K
          refine wpAnyH_done (by kernel_rfl) ?_ _
          go_wp2_with fail
          go_meet
          case rel => exact ⟨_, na', nc', oa', oc', rfl, HBL.out⟩
    · go_simp
      have HT : Hid (Below x1.heap.size x1 (x1.alloc (.cells #[] 3))) := hide (below_alloc _ _)
      have HBx2 : Hid (Below w1.heap.size w1 (x1.alloc (.cells #[] 3))) := hide (Below.step HBx1.out HT.out)
      have HEO := hide (blk_new x1 (.cells #[] 3))
      refine hK.out _ _ (HSW.out _ HBx2.out) (fun _ => ?_)
      clear hK K
      generalize x1.alloc (.cells #[] 3) = x2 at *
      have hzx2 : x1.heap.size < x2.heap.size := blk_lt HEO.out
      clear HT
      refine wpAnyH_ready (rs := [2, 11]) (by kernel_rfl) (by simp) ?_
      refine AllReadyH.cons rfl (fun K hK => ?_) (AllReadyH.cons rfl (fun K hK => ?_) AllReadyH.nil)
      · go_simp
        have HT : Hid (Below x2.heap.size x2 (x2.alloc (.cells #[] 26))) := hide (below_alloc _ _)
        have HBx3 : Hid (Below w1.heap.size w1 (x2.alloc (.cells #[] 26))) := hide (Below.step HBx2.out HT.out)
        have HEN := hide (blk_new x2 (.cells #[] 26))
        have HEO := hide (Below.blk HT.out HEO.out)
        refine hK.out _ _ (HSW.out _ HBx3.out) (fun _ => ?_)
        clear hK K
        generalize x2.alloc (.cells #[] 26) = x3 at *
        have hzx3 : x2.heap.size < x3.heap.size := blk_lt HEN.out
        clear HT
        refine wpAnyH_ready (rs := [5, 11]) (by kernel_rfl) (by simp) ?_
        refine AllReadyH.cons rfl (fun K hK => ?_) (AllReadyH.cons rfl (fun K hK => ?_) AllReadyH.nil)
        · obtain ⟨na', nc', x4, happ, hm, hg, hnb⟩ := app_nd (c := nc) (n' := ns.length) (Mine.empty (size := 4) HEN.out) (l := []) rfl (new := ns) rfl (by omega) ((HNA.out.1.below HBx3.out).nodes) (Nat.le_of_lt (blk_lt HEN.out)) (by have := HBD.out; omega)
          have HRN := hide hm
          have hzx4 : x3.heap.size ≤ x4.heap.size := hg.size
          have HIN : Hid (InNew (.slice na' ns.length nc') (x2.heap.size) x3.heap.size x4.heap.size) := hide fun b hb => ⟨(hnb b hb).imp (fun h => by simp [Value.ownBlock] at h; omega) id, hm.lt hb⟩
          have HBx4 : Hid (Below w1.heap.size w1 x4) := hide (Below.grownOn HBx3.out hg (fun b hb => by simp [Value.ownBlock] at hb; have := hzw; omega) HBx3.out.size)
          have HEO := hide ((hg.block _ (blk_lt HEO.out) (fun e => by simp [Value.ownBlock] at e; omega)).trans HEO.out)
          clear hm hg hnb
          refine (if_pos (by kernel_rfl)).mpr ?_
          refine wp_append_run happ _ _ rfl rfl rfl ?_
          simp only [Act.put, List.setIfInBounds_toArray, List.set_cons_zero, List.set_cons_succ]
          refine hK.out _ _ (HSW.out _ HBx4.out) (fun _ => ?_)
          clear hK K
          clear happ HEN
          refine wpAnyH_ready (rs := [9, 11]) (by kernel_rfl) (by simp) ?_
          refine AllReadyH.cons rfl (fun K hK => ?_) (AllReadyH.cons rfl (fun K hK => ?_) AllReadyH.nil)
          · obtain ⟨oa', oc', x5, happ, hm, hg, hnb⟩ := app_in (c := oc) (n' := os.length) (Mine.empty (size := 1) HEO.out) (l := []) rfl (new := os) rfl (by omega) ((HNA.out.1.below HBx4.out).outs) (Nat.le_of_lt (blk_lt HEO.out)) (by have := HBD.out; omega)
            have HRO := hide hm
            have hzx5 : x4.heap.size ≤ x5.heap.size := hg.size
            have HIO : Hid (InNew (.slice oa' os.length oc') (x1.heap.size) x4.heap.size x5.heap.size) := hide fun b hb => ⟨(hnb b hb).imp (fun h => by simp [Value.ownBlock] at h; omega) id, hm.lt hb⟩
            have HBx5 : Hid (Below w1.heap.size w1 x5) := hide (Below.grownOn HBx4.out hg (fun b hb => by simp [Value.ownBlock] at hb; have := hzw; omega) HBx4.out.size)
            have HRN := hide (HRN.out.grown hg (fun b hb e => by have := HIN.out b hb; simp [Value.ownBlock] at e; omega))
            clear hm hg hnb
            refine (if_pos (by kernel_rfl)).mpr ?_
            refine wp_append_run happ _ _ rfl rfl rfl ?_
            simp only [Act.put, List.setIfInBounds_toArray, List.set_cons_zero, List.set_cons_succ]
            refine hK.out _ _ (HSW.out _ HBx5.out) (fun _ => ?_)
            clear hK K
            clear happ HEO
            refine wpAnyH_take (i := 10) (oi := ⟨some 26, _, _, _, _, _⟩) (v := (.agg #[.int .i64 (g1 : Int), .slice na' ns.length nc', .slice oa' os.length oc'])) rfl (by kernel_rfl) (by kernel_rfl) (by kernel_rfl) (fun _ _ _ h => h) (Or.inl ⟨by rfl, fun W hS => by (obtain ⟨s0, s1, s2⟩ := hS; go_simp)⟩) (HSW.out _ HBx5.out) ?_
            simp only [Act.put, List.setIfInBounds_toArray, List.set_cons_zero, List.set_cons_succ]
            refine wpAnyH_ready (rs := [11]) (by kernel_rfl) (by simp) ?_
            refine AllReadyH.cons rfl (fun K hK => ?_) AllReadyH.nil
            go_simp
            have HT : Hid (Below x5.heap.size x5 (x5.alloc (.cells #[.int .i64 0, .slice none 0 0, .slice none 0 0] 28))) := hide (below_alloc _ _)
            have HBx6 : Hid (Below w1.heap.size w1 (x5.alloc (.cells #[.int .i64 0, .slice none 0 0, .slice none 0 0] 28))) := hide (Below.step HBx5.out HT.out)
            have HMM := hide (blk_new x5 (.cells #[.int .i64 0, .slice none 0 0, .slice none 0 0] 28))
            have HRN := hide (HRN.out.below HT.out)
            have HRO := hide (HRO.out.below HT.out)
            refine hK.out _ _ (HSW.out _ HBx6.out) (fun _ => ?_)
            clear hK K
            generalize x5.alloc (.cells #[.int .i64 0, .slice none 0 0, .slice none 0 0] 28) = x6 at *
            have hzx6 : x5.heap.size < x6.heap.size := blk_lt HMM.out
            clear HT
            have k0 : x6.cell? ⟨x5.heap.size, 0, none⟩ = some (.int .i64 0) := by rw [blk_cell HMM.out]; rfl
            have k1 : x6.cell? ⟨x5.heap.size, 1, none⟩ = some (.slice none 0 0) := by rw [blk_cell HMM.out]; rfl
            have k2 : x6.cell? ⟨x5.heap.size, 2, none⟩ = some (.slice none 0 0) := by rw [blk_cell HMM.out]; rfl
            have kf : ∀ i, x6.frozen? ⟨x5.heap.size, i, none⟩ = false := fun i => blk_frozen HMM.out i
            refine wpAnyH_ready (rs := [12]) (by kernel_rfl) (by simp) ?_
            refine AllReadyH.cons rfl (fun K hK => ?_) AllReadyH.nil
            go_simp
            have HBL := hide (bes_done (g1 := g1) HBx6.out HMM.out (by omega) HRN.out HRO.out (by omega) (by omega) (fun b hb e => by have := HIN.out b hb; omega) (fun b hb e => by have := HIO.out b hb; omega) (fun b hb hc => by have h1 := HIN.out b hb; have h2 := HIO.out b hc; omega))
            refine hK.out _ _ (HSW.out _ HBL.out.below) (fun _ => ?_)
            clear hK K
            refine wpAnyH_done (by kernel_rfl) ?_ _
            go_wp2_with fail
            go_meet
            case rel => exact ⟨_, na', nc', oa', oc', rfl, HBL.out⟩
          · go_simp
            have HT : Hid (Below x4.heap.size x4 (x4.alloc (.cells #[.int .i64 0, .slice none 0 0, .slice none 0 0] 28))) := hide (below_alloc _ _)
            have HBx5 : Hid (Below w1.heap.size w1 (x4.alloc (.cells #[.int .i64 0, .slice none 0 0, .slice none 0 0] 28))) := hide (Below.step HBx4.out HT.out)
            have HMM := hide (blk_new x4 (.cells #[.int .i64 0, .slice none 0 0, .slice none 0 0] 28))
            have HEO := hide (Below.blk HT.out HEO.out)
            have HRN := hide (HRN.out.below HT.out)
            refine hK.out _ _ (HSW.out _ HBx5.out) (fun _ => ?_)
            clear hK K
            generalize x4.alloc (.cells #[.int .i64 0, .slice none 0 0, .slice none 0 0] 28) = x5 at *
            have hzx5 : x4.heap.size < x5.heap.size := blk_lt HMM.out
            clear HT
            refine wpAnyH_ready (rs := [9]) (by kernel_rfl) (by simp) ?_
            refine AllReadyH.cons rfl (fun K hK => ?_) AllReadyH.nil
            obtain ⟨oa', oc', x6, happ, hm, hg, hnb⟩ := app_in (c := oc) (n' := os.length) (Mine.empty (size := 1) HEO.out) (l := []) rfl (new := os) rfl (by omega) ((HNA.out.1.below HBx5.out).outs) (Nat.le_of_lt (blk_lt HEO.out)) (by have := HBD.out; omega)
            have HRO := hide hm
            have hzx6 : x5.heap.size ≤ x6.heap.size := hg.size
            have HIO : Hid (InNew (.slice oa' os.length oc') (x1.heap.size) x5.heap.size x6.heap.size) := hide fun b hb => ⟨(hnb b hb).imp (fun h => by simp [Value.ownBlock] at h; omega) id, hm.lt hb⟩
            have HBx6 : Hid (Below w1.heap.size w1 x6) := hide (Below.grownOn HBx5.out hg (fun b hb => by simp [Value.ownBlock] at hb; have := hzw; omega) HBx5.out.size)
            have HRN := hide (HRN.out.grown hg (fun b hb e => by have := HIN.out b hb; simp [Value.ownBlock] at e; omega))
            have HMM := hide ((hg.block _ (blk_lt HMM.out) (fun e => by simp [Value.ownBlock] at e; omega)).trans HMM.out)
            clear hm hg hnb
            refine (if_pos (by kernel_rfl)).mpr ?_
            refine wp_append_run happ _ _ rfl rfl rfl ?_
            simp only [Act.put, List.setIfInBounds_toArray, List.set_cons_zero, List.set_cons_succ]
            refine hK.out _ _ (HSW.out _ HBx6.out) (fun _ => ?_)
            clear hK K
            clear happ HEO
            refine wpAnyH_take (i := 10) (oi := ⟨some 26, _, _, _, _, _⟩) (v := (.agg #[.int .i64 (g1 : Int), .slice na' ns.length nc', .slice oa' os.length oc'])) rfl (by kernel_rfl) (by kernel_rfl) (by kernel_rfl) (fun _ _ _ h => h) (Or.inl ⟨by rfl, fun W hS => by (obtain ⟨s0, s1, s2⟩ := hS; go_simp)⟩) (HSW.out _ HBx6.out) ?_
            simp only [Act.put, List.setIfInBounds_toArray, List.set_cons_zero, List.set_cons_succ]
            have k0 : x6.cell? ⟨x4.heap.size, 0, none⟩ = some (.int .i64 0) := by rw [blk_cell HMM.out]; rfl
            have k1 : x6.cell? ⟨x4.heap.size, 1, none⟩ = some (.slice none 0 0) := by rw [blk_cell HMM.out]; rfl
            have k2 : x6.cell? ⟨x4.heap.size, 2, none⟩ = some (.slice none 0 0) := by rw [blk_cell HMM.out]; rfl
            have kf : ∀ i, x6.frozen? ⟨x4.heap.size, i, none⟩ = false := fun i => blk_frozen HMM.out i
            refine wpAnyH_ready (rs := [12]) (by kernel_rfl) (by simp) ?_
            refine AllReadyH.cons rfl (fun K hK => ?_) AllReadyH.nil
            go_simp
            have HBL := hide (bes_done (g1 := g1) HBx6.out HMM.out (by omega) HRN.out HRO.out (by omega) (by omega) (fun b hb e => by have := HIN.out b hb; omega) (fun b hb e => by have := HIO.out b hb; omega) (fun b hb hc => by have h1 := HIN.out b hb; have h2 := HIO.out b hc; omega))
            refine hK.out _ _ (HSW.out _ HBL.out.below) (fun _ => ?_)
            clear hK K
            refine wpAnyH_done (by kernel_rfl) ?_ _
            go_wp2_with fail
            go_meet
            case rel => exact ⟨_, na', nc', oa', oc', rfl, HBL.out⟩
        · go_simp
          have HT : Hid (Below x3.heap.size x3 (x3.alloc (.cells #[.int .i64 0, .slice none 0 0, .slice none 0 0] 28))) := hide (below_alloc _ _)
          have HBx4 : Hid (Below w1.heap.size w1 (x3.alloc (.cells #[.int .i64 0, .slice none 0 0, .slice none 0 0] 28))) := hide (Below.step HBx3.out HT.out)
          have HMM := hide (blk_new x3 (.cells #[.int .i64 0, .slice none 0 0, .slice none 0 0] 28))
          have HEN := hide (Below.blk HT.out HEN.out)
          have HEO := hide (Below.blk HT.out HEO.out)
          refine hK.out _ _ (HSW.out _ HBx4.out) (fun _ => ?_)
          clear hK K
          generalize x3.alloc (.cells #[.int .i64 0, .slice none 0 0, .slice none 0 0] 28) = x4 at *
          have hzx4 : x3.heap.size < x4.heap.size := blk_lt HMM.out
          clear HT
          refine wpAnyH_ready (rs := [5]) (by kernel_rfl) (by simp) ?_
          refine AllReadyH.cons rfl (fun K hK => ?_) AllReadyH.nil
          obtain ⟨na', nc', x5, happ, hm, hg, hnb⟩ := app_nd (c := nc) (n' := ns.length) (Mine.empty (size := 4) HEN.out) (l := []) rfl (new := ns) rfl (by omega) ((HNA.out.1.below HBx4.out).nodes) (Nat.le_of_lt (blk_lt HEN.out)) (by have := HBD.out; omega)
          have HRN := hide hm
          have hzx5 : x4.heap.size ≤ x5.heap.size := hg.size
          have HIN : Hid (InNew (.slice na' ns.length nc') (x2.heap.size) x4.heap.size x5.heap.size) := hide fun b hb => ⟨(hnb b hb).imp (fun h => by simp [Value.ownBlock] at h; omega) id, hm.lt hb⟩
          have HBx5 : Hid (Below w1.heap.size w1 x5) := hide (Below.grownOn HBx4.out hg (fun b hb => by simp [Value.ownBlock] at hb; have := hzw; omega) HBx4.out.size)
          have HEO := hide ((hg.block _ (blk_lt HEO.out) (fun e => by simp [Value.ownBlock] at e; omega)).trans HEO.out)
          have HMM := hide ((hg.block _ (blk_lt HMM.out) (fun e => by simp [Value.ownBlock] at e; omega)).trans HMM.out)
          clear hm hg hnb
          refine (if_pos (by kernel_rfl)).mpr ?_
          refine wp_append_run happ _ _ rfl rfl rfl ?_
          simp only [Act.put, List.setIfInBounds_toArray, List.set_cons_zero, List.set_cons_succ]
          refine hK.out _ _ (HSW.out _ HBx5.out) (fun _ => ?_)
          clear hK K
          clear happ HEN
          refine wpAnyH_ready (rs := [9]) (by kernel_rfl) (by simp) ?_
          refine AllReadyH.cons rfl (fun K hK => ?_) AllReadyH.nil
          obtain ⟨oa', oc', x6, happ, hm, hg, hnb⟩ := app_in (c := oc) (n' := os.length) (Mine.empty (size := 1) HEO.out) (l := []) rfl (new := os) rfl (by omega) ((HNA.out.1.below HBx5.out).outs) (Nat.le_of_lt (blk_lt HEO.out)) (by have := HBD.out; omega)
          have HRO := hide hm
          have hzx6 : x5.heap.size ≤ x6.heap.size := hg.size
          have HIO : Hid (InNew (.slice oa' os.length oc') (x1.heap.size) x5.heap.size x6.heap.size) := hide fun b hb => ⟨(hnb b hb).imp (fun h => by simp [Value.ownBlock] at h; omega) id, hm.lt hb⟩
          have HBx6 : Hid (Below w1.heap.size w1 x6) := hide (Below.grownOn HBx5.out hg (fun b hb => by simp [Value.ownBlock] at hb; have := hzw; omega) HBx5.out.size)
          have HRN := hide (HRN.out.grown hg (fun b hb e => by have := HIN.out b hb; simp [Value.ownBlock] at e; omega))
          have HMM := hide ((hg.block _ (blk_lt HMM.out) (fun e => by simp [Value.ownBlock] at e; omega)).trans HMM.out)
          clear hm hg hnb
          refine (if_pos (by kernel_rfl)).mpr ?_
          refine wp_append_run happ _ _ rfl rfl rfl ?_
          simp only [Act.put, List.setIfInBounds_toArray, List.set_cons_zero, List.set_cons_succ]
          refine hK.out _ _ (HSW.out _ HBx6.out) (fun _ => ?_)
          clear hK K
          clear happ HEO
          refine wpAnyH_take (i := 10) (oi := ⟨some 26, _, _, _, _, _⟩) (v := (.agg #[.int .i64 (g1 : Int), .slice na' ns.length nc', .slice oa' os.length oc'])) rfl (by kernel_rfl) (by kernel_rfl) (by kernel_rfl) (fun _ _ _ h => h) (Or.inl ⟨by rfl, fun W hS => by (obtain ⟨s0, s1, s2⟩ := hS; go_simp)⟩) (HSW.out _ HBx6.out) ?_
          simp only [Act.put, List.setIfInBounds_toArray, List.set_cons_zero, List.set_cons_succ]
          have k0 : x6.cell? ⟨x3.heap.size, 0, none⟩ = some (.int .i64 0) := by rw [blk_cell HMM.out]; rfl
          have k1 : x6.cell? ⟨x3.heap.size, 1, none⟩ = some (.slice none 0 0) := by rw [blk_cell HMM.out]; rfl
          have k2 : x6.cell? ⟨x3.heap.size, 2, none⟩ = some (.slice none 0 0) := by rw [blk_cell HMM.out]; rfl
          have kf : ∀ i, x6.frozen? ⟨x3.heap.size, i, none⟩ = false := fun i => blk_frozen HMM.out i
          refine wpAnyH_ready (rs := [12]) (by kernel_rfl) (by simp) ?_
          refine AllReadyH.cons rfl (fun K hK => ?_) AllReadyH.nil
          go_simp
          have HBL := hide (bes_done (g1 := g1) HBx6.out HMM.out (by omega) HRN.out HRO.out (by omega) (by omega) (fun b hb e => by have := HIN.out b hb; omega) (fun b hb e => by have := HIO.out b hb; omega) (fun b hb hc => by have h1 := HIN.out b hb; have h2 := HIO.out b hc; omega))
          refine hK.out _ _ (HSW.out _ HBL.out.below) (fun _ => ?_)
          clear hK K
          refine wpAnyH_done (by kernel_rfl) ?_ _
          go_wp2_with fail
          go_meet
          case rel => exact ⟨_, na', nc', oa', oc', rfl, HBL.out⟩
      · go_simp
        have HT : Hid (Below x2.heap.size x2 (x2.alloc (.cells #[.int .i64 0, .slice none 0 0, .slice none 0 0] 28))) := hide (below_alloc _ _)
        have HBx3 : Hid (Below w1.heap.size w1 (x2.alloc (.cells #[.int .i64 0, .slice none 0 0, .slice none 0 0] 28))) := hide (Below.step HBx2.out HT.out)
        have HMM := hide (blk_new x2 (.cells #[.int .i64 0, .slice none 0 0, .slice none 0 0] 28))
        have HEO := hide (Below.blk HT.out HEO.out)
        refine hK.out _ _ (HSW.out _ HBx3.out) (fun _ => ?_)
        clear hK K
        generalize x2.alloc (.cells #[.int .i64 0, .slice none 0 0, .slice none 0 0] 28) = x3 at *
        have hzx3 : x2.heap.size < x3.heap.size := blk_lt HMM.out
        clear HT
        refine wpAnyH_ready (rs := [2]) (by kernel_rfl) (by simp) ?_
        refine AllReadyH.cons rfl (fun K hK => ?_) AllReadyH.nil
        go_simp
        have HT : Hid (Below x3.heap.size x3 (x3.alloc (.cells #[] 26))) := hide (below_alloc _ _)
        have HBx4 : Hid (Below w1.heap.size w1 (x3.alloc (.cells #[] 26))) := hide (Below.step HBx3.out HT.out)
        have HEN := hide (blk_new x3 (.cells #[] 26))
        have HEO := hide (Below.blk HT.out HEO.out)
        have HMM := hide (Below.blk HT.out HMM.out)
        refine hK.out _ _ (HSW.out _ HBx4.out) (fun _ => ?_)
        clear hK K
        generalize x3.alloc (.cells #[] 26) = x4 at *
        have hzx4 : x3.heap.size < x4.heap.size := blk_lt HEN.out
        clear HT
        refine wpAnyH_ready (rs := [5]) (by kernel_rfl) (by simp) ?_
        refine AllReadyH.cons rfl (fun K hK => ?_) AllReadyH.nil
        obtain ⟨na', nc', x5, happ, hm, hg, hnb⟩ := app_nd (c := nc) (n' := ns.length) (Mine.empty (size := 4) HEN.out) (l := []) rfl (new := ns) rfl (by omega) ((HNA.out.1.below HBx4.out).nodes) (Nat.le_of_lt (blk_lt HEN.out)) (by have := HBD.out; omega)
        have HRN := hide hm
        have hzx5 : x4.heap.size ≤ x5.heap.size := hg.size
        have HIN : Hid (InNew (.slice na' ns.length nc') (x3.heap.size) x4.heap.size x5.heap.size) := hide fun b hb => ⟨(hnb b hb).imp (fun h => by simp [Value.ownBlock] at h; omega) id, hm.lt hb⟩
        have HBx5 : Hid (Below w1.heap.size w1 x5) := hide (Below.grownOn HBx4.out hg (fun b hb => by simp [Value.ownBlock] at hb; have := hzw; omega) HBx4.out.size)
        have HEO := hide ((hg.block _ (blk_lt HEO.out) (fun e => by simp [Value.ownBlock] at e; omega)).trans HEO.out)
        have HMM := hide ((hg.block _ (blk_lt HMM.out) (fun e => by simp [Value.ownBlock] at e; omega)).trans HMM.out)
        clear hm hg hnb
        refine (if_pos (by kernel_rfl)).mpr ?_
        refine wp_append_run happ _ _ rfl rfl rfl ?_
        simp only [Act.put, List.setIfInBounds_toArray, List.set_cons_zero, List.set_cons_succ]
        refine hK.out _ _ (HSW.out _ HBx5.out) (fun _ => ?_)
        clear hK K
        clear happ HEN
        refine wpAnyH_ready (rs := [9]) (by kernel_rfl) (by simp) ?_
        refine AllReadyH.cons rfl (fun K hK => ?_) AllReadyH.nil
        obtain ⟨oa', oc', x6, happ, hm, hg, hnb⟩ := app_in (c := oc) (n' := os.length) (Mine.empty (size := 1) HEO.out) (l := []) rfl (new := os) rfl (by omega) ((HNA.out.1.below HBx5.out).outs) (Nat.le_of_lt (blk_lt HEO.out)) (by have := HBD.out; omega)
        have HRO := hide hm
        have hzx6 : x5.heap.size ≤ x6.heap.size := hg.size
        have HIO : Hid (InNew (.slice oa' os.length oc') (x1.heap.size) x5.heap.size x6.heap.size) := hide fun b hb => ⟨(hnb b hb).imp (fun h => by simp [Value.ownBlock] at h; omega) id, hm.lt hb⟩
        have HBx6 : Hid (Below w1.heap.size w1 x6) := hide (Below.grownOn HBx5.out hg (fun b hb => by simp [Value.ownBlock] at hb; have := hzw; omega) HBx5.out.size)
        have HRN := hide (HRN.out.grown hg (fun b hb e => by have := HIN.out b hb; simp [Value.ownBlock] at e; omega))
        have HMM := hide ((hg.block _ (blk_lt HMM.out) (fun e => by simp [Value.ownBlock] at e; omega)).trans HMM.out)
        clear hm hg hnb
        refine (if_pos (by kernel_rfl)).mpr ?_
        refine wp_append_run happ _ _ rfl rfl rfl ?_
        simp only [Act.put, List.setIfInBounds_toArray, List.set_cons_zero, List.set_cons_succ]
        refine hK.out _ _ (HSW.out _ HBx6.out) (fun _ => ?_)
        clear hK K
        clear happ HEO
        refine wpAnyH_take (i := 10) (oi := ⟨some 26, _, _, _, _, _⟩) (v := (.agg #[.int .i64 (g1 : Int), .slice na' ns.length nc', .slice oa' os.length oc'])) rfl (by kernel_rfl) (by kernel_rfl) (by kernel_rfl) (fun _ _ _ h => h) (Or.inl ⟨by rfl, fun W hS => by (obtain ⟨s0, s1, s2⟩ := hS; go_simp)⟩) (HSW.out _ HBx6.out) ?_
        simp only [Act.put, List.setIfInBounds_toArray, List.set_cons_zero, List.set_cons_succ]
        have k0 : x6.cell? ⟨x2.heap.size, 0, none⟩ = some (.int .i64 0) := by rw [blk_cell HMM.out]; rfl
        have k1 : x6.cell? ⟨x2.heap.size, 1, none⟩ = some (.slice none 0 0) := by rw [blk_cell HMM.out]; rfl
        have k2 : x6.cell? ⟨x2.heap.size, 2, none⟩ = some (.slice none 0 0) := by rw [blk_cell HMM.out]; rfl
        have kf : ∀ i, x6.frozen? ⟨x2.heap.size, i, none⟩ = false := fun i => blk_frozen HMM.out i
        refine wpAnyH_ready (rs := [12]) (by kernel_rfl) (by simp) ?_
        refine AllReadyH.cons rfl (fun K hK => ?_) AllReadyH.nil
        go_simp
        have HBL := hide (bes_done (g1 := g1) HBx6.out HMM.out (by omega) HRN.out HRO.out (by omega) (by omega) (fun b hb e => by have := HIN.out b hb; omega) (fun b hb e => by have := HIO.out b hb; omega) (fun b hb hc => by have h1 := HIN.out b hb; have h2 := HIO.out b hc; omega))
        refine hK.out _ _ (HSW.out _ HBL.out.below) (fun _ => ?_)
        clear hK K
        refine wpAnyH_done (by kernel_rfl) ?_ _
        go_wp2_with fail
        go_meet
        case rel => exact ⟨_, na', nc', oa', oc', rfl, HBL.out⟩
    · go_simp
      have HT : Hid (Below x1.heap.size x1 (x1.alloc (.cells #[.int .i64 0, .slice none 0 0, .slice none 0 0] 28))) := hide (below_alloc _ _)
      have HBx2 : Hid (Below w1.heap.size w1 (x1.alloc (.cells #[.int .i64 0, .slice none 0 0, .slice none 0 0] 28))) := hide (Below.step HBx1.out HT.out)
      have HMM := hide (blk_new x1 (.cells #[.int .i64 0, .slice none 0 0, .slice none 0 0] 28))
      refine hK.out _ _ (HSW.out _ HBx2.out) (fun _ => ?_)
      clear hK K
      generalize x1.alloc (.cells #[.int .i64 0, .slice none 0 0, .slice none 0 0] 28) = x2 at *
      have hzx2 : x1.heap.size < x2.heap.size := blk_lt HMM.out
      clear HT
      refine wpAnyH_ready (rs := [2, 6]) (by kernel_rfl) (by simp) ?_
      refine AllReadyH.cons rfl (fun K hK => ?_) (AllReadyH.cons rfl (fun K hK => ?_) AllReadyH.nil)
      · go_simp
        have HT : Hid (Below x2.heap.size x2 (x2.alloc (.cells #[] 26))) := hide (below_alloc _ _)
        have HBx3 : Hid (Below w1.heap.size w1 (x2.alloc (.cells #[] 26))) := hide (Below.step HBx2.out HT.out)
        have HEN := hide (blk_new x2 (.cells #[] 26))
        have HMM := hide (Below.blk HT.out HMM.out)
        refine hK.out _ _ (HSW.out _ HBx3.out) (fun _ => ?_)
        clear hK K
        generalize x2.alloc (.cells #[] 26) = x3 at *
        have hzx3 : x2.heap.size < x3.heap.size := blk_lt HEN.out
        clear HT
        refine wpAnyH_ready (rs := [5, 6]) (by kernel_rfl) (by simp) ?_
        refine AllReadyH.cons rfl (fun K hK => ?_) (AllReadyH.cons rfl (fun K hK => ?_) AllReadyH.nil)
        · obtain ⟨na', nc', x4, happ, hm, hg, hnb⟩ := app_nd (c := nc) (n' := ns.length) (Mine.empty (size := 4) HEN.out) (l := []) rfl (new := ns) rfl (by omega) ((HNA.out.1.below HBx3.out).nodes) (Nat.le_of_lt (blk_lt HEN.out)) (by have := HBD.out; omega)
          have HRN := hide hm
          have hzx4 : x3.heap.size ≤ x4.heap.size := hg.size
          have HIN : Hid (InNew (.slice na' ns.length nc') (x2.heap.size) x3.heap.size x4.heap.size) := hide fun b hb => ⟨(hnb b hb).imp (fun h => by simp [Value.ownBlock] at h; omega) id, hm.lt hb⟩
          have HBx4 : Hid (Below w1.heap.size w1 x4) := hide (Below.grownOn HBx3.out hg (fun b hb => by simp [Value.ownBlock] at hb; have := hzw; omega) HBx3.out.size)
          have HMM := hide ((hg.block _ (blk_lt HMM.out) (fun e => by simp [Value.ownBlock] at e; omega)).trans HMM.out)
          clear hm hg hnb
          refine (if_pos (by kernel_rfl)).mpr ?_
          refine wp_append_run happ _ _ rfl rfl rfl ?_
          simp only [Act.put, List.setIfInBounds_toArray, List.set_cons_zero, List.set_cons_succ]
          refine hK.out _ _ (HSW.out _ HBx4.out) (fun _ => ?_)
          clear hK K
          clear happ HEN
          refine wpAnyH_ready (rs := [6]) (by kernel_rfl) (by simp) ?_
          refine AllReadyH.cons rfl (fun K hK => ?_) AllReadyH.nil
          go_simp
          have HT : Hid (Below x4.heap.size x4 (x4.alloc (.cells #[] 3))) := hide (below_alloc _ _)
          have HBx5 : Hid (Below w1.heap.size w1 (x4.alloc (.cells #[] 3))) := hide (Below.step HBx4.out HT.out)
          have HEO := hide (blk_new x4 (.cells #[] 3))
          have HMM := hide (Below.blk HT.out HMM.out)
          have HRN := hide (HRN.out.below HT.out)
          refine hK.out _ _ (HSW.out _ HBx5.out) (fun _ => ?_)
          clear hK K
          generalize x4.alloc (.cells #[] 3) = x5 at *
          have hzx5 : x4.heap.size < x5.heap.size := blk_lt HEO.out
          clear HT
          refine wpAnyH_ready (rs := [9]) (by kernel_rfl) (by simp) ?_
          refine AllReadyH.cons rfl (fun K hK => ?_) AllReadyH.nil
          obtain ⟨oa', oc', x6, happ, hm, hg, hnb⟩ := app_in (c := oc) (n' := os.length) (Mine.empty (size := 1) HEO.out) (l := []) rfl (new := os) rfl (by omega) ((HNA.out.1.below HBx5.out).outs) (Nat.le_of_lt (blk_lt HEO.out)) (by have := HBD.out; omega)
          have HRO := hide hm
          have hzx6 : x5.heap.size ≤ x6.heap.size := hg.size
          have HIO : Hid (InNew (.slice oa' os.length oc') (x4.heap.size) x5.heap.size x6.heap.size) := hide fun b hb => ⟨(hnb b hb).imp (fun h => by simp [Value.ownBlock] at h; omega) id, hm.lt hb⟩
          have HBx6 : Hid (Below w1.heap.size w1 x6) := hide (Below.grownOn HBx5.out hg (fun b hb => by simp [Value.ownBlock] at hb; have := hzw; omega) HBx5.out.size)
          have HRN := hide (HRN.out.grown hg (fun b hb e => by have := HIN.out b hb; simp [Value.ownBlock] at e; omega))
          have HMM := hide ((hg.block _ (blk_lt HMM.out) (fun e => by simp [Value.ownBlock] at e; omega)).trans HMM.out)
          clear hm hg hnb
          refine (if_pos (by kernel_rfl)).mpr ?_
          refine wp_append_run happ _ _ rfl rfl rfl ?_
          simp only [Act.put, List.setIfInBounds_toArray, List.set_cons_zero, List.set_cons_succ]
          refine hK.out _ _ (HSW.out _ HBx6.out) (fun _ => ?_)
          clear hK K
          clear happ HEO
          refine wpAnyH_take (i := 10) (oi := ⟨some 26, _, _, _, _, _⟩) (v := (.agg #[.int .i64 (g1 : Int), .slice na' ns.length nc', .slice oa' os.length oc'])) rfl (by kernel_rfl) (by kernel_rfl) (by kernel_rfl) (fun _ _ _ h => h) (Or.inl ⟨by rfl, fun W hS => by (obtain ⟨s0, s1, s2⟩ := hS; go_simp)⟩) (HSW.out _ HBx6.out) ?_
          simp only [Act.put, List.setIfInBounds_toArray, List.set_cons_zero, List.set_cons_succ]
          have k0 : x6.cell? ⟨x1.heap.size, 0, none⟩ = some (.int .i64 0) := by rw [blk_cell HMM.out]; rfl
          have k1 : x6.cell? ⟨x1.heap.size, 1, none⟩ = some (.slice none 0 0) := by rw [blk_cell HMM.out]; rfl
          have k2 : x6.cell? ⟨x1.heap.size, 2, none⟩ = some (.slice none 0 0) := by rw [blk_cell HMM.out]; rfl
          have kf : ∀ i, x6.frozen? ⟨x1.heap.size, i, none⟩ = false := fun i => blk_frozen HMM.out i
          refine wpAnyH_ready (rs := [12]) (by kernel_rfl) (by simp) ?_
          refine AllReadyH.cons rfl (fun K hK => ?_) AllReadyH.nil
          go_simp
          have HBL := hide (bes_done (g1 := g1) HBx6.out HMM.out (by omega) HRN.out HRO.out (by omega) (by omega) (fun b hb e => by have := HIN.out b hb; omega) (fun b hb e => by have := HIO.out b hb; omega) (fun b hb hc => by have h1 := HIN.out b hb; have h2 := HIO.out b hc; omega))
          refine hK.out _ _ (HSW.out _ HBL.out.below) (fun _ => ?_)
          clear hK K
          refine wpAnyH_done (by kernel_rfl) ?_ _
          go_wp2_with fail
          go_meet
          case rel => exact ⟨_, na', nc', oa', oc', rfl, HBL.out⟩
        · go_simp
          have HT : Hid (Below x3.heap.size x3 (x3.alloc (.cells #[] 3))) := hide (below_alloc _ _)
          have HBx4 : Hid (Below w1.heap.size w1 (x3.alloc (.cells #[] 3))) := hide (Below.step HBx3.out HT.out)
          have HEO := hide (blk_new x3 (.cells #[] 3))
          have HEN := hide (Below.blk HT.out HEN.out)
          have HMM := hide (Below.blk HT.out HMM.out)
          refine hK.out _ _ (HSW.out _ HBx4.out) (fun _ => ?_)
          clear hK K
          generalize x3.alloc (.cells #[] 3) = x4 at *
          have hzx4 : x3.heap.size < x4.heap.size := blk_lt HEO.out
          clear HT
          refine wpAnyH_ready (rs := [5]) (by kernel_rfl) (by simp) ?_
          refine AllReadyH.cons rfl (fun K hK => ?_) AllReadyH.nil
          obtain ⟨na', nc', x5, happ, hm, hg, hnb⟩ := app_nd (c := nc) (n' := ns.length) (Mine.empty (size := 4) HEN.out) (l := []) rfl (new := ns) rfl (by omega) ((HNA.out.1.below HBx4.out).nodes) (Nat.le_of_lt (blk_lt HEN.out)) (by have := HBD.out; omega)
          have HRN := hide hm
          have hzx5 : x4.heap.size ≤ x5.heap.size := hg.size
          have HIN : Hid (InNew (.slice na' ns.length nc') (x2.heap.size) x4.heap.size x5.heap.size) := hide fun b hb => ⟨(hnb b hb).imp (fun h => by simp [Value.ownBlock] at h; omega) id, hm.lt hb⟩
          have HBx5 : Hid (Below w1.heap.size w1 x5) := hide (Below.grownOn HBx4.out hg (fun b hb => by simp [Value.ownBlock] at hb; have := hzw; omega) HBx4.out.size)
          have HEO := hide ((hg.block _ (blk_lt HEO.out) (fun e => by simp [Value.ownBlock] at e; omega)).trans HEO.out)
          have HMM := hide ((hg.block _ (blk_lt HMM.out) (fun e => by simp [Value.ownBlock] at e; omega)).trans HMM.out)
          clear hm hg hnb
          refine (if_pos (by kernel_rfl)).mpr ?_
          refine wp_append_run happ _ _ rfl rfl rfl ?_
          simp only [Act.put, List.setIfInBounds_toArray, List.set_cons_zero, List.set_cons_succ]
          refine hK.out _ _ (HSW.out _ HBx5.out) (fun _ => ?_)
          clear hK K
          clear happ HEN
          refine wpAnyH_ready (rs := [9]) (by kernel_rfl) (by simp) ?_
          refine AllReadyH.cons rfl (fun K hK => ?_) AllReadyH.nil
          obtain ⟨oa', oc', x6, happ, hm, hg, hnb⟩ := app_in (c := oc) (n' := os.length) (Mine.empty (size := 1) HEO.out) (l := []) rfl (new := os) rfl (by omega) ((HNA.out.1.below HBx5.out).outs) (Nat.le_of_lt (blk_lt HEO.out)) (by have := HBD.out; omega)
          have HRO := hide hm
          have hzx6 : x5.heap.size ≤ x6.heap.size := hg.size
          have HIO : Hid (InNew (.slice oa' os.length oc') (x3.heap.size) x5.heap.size x6.heap.size) := hide fun b hb => ⟨(hnb b hb).imp (fun h => by simp [Value.ownBlock] at h; omega) id, hm.lt hb⟩
          have HBx6 : Hid (Below w1.heap.size w1 x6) := hide (Below.grownOn HBx5.out hg (fun b hb => by simp [Value.ownBlock] at hb; have := hzw; omega) HBx5.out.size)
          have HRN := hide (HRN.out.grown hg (fun b hb e => by have := HIN.out b hb; simp [Value.ownBlock] at e; omega))
          have HMM := hide ((hg.block _ (blk_lt HMM.out) (fun e => by simp [Value.ownBlock] at e; omega)).trans HMM.out)
          clear hm hg hnb
          refine (if_pos (by kernel_rfl)).mpr ?_
          refine wp_append_run happ _ _ rfl rfl rfl ?_
          simp only [Act.put, List.setIfInBounds_toArray, List.set_cons_zero, List.set_cons_succ]
          refine hK.out _ _ (HSW.out _ HBx6.out) (fun _ => ?_)
          clear hK K
          clear happ HEO
          refine wpAnyH_take (i := 10) (oi := ⟨some 26, _, _, _, _, _⟩) (v := (.agg #[.int .i64 (g1 : Int), .slice na' ns.length nc', .slice oa' os.length oc'])) rfl (by kernel_rfl) (by kernel_rfl) (by kernel_rfl) (fun _ _ _ h => h) (Or.inl ⟨by rfl, fun W hS => by (obtain ⟨s0, s1, s2⟩ := hS; go_simp)⟩) (HSW.out _ HBx6.out) ?_
          simp only [Act.put, List.setIfInBounds_toArray, List.set_cons_zero, List.set_cons_succ]
          have k0 : x6.cell? ⟨x1.heap.size, 0, none⟩ = some (.int .i64 0) := by rw [blk_cell HMM.out]; rfl
          have k1 : x6.cell? ⟨x1.heap.size, 1, none⟩ = some (.slice none 0 0) := by rw [blk_cell HMM.out]; rfl
          have k2 : x6.cell? ⟨x1.heap.size, 2, none⟩ = some (.slice none 0 0) := by rw [blk_cell HMM.out]; rfl
          have kf : ∀ i, x6.frozen? ⟨x1.heap.size, i, none⟩ = false := fun i => blk_frozen HMM.out i
          refine wpAnyH_ready (rs := [12]) (by kernel_rfl) (by simp) ?_
          refine AllReadyH.cons rfl (fun K hK => ?_) AllReadyH.nil
          go_simp
          have HBL := hide (bes_done (g1 := g1) HBx6.out HMM.out (by omega) HRN.out HRO.out (by omega) (by omega) (fun b hb e => by have := HIN.out b hb; omega) (fun b hb e => by have := HIO.out b hb; omega) (fun b hb hc => by have h1 := HIN.out b hb; have h2 := HIO.out b hc; omega))
          refine hK.out _ _ (HSW.out _ HBL.out.below) (fun _ => ?_)
          clear hK K
          refine wpAnyH_done (by kernel_rfl) ?_ _
          go_wp2_with fail
          go_meet
          case rel => exact ⟨_, na', nc', oa', oc', rfl, HBL.out⟩
      · go_simp
        have HT : Hid (Below x2.heap.size x2 (x2.alloc (.cells #[] 3))) := hide (below_alloc _ _)
        have HBx3 : Hid (Below w1.heap.size w1 (x2.alloc (.cells #[] 3))) := hide (Below.step HBx2.out HT.out)
        have HEO := hide (blk_new x2 (.cells #[] 3))
        have HMM := hide (Below.blk HT.out HMM.out)
        refine hK.out _ _ (HSW.out _ HBx3.out) (fun _ => ?_)
        clear hK K
        generalize x2.alloc (.cells #[] 3) = x3 at *
        have hzx3 : x2.heap.size < x3.heap.size := blk_lt HEO.out
        clear HT
        refine wpAnyH_ready (rs := [2]) (by kernel_rfl) (by simp) ?_
        refine AllReadyH.cons rfl (fun K hK => ?_) AllReadyH.nil
        go_simp
        have HT : Hid (Below x3.heap.size x3 (x3.alloc (.cells #[] 26))) := hide (below_alloc _ _)
        have HBx4 : Hid (Below w1.heap.size w1 (x3.alloc (.cells #[] 26))) := hide (Below.step HBx3.out HT.out)
        have HEN := hide (blk_new x3 (.cells #[] 26))
        have HEO := hide (Below.blk HT.out HEO.out)
        have HMM := hide (Below.blk HT.out HMM.out)
        refine hK.out _ _ (HSW.out _ HBx4.out) (fun _ => ?_)
        clear hK K
        generalize x3.alloc (.cells #[] 26) = x4 at *
        have hzx4 : x3.heap.size < x4.heap.size := blk_lt HEN.out
        clear HT
        refine wpAnyH_ready (rs := [5]) (by kernel_rfl) (by simp) ?_
        refine AllReadyH.cons rfl (fun K hK => ?_) AllReadyH.nil
        obtain ⟨na', nc', x5, happ, hm, hg, hnb⟩ := app_nd (c := nc) (n' := ns.length) (Mine.empty (size := 4) HEN.out) (l := []) rfl (new := ns) rfl (by omega) ((HNA.out.1.below HBx4.out).nodes) (Nat.le_of_lt (blk_lt HEN.out)) (by have := HBD.out; omega)
        have HRN := hide hm
        have hzx5 : x4.heap.size ≤ x5.heap.size := hg.size
        have HIN : Hid (InNew (.slice na' ns.length nc') (x3.heap.size) x4.heap.size x5.heap.size) := hide fun b hb => ⟨(hnb b hb).imp (fun h => by simp [Value.ownBlock] at h; omega) id, hm.lt hb⟩
        have HBx5 : Hid (Below w1.heap.size w1 x5) := hide (Below.grownOn HBx4.out hg (fun b hb => by simp [Value.ownBlock] at hb; have := hzw; omega) HBx4.out.size)
        have HEO := hide ((hg.block _ (blk_lt HEO.out) (fun e => by simp [Value.ownBlock] at e; omega)).trans HEO.out)
        have HMM := hide ((hg.block _ (blk_lt HMM.out) (fun e => by simp [Value.ownBlock] at e; omega)).trans HMM.out)
        clear hm hg hnb
        refine (if_pos (by kernel_rfl)).mpr ?_
        refine wp_append_run happ _ _ rfl rfl rfl ?_
        simp only [Act.put, List.setIfInBounds_toArray, List.set_cons_zero, List.set_cons_succ]
        refine hK.out _ _ (HSW.out _ HBx5.out) (fun _ => ?_)
        clear hK K
        clear happ HEN
        refine wpAnyH_ready (rs := [9]) (by kernel_rfl) (by simp) ?_
        refine AllReadyH.cons rfl (fun K hK => ?_) AllReadyH.nil
        obtain ⟨oa', oc', x6, happ, hm, hg, hnb⟩ := app_in (c := oc) (n' := os.length) (Mine.empty (size := 1) HEO.out) (l := []) rfl (new := os) rfl (by omega) ((HNA.out.1.below HBx5.out).outs) (Nat.le_of_lt (blk_lt HEO.out)) (by have := HBD.out; omega)
        have HRO := hide hm
        have hzx6 : x5.heap.size ≤ x6.heap.size := hg.size
        have HIO : Hid (InNew (.slice oa' os.length oc') (x2.heap.size) x5.heap.size x6.heap.size) := hide fun b hb => ⟨(hnb b hb).imp (fun h => by simp [Value.ownBlock] at h; omega) id, hm.lt hb⟩
        have HBx6 : Hid (Below w1.heap.size w1 x6) := hide (Below.grownOn HBx5.out hg (fun b hb => by simp [Value.ownBlock] at hb; have := hzw; omega) HBx5.out.size)
        have HRN := hide (HRN.out.grown hg (fun b hb e => by have := HIN.out b hb; simp [Value.ownBlock] at e; omega))
        have HMM := hide ((hg.block _ (blk_lt HMM.out) (fun e => by simp [Value.ownBlock] at e; omega)).trans HMM.out)
        clear hm hg hnb
        refine (if_pos (by kernel_rfl)).mpr ?_
        refine wp_append_run happ _ _ rfl rfl rfl ?_
        simp only [Act.put, List.setIfInBounds_toArray, List.set_cons_zero, List.set_cons_succ]
        refine hK.out _ _ (HSW.out _ HBx6.out) (fun _ => ?_)
        clear hK K
        clear happ HEO
        refine wpAnyH_take (i := 10) (oi := ⟨some 26, _, _, _, _, _⟩) (v := (.agg #[.int .i64 (g1 : Int), .slice na' ns.length nc', .slice oa' os.length oc'])) rfl (by kernel_rfl) (by kernel_rfl) (by kernel_rfl) (fun _ _ _ h => h) (Or.inl ⟨by rfl, fun W hS => by (obtain ⟨s0, s1, s2⟩ := hS; go_simp)⟩) (HSW.out _ HBx6.out) ?_
        simp only [Act.put, List.setIfInBounds_toArray, List.set_cons_zero, List.set_cons_succ]
        have k0 : x6.cell? ⟨x1.heap.size, 0, none⟩ = some (.int .i64 0) := by rw [blk_cell HMM.out]; rfl
        have k1 : x6.cell? ⟨x1.heap.size, 1, none⟩ = some (.slice none 0 0) := by rw [blk_cell HMM.out]; rfl
        have k2 : x6.cell? ⟨x1.heap.size, 2, none⟩ = some (.slice none 0 0) := by rw [blk_cell HMM.out]; rfl
        have kf : ∀ i, x6.frozen? ⟨x1.heap.size, i, none⟩ = false := fun i => blk_frozen HMM.out i
        refine wpAnyH_ready (rs := [12]) (by kernel_rfl) (by simp) ?_
        refine AllReadyH.cons rfl (fun K hK => ?_) AllReadyH.nil
        go_simp
        have HBL := hide (bes_done (g1 := g1) HBx6.out HMM.out (by omega) HRN.out HRO.out (by omega) (by omega) (fun b hb e => by have := HIN.out b hb; omega) (fun b hb e => by have := HIO.out b hb; omega) (fun b hb hc => by have h1 := HIN.out b hb; have h2 := HIO.out b hc; omega))
        refine hK.out _ _ (HSW.out _ HBL.out.below) (fun _ => ?_)
        clear hK K
        refine wpAnyH_done (by kernel_rfl) ?_ _
        go_wp2_with fail
        go_meet
        case rel => exact ⟨_, na', nc', oa', oc', rfl, HBL.out⟩
  case rest =>
    obtain ⟨M, na', nc', oa', oc', rfl, hbld⟩ := hcut
    have HBL := hide hbld
    clear hbld
    have hM0 : wc.cell? ⟨M, 0, none⟩ = some (.int .i64 (g1 : Int)) := HBL.out.net.c0
    have hMf : wc.frozen? ⟨M, 0, none⟩ = false := blk_frozen HBL.out.me 0
    have p0 : wc.cell? ⟨w.heap.size, 0, none⟩ = some (.int .i64 (g1 : Int)) := (HNA.out.1.below HBL.out.below).c0
    have q0 : wc.cell? ⟨w.heap.size + 1, 0, none⟩ = some (.int .i64 (g1 : Int)) := (HNA.out.2.1.below HBL.out.below).c0
    have hg1 : g1 ≤ 200 := HBD.out.1
    have hg2 : g1 ≤ 200 := HBD.out.2.1
    have hn60 : ns.length ≤ 60 := HBD.out.2.2.1
    have hm60 : ms.length ≤ 60 := HBD.out.2.2.2.1
    have ho30 : os.length ≤ 30 := HBD.out.2.2.2.2.1
    have hp30 : mo.length ≤ 30 := HBD.out.2.2.2.2.2
    go_wp2_with fail
    have HBG : Hid (Bld w1.heap.size w1 (wc.setCell ⟨M, 0, none⟩ (.int .i64 (g1 : Int))) M (g1 : Int) na' nc' oa' oc' ns os) := hide (HBL.out.setG (g1 : Int))
    have HMG : Hid (w1.heap.size ≤ M) := hide HBL.out.mB
    clear hM0 hMf p0 q0 HBL
    go_loopw [10, 11] (fun i _ wr => ∃ (q : Nat) (na' : Option Addr) (nc' : Nat), q ≤ ms.length ∧ i = .int .i64 q ∧ Hid (Bld w1.heap.size w1 wr M (g1 : Int) na' nc' oa' oc' (jnN ns ms ns.length 0 q) os)) (fun i _ _ => ms.length - (intOf i).toNat)
    case atStart => exact ⟨0, na', nc', Nat.zero_le _, rfl, hide (by have := HBG.out; simpa [jnN] using this)⟩
    case round =>
      obtain ⟨q, na2, nc2, hq, rfl, hbl⟩ := hrel
      have HNr := hide (HNA.out.2.1.below hbl.out.below)
      have c1 : wr.cell? ⟨w.heap.size + 1, 1, none⟩ = some (.slice ma ms.length mc) := HNr.out.c1
      by_cases hlt : q < ms.length
      · have hqi : (q : Int) < (ms.length : Int) := by omega
        obtain ⟨b, off, hma, _, hbl2, n0, n1, n2, n3⟩ := HNr.out.nodes.nodes hlt
        simp only at hma
        subst hma
        have m1 : wr.cell? ⟨M, 1, none⟩ = some (.slice na2 (jnN ns ms ns.length 0 q).length nc2) := hbl.out.net.c1
        have HLN : Hid ((jnN ns ms ns.length 0 q).length = ns.length + q) := hide (jnN_len _ _ _ _ _ (by omega))
        have HSU : Hid (jnN ns ms ns.length 0 (q + 1) = jnN ns ms ns.length 0 q ++ [shN ns.length 0 (ndAt ms q)]) := hide (jnN_succ _ _ _ _ _ hlt)
        have HRN := hide (H2.out.nodes q hlt)
        rw [HLN.out] at m1
        have hMl : M < wr.heap.size := blk_lt hbl.out.me
        clear hbl2
        generalize ndAt ms q = x at n0 n1 n2 n3 HRN HSU
        obtain ⟨op, a, bb, nx⟩ := x
        simp only at n0 n1 n2 n3
        have hop : op = 1 ∨ op = 2 ∨ op = 3 ∨ op = 4 ∨ op = 5 ∨ op = 6 ∨ op = 7 ∨ op = 8 := rightN_op HRN.out
        rcases hop with rfl | rfl | rfl | rfl | rfl | rfl | rfl | rfl
        · have HSH : Hid (shN (ns.length : Int) 0 ⟨1, a, bb, nx⟩ = ⟨1, a, bb, nx⟩) := hide (by simp [shN])
          have HTx : Hid (Below wr.heap.size wr (wr.alloc (.cells #[.int .i64 1, .int .i64 a, .int .i64 bb, .int .i64 nx] 26))) := hide (below_alloc _ _)
          have HTy : Hid (Below (wr.alloc (.cells #[.int .i64 1, .int .i64 a, .int .i64 bb, .int .i64 nx] 26)).heap.size (wr.alloc (.cells #[.int .i64 1, .int .i64 a, .int .i64 bb, .int .i64 nx] 26)) ((wr.alloc (.cells #[.int .i64 1, .int .i64 a, .int .i64 bb, .int .i64 nx] 26)).alloc (.cells #[.int .i64 1, .int .i64 a, .int .i64 bb, .int .i64 nx] 26))) := hide (below_alloc _ _)
          have HEy : Hid (((wr.alloc (.cells #[.int .i64 1, .int .i64 a, .int .i64 bb, .int .i64 nx] 26)).alloc (.cells #[.int .i64 1, .int .i64 a, .int .i64 bb, .int .i64 nx] 26)).heap[wr.heap.size + 1]? = some (.cells #[.int .i64 1, .int .i64 a, .int .i64 bb, .int .i64 nx] 26 (0, 0))) := hide (by have h := blk_new (wr.alloc (.cells #[.int .i64 1, .int .i64 a, .int .i64 bb, .int .i64 nx] 26)) (.cells #[.int .i64 1, .int .i64 a, .int .i64 bb, .int .i64 nx] 26); rwa [show (wr.alloc (.cells #[.int .i64 1, .int .i64 a, .int .i64 bb, .int .i64 nx] 26)).heap.size = wr.heap.size + 1 by simp] at h)
          have hb2 := hide ((hbl.out.more HTx.out).more HTy.out)
          obtain ⟨na3, nc3, x3, happ, hm, hg, hnb⟩ := app_nd (c := 1) (n' := ns.length + q + 1) hb2.out.nodes rfl (new := [⟨1, a, bb, nx⟩]) (m := 1) rfl (by rw [HLN.out]) (Lies.blk (cs := ndsC [⟨1, a, bb, nx⟩]) HEy.out trivial) hb2.out.hB (by omega)
          rw [HLN.out] at happ
          have HM3 := hide hm
          have HG3 := hide hg
          have HNB := hide hnb
          clear hm hg hnb
          obtain ⟨k1, kf⟩ := hb2.out.s1 HG3.out
          rw [HLN.out] at k1
          have m1a := fun o => cell_alloc m1 o
          have hb4 := hide (hb2.out.addN (n' := ns.length + q + 1) (new := [⟨1, a, bb, nx⟩]) (by rw [List.length_append, HLN.out]; rfl) HM3.out HG3.out HNB.out)
          clear HM3 HG3 HNB
          go_wp2_with (at_builtin; (refine wpl_append_run happ rfl _ _ rfl rfl rfl ?_))
          exact ⟨⟨q + 1, _, _, by omega, by go_num, hide (by rw [HSU.out, HSH.out]; exact hb4.out)⟩, by simp [intOf]; omega⟩
        · have HSH : Hid (shN (ns.length : Int) 0 ⟨2, a, bb, nx⟩ = ⟨2, a, bb, nx⟩) := hide (by simp [shN])
          have HTx : Hid (Below wr.heap.size wr (wr.alloc (.cells #[.int .i64 2, .int .i64 a, .int .i64 bb, .int .i64 nx] 26))) := hide (below_alloc _ _)
          have HTy : Hid (Below (wr.alloc (.cells #[.int .i64 2, .int .i64 a, .int .i64 bb, .int .i64 nx] 26)).heap.size (wr.alloc (.cells #[.int .i64 2, .int .i64 a, .int .i64 bb, .int .i64 nx] 26)) ((wr.alloc (.cells #[.int .i64 2, .int .i64 a, .int .i64 bb, .int .i64 nx] 26)).alloc (.cells #[.int .i64 2, .int .i64 a, .int .i64 bb, .int .i64 nx] 26))) := hide (below_alloc _ _)
          have HEy : Hid (((wr.alloc (.cells #[.int .i64 2, .int .i64 a, .int .i64 bb, .int .i64 nx] 26)).alloc (.cells #[.int .i64 2, .int .i64 a, .int .i64 bb, .int .i64 nx] 26)).heap[wr.heap.size + 1]? = some (.cells #[.int .i64 2, .int .i64 a, .int .i64 bb, .int .i64 nx] 26 (0, 0))) := hide (by have h := blk_new (wr.alloc (.cells #[.int .i64 2, .int .i64 a, .int .i64 bb, .int .i64 nx] 26)) (.cells #[.int .i64 2, .int .i64 a, .int .i64 bb, .int .i64 nx] 26); rwa [show (wr.alloc (.cells #[.int .i64 2, .int .i64 a, .int .i64 bb, .int .i64 nx] 26)).heap.size = wr.heap.size + 1 by simp] at h)
          have hb2 := hide ((hbl.out.more HTx.out).more HTy.out)
          obtain ⟨na3, nc3, x3, happ, hm, hg, hnb⟩ := app_nd (c := 1) (n' := ns.length + q + 1) hb2.out.nodes rfl (new := [⟨2, a, bb, nx⟩]) (m := 1) rfl (by rw [HLN.out]) (Lies.blk (cs := ndsC [⟨2, a, bb, nx⟩]) HEy.out trivial) hb2.out.hB (by omega)
          rw [HLN.out] at happ
          have HM3 := hide hm
          have HG3 := hide hg
          have HNB := hide hnb
          clear hm hg hnb
          obtain ⟨k1, kf⟩ := hb2.out.s1 HG3.out
          rw [HLN.out] at k1
          have m1a := fun o => cell_alloc m1 o
          have hb4 := hide (hb2.out.addN (n' := ns.length + q + 1) (new := [⟨2, a, bb, nx⟩]) (by rw [List.length_append, HLN.out]; rfl) HM3.out HG3.out HNB.out)
          clear HM3 HG3 HNB
          go_wp2_with (at_builtin; (refine wpl_append_run happ rfl _ _ rfl rfl rfl ?_))
          exact ⟨⟨q + 1, _, _, by omega, by go_num, hide (by rw [HSU.out, HSH.out]; exact hb4.out)⟩, by simp [intOf]; omega⟩
        · obtain ⟨ha0, ha1⟩ : 0 ≤ a ∧ a < (g1 : Int) := by
            have h := HRN.out
            simp [rightN, inR] at h
            omega
          have HSH : Hid (shN (ns.length : Int) 0 ⟨3, a, bb, nx⟩ = ⟨3, a, bb, nx⟩) := hide (by simp [shN])
          have HTx : Hid (Below wr.heap.size wr (wr.alloc (.cells #[.int .i64 3, .int .i64 a, .int .i64 bb, .int .i64 nx] 26))) := hide (below_alloc _ _)
          have HTy : Hid (Below (wr.alloc (.cells #[.int .i64 3, .int .i64 a, .int .i64 bb, .int .i64 nx] 26)).heap.size (wr.alloc (.cells #[.int .i64 3, .int .i64 a, .int .i64 bb, .int .i64 nx] 26)) ((wr.alloc (.cells #[.int .i64 3, .int .i64 a, .int .i64 bb, .int .i64 nx] 26)).alloc (.cells #[.int .i64 3, .int .i64 a, .int .i64 bb, .int .i64 nx] 26))) := hide (below_alloc _ _)
          have HEy : Hid (((wr.alloc (.cells #[.int .i64 3, .int .i64 a, .int .i64 bb, .int .i64 nx] 26)).alloc (.cells #[.int .i64 3, .int .i64 a, .int .i64 bb, .int .i64 nx] 26)).heap[wr.heap.size + 1]? = some (.cells #[.int .i64 3, .int .i64 a, .int .i64 bb, .int .i64 nx] 26 (0, 0))) := hide (by have h := blk_new (wr.alloc (.cells #[.int .i64 3, .int .i64 a, .int .i64 bb, .int .i64 nx] 26)) (.cells #[.int .i64 3, .int .i64 a, .int .i64 bb, .int .i64 nx] 26); rwa [show (wr.alloc (.cells #[.int .i64 3, .int .i64 a, .int .i64 bb, .int .i64 nx] 26)).heap.size = wr.heap.size + 1 by simp] at h)
          have hb2 := hide ((hbl.out.more HTx.out).more HTy.out)
          obtain ⟨na3, nc3, x3, happ, hm, hg, hnb⟩ := app_nd (c := 1) (n' := ns.length + q + 1) hb2.out.nodes rfl (new := [⟨3, a, bb, nx⟩]) (m := 1) rfl (by rw [HLN.out]) (Lies.blk (cs := ndsC [⟨3, a, bb, nx⟩]) HEy.out trivial) hb2.out.hB (by omega)
          rw [HLN.out] at happ
          have HM3 := hide hm
          have HG3 := hide hg
          have HNB := hide hnb
          clear hm hg hnb
          obtain ⟨k1, kf⟩ := hb2.out.s1 HG3.out
          rw [HLN.out] at k1
          have m1a := fun o => cell_alloc m1 o
          have hb4 := hide (hb2.out.addN (n' := ns.length + q + 1) (new := [⟨3, a, bb, nx⟩]) (by rw [List.length_append, HLN.out]; rfl) HM3.out HG3.out HNB.out)
          clear HM3 HG3 HNB
          go_wp2_with (at_builtin; (refine wpl_append_run happ rfl _ _ rfl rfl rfl ?_))
          exact ⟨⟨q + 1, _, _, by omega, by go_num, hide (by rw [HSU.out, HSH.out]; exact hb4.out)⟩, by simp [intOf]; omega⟩
        · obtain ⟨ha0, ha1⟩ : 0 ≤ nx ∧ nx < (ms.length : Int) := by
            have h := HRN.out
            simp [rightN, inR] at h
            omega
          have HSH : Hid (shN (ns.length : Int) 0 ⟨4, a, bb, nx⟩ = ⟨4, a, bb, (nx + (ns.length : Int))⟩) := hide (by simp [shN])
          have HTx : Hid (Below wr.heap.size wr (wr.alloc (.cells #[.int .i64 4, .int .i64 a, .int .i64 bb, .int .i64 (nx + (ns.length : Int))] 26))) := hide (below_alloc _ _)
          have HTy : Hid (Below (wr.alloc (.cells #[.int .i64 4, .int .i64 a, .int .i64 bb, .int .i64 (nx + (ns.length : Int))] 26)).heap.size (wr.alloc (.cells #[.int .i64 4, .int .i64 a, .int .i64 bb, .int .i64 (nx + (ns.length : Int))] 26)) ((wr.alloc (.cells #[.int .i64 4, .int .i64 a, .int .i64 bb, .int .i64 (nx + (ns.length : Int))] 26)).alloc (.cells #[.int .i64 4, .int .i64 a, .int .i64 bb, .int .i64 (nx + (ns.length : Int))] 26))) := hide (below_alloc _ _)
          have HEy : Hid (((wr.alloc (.cells #[.int .i64 4, .int .i64 a, .int .i64 bb, .int .i64 (nx + (ns.length : Int))] 26)).alloc (.cells #[.int .i64 4, .int .i64 a, .int .i64 bb, .int .i64 (nx + (ns.length : Int))] 26)).heap[wr.heap.size + 1]? = some (.cells #[.int .i64 4, .int .i64 a, .int .i64 bb, .int .i64 (nx + (ns.length : Int))] 26 (0, 0))) := hide (by have h := blk_new (wr.alloc (.cells #[.int .i64 4, .int .i64 a, .int .i64 bb, .int .i64 (nx + (ns.length : Int))] 26)) (.cells #[.int .i64 4, .int .i64 a, .int .i64 bb, .int .i64 (nx + (ns.length : Int))] 26); rwa [show (wr.alloc (.cells #[.int .i64 4, .int .i64 a, .int .i64 bb, .int .i64 (nx + (ns.length : Int))] 26)).heap.size = wr.heap.size + 1 by simp] at h)
          have hb2 := hide ((hbl.out.more HTx.out).more HTy.out)
          obtain ⟨na3, nc3, x3, happ, hm, hg, hnb⟩ := app_nd (c := 1) (n' := ns.length + q + 1) hb2.out.nodes rfl (new := [⟨4, a, bb, (nx + (ns.length : Int))⟩]) (m := 1) rfl (by rw [HLN.out]) (Lies.blk (cs := ndsC [⟨4, a, bb, (nx + (ns.length : Int))⟩]) HEy.out trivial) hb2.out.hB (by omega)
          rw [HLN.out] at happ
          have HM3 := hide hm
          have HG3 := hide hg
          have HNB := hide hnb
          clear hm hg hnb
          obtain ⟨k1, kf⟩ := hb2.out.s1 HG3.out
          rw [HLN.out] at k1
          have m1a := fun o => cell_alloc m1 o
          have hb4 := hide (hb2.out.addN (n' := ns.length + q + 1) (new := [⟨4, a, bb, (nx + (ns.length : Int))⟩]) (by rw [List.length_append, HLN.out]; rfl) HM3.out HG3.out HNB.out)
          clear HM3 HG3 HNB
          go_wp2_with (at_builtin; (refine wpl_append_run happ rfl _ _ rfl rfl rfl ?_))
          exact ⟨⟨q + 1, _, _, by omega, by go_num, hide (by rw [HSU.out, HSH.out]; exact hb4.out)⟩, by simp [intOf]; omega⟩
        · obtain ⟨⟨ha0, ha1⟩, hb0, hb1⟩ : (0 ≤ a ∧ a < (q : Int)) ∧ 0 ≤ bb ∧ bb < (q : Int) := by
            have h := HRN.out
            simp [rightN, inR] at h
            omega
          have HSH : Hid (shN (ns.length : Int) 0 ⟨5, a, bb, nx⟩ = ⟨5, (a + (ns.length : Int)), (bb + (ns.length : Int)), nx⟩) := hide (by simp [shN])
          have HTx : Hid (Below wr.heap.size wr (wr.alloc (.cells #[.int .i64 5, .int .i64 (a + (ns.length : Int)), .int .i64 (bb + (ns.length : Int)), .int .i64 nx] 26))) := hide (below_alloc _ _)
          have HTy : Hid (Below (wr.alloc (.cells #[.int .i64 5, .int .i64 (a + (ns.length : Int)), .int .i64 (bb + (ns.length : Int)), .int .i64 nx] 26)).heap.size (wr.alloc (.cells #[.int .i64 5, .int .i64 (a + (ns.length : Int)), .int .i64 (bb + (ns.length : Int)), .int .i64 nx] 26)) ((wr.alloc (.cells #[.int .i64 5, .int .i64 (a + (ns.length : Int)), .int .i64 (bb + (ns.length : Int)), .int .i64 nx] 26)).alloc (.cells #[.int .i64 5, .int .i64 (a + (ns.length : Int)), .int .i64 (bb + (ns.length : Int)), .int .i64 nx] 26))) := hide (below_alloc _ _)
          have HEy : Hid (((wr.alloc (.cells #[.int .i64 5, .int .i64 (a + (ns.length : Int)), .int .i64 (bb + (ns.length : Int)), .int .i64 nx] 26)).alloc (.cells #[.int .i64 5, .int .i64 (a + (ns.length : Int)), .int .i64 (bb + (ns.length : Int)), .int .i64 nx] 26)).heap[wr.heap.size + 1]? = some (.cells #[.int .i64 5, .int .i64 (a + (ns.length : Int)), .int .i64 (bb + (ns.length : Int)), .int .i64 nx] 26 (0, 0))) := hide (by have h := blk_new (wr.alloc (.cells #[.int .i64 5, .int .i64 (a + (ns.length : Int)), .int .i64 (bb + (ns.length : Int)), .int .i64 nx] 26)) (.cells #[.int .i64 5, .int .i64 (a + (ns.length : Int)), .int .i64 (bb + (ns.length : Int)), .int .i64 nx] 26); rwa [show (wr.alloc (.cells #[.int .i64 5, .int .i64 (a + (ns.length : Int)), .int .i64 (bb + (ns.length : Int)), .int .i64 nx] 26)).heap.size = wr.heap.size + 1 by simp] at h)
          have hb2 := hide ((hbl.out.more HTx.out).more HTy.out)
          obtain ⟨na3, nc3, x3, happ, hm, hg, hnb⟩ := app_nd (c := 1) (n' := ns.length + q + 1) hb2.out.nodes rfl (new := [⟨5, (a + (ns.length : Int)), (bb + (ns.length : Int)), nx⟩]) (m := 1) rfl (by rw [HLN.out]) (Lies.blk (cs := ndsC [⟨5, (a + (ns.length : Int)), (bb + (ns.length : Int)), nx⟩]) HEy.out trivial) hb2.out.hB (by omega)
          rw [HLN.out] at happ
          have HM3 := hide hm
          have HG3 := hide hg
          have HNB := hide hnb
          clear hm hg hnb
          obtain ⟨k1, kf⟩ := hb2.out.s1 HG3.out
          rw [HLN.out] at k1
          have m1a := fun o => cell_alloc m1 o
          have hb4 := hide (hb2.out.addN (n' := ns.length + q + 1) (new := [⟨5, (a + (ns.length : Int)), (bb + (ns.length : Int)), nx⟩]) (by rw [List.length_append, HLN.out]; rfl) HM3.out HG3.out HNB.out)
          clear HM3 HG3 HNB
          go_wp2_with (at_builtin; (refine wpl_append_run happ rfl _ _ rfl rfl rfl ?_))
          exact ⟨⟨q + 1, _, _, by omega, by go_num, hide (by rw [HSU.out, HSH.out]; exact hb4.out)⟩, by simp [intOf]; omega⟩
        · obtain ⟨⟨ha0, ha1⟩, hb0, hb1⟩ : (0 ≤ a ∧ a < (q : Int)) ∧ 0 ≤ bb ∧ bb < (q : Int) := by
            have h := HRN.out
            simp [rightN, inR] at h
            omega
          have HSH : Hid (shN (ns.length : Int) 0 ⟨6, a, bb, nx⟩ = ⟨6, (a + (ns.length : Int)), (bb + (ns.length : Int)), nx⟩) := hide (by simp [shN])
          have HTx : Hid (Below wr.heap.size wr (wr.alloc (.cells #[.int .i64 6, .int .i64 (a + (ns.length : Int)), .int .i64 (bb + (ns.length : Int)), .int .i64 nx] 26))) := hide (below_alloc _ _)
          have HTy : Hid (Below (wr.alloc (.cells #[.int .i64 6, .int .i64 (a + (ns.length : Int)), .int .i64 (bb + (ns.length : Int)), .int .i64 nx] 26)).heap.size (wr.alloc (.cells #[.int .i64 6, .int .i64 (a + (ns.length : Int)), .int .i64 (bb + (ns.length : Int)), .int .i64 nx] 26)) ((wr.alloc (.cells #[.int .i64 6, .int .i64 (a + (ns.length : Int)), .int .i64 (bb + (ns.length : Int)), .int .i64 nx] 26)).alloc (.cells #[.int .i64 6, .int .i64 (a + (ns.length : Int)), .int .i64 (bb + (ns.length : Int)), .int .i64 nx] 26))) := hide (below_alloc _ _)
          have HEy : Hid (((wr.alloc (.cells #[.int .i64 6, .int .i64 (a + (ns.length : Int)), .int .i64 (bb + (ns.length : Int)), .int .i64 nx] 26)).alloc (.cells #[.int .i64 6, .int .i64 (a + (ns.length : Int)), .int .i64 (bb + (ns.length : Int)), .int .i64 nx] 26)).heap[wr.heap.size + 1]? = some (.cells #[.int .i64 6, .int .i64 (a + (ns.length : Int)), .int .i64 (bb + (ns.length : Int)), .int .i64 nx] 26 (0, 0))) := hide (by have h := blk_new (wr.alloc (.cells #[.int .i64 6, .int .i64 (a + (ns.length : Int)), .int .i64 (bb + (ns.length : Int)), .int .i64 nx] 26)) (.cells #[.int .i64 6, .int .i64 (a + (ns.length : Int)), .int .i64 (bb + (ns.length : Int)), .int .i64 nx] 26); rwa [show (wr.alloc (.cells #[.int .i64 6, .int .i64 (a + (ns.length : Int)), .int .i64 (bb + (ns.length : Int)), .int .i64 nx] 26)).heap.size = wr.heap.size + 1 by simp] at h)
          have hb2 := hide ((hbl.out.more HTx.out).more HTy.out)
          obtain ⟨na3, nc3, x3, happ, hm, hg, hnb⟩ := app_nd (c := 1) (n' := ns.length + q + 1) hb2.out.nodes rfl (new := [⟨6, (a + (ns.length : Int)), (bb + (ns.length : Int)), nx⟩]) (m := 1) rfl (by rw [HLN.out]) (Lies.blk (cs := ndsC [⟨6, (a + (ns.length : Int)), (bb + (ns.length : Int)), nx⟩]) HEy.out trivial) hb2.out.hB (by omega)
          rw [HLN.out] at happ
          have HM3 := hide hm
          have HG3 := hide hg
          have HNB := hide hnb
          clear hm hg hnb
          obtain ⟨k1, kf⟩ := hb2.out.s1 HG3.out
          rw [HLN.out] at k1
          have m1a := fun o => cell_alloc m1 o
          have hb4 := hide (hb2.out.addN (n' := ns.length + q + 1) (new := [⟨6, (a + (ns.length : Int)), (bb + (ns.length : Int)), nx⟩]) (by rw [List.length_append, HLN.out]; rfl) HM3.out HG3.out HNB.out)
          clear HM3 HG3 HNB
          go_wp2_with (at_builtin; (refine wpl_append_run happ rfl _ _ rfl rfl rfl ?_))
          exact ⟨⟨q + 1, _, _, by omega, by go_num, hide (by rw [HSU.out, HSH.out]; exact hb4.out)⟩, by simp [intOf]; omega⟩
        · obtain ⟨⟨ha0, ha1⟩, hb0, hb1⟩ : (0 ≤ a ∧ a < (q : Int)) ∧ 0 ≤ bb ∧ bb < (q : Int) := by
            have h := HRN.out
            simp [rightN, inR] at h
            omega
          have HSH : Hid (shN (ns.length : Int) 0 ⟨7, a, bb, nx⟩ = ⟨7, (a + (ns.length : Int)), (bb + (ns.length : Int)), nx⟩) := hide (by simp [shN])
          have HTx : Hid (Below wr.heap.size wr (wr.alloc (.cells #[.int .i64 7, .int .i64 (a + (ns.length : Int)), .int .i64 (bb + (ns.length : Int)), .int .i64 nx] 26))) := hide (below_alloc _ _)
          have HTy : Hid (Below (wr.alloc (.cells #[.int .i64 7, .int .i64 (a + (ns.length : Int)), .int .i64 (bb + (ns.length : Int)), .int .i64 nx] 26)).heap.size (wr.alloc (.cells #[.int .i64 7, .int .i64 (a + (ns.length : Int)), .int .i64 (bb + (ns.length : Int)), .int .i64 nx] 26)) ((wr.alloc (.cells #[.int .i64 7, .int .i64 (a + (ns.length : Int)), .int .i64 (bb + (ns.length : Int)), .int .i64 nx] 26)).alloc (.cells #[.int .i64 7, .int .i64 (a + (ns.length : Int)), .int .i64 (bb + (ns.length : Int)), .int .i64 nx] 26))) := hide (below_alloc _ _)
          have HEy : Hid (((wr.alloc (.cells #[.int .i64 7, .int .i64 (a + (ns.length : Int)), .int .i64 (bb + (ns.length : Int)), .int .i64 nx] 26)).alloc (.cells #[.int .i64 7, .int .i64 (a + (ns.length : Int)), .int .i64 (bb + (ns.length : Int)), .int .i64 nx] 26)).heap[wr.heap.size + 1]? = some (.cells #[.int .i64 7, .int .i64 (a + (ns.length : Int)), .int .i64 (bb + (ns.length : Int)), .int .i64 nx] 26 (0, 0))) := hide (by have h := blk_new (wr.alloc (.cells #[.int .i64 7, .int .i64 (a + (ns.length : Int)), .int .i64 (bb + (ns.length : Int)), .int .i64 nx] 26)) (.cells #[.int .i64 7, .int .i64 (a + (ns.length : Int)), .int .i64 (bb + (ns.length : Int)), .int .i64 nx] 26); rwa [show (wr.alloc (.cells #[.int .i64 7, .int .i64 (a + (ns.length : Int)), .int .i64 (bb + (ns.length : Int)), .int .i64 nx] 26)).heap.size = wr.heap.size + 1 by simp] at h)
          have hb2 := hide ((hbl.out.more HTx.out).more HTy.out)
          obtain ⟨na3, nc3, x3, happ, hm, hg, hnb⟩ := app_nd (c := 1) (n' := ns.length + q + 1) hb2.out.nodes rfl (new := [⟨7, (a + (ns.length : Int)), (bb + (ns.length : Int)), nx⟩]) (m := 1) rfl (by rw [HLN.out]) (Lies.blk (cs := ndsC [⟨7, (a + (ns.length : Int)), (bb + (ns.length : Int)), nx⟩]) HEy.out trivial) hb2.out.hB (by omega)
          rw [HLN.out] at happ
          have HM3 := hide hm
          have HG3 := hide hg
          have HNB := hide hnb
          clear hm hg hnb
          obtain ⟨k1, kf⟩ := hb2.out.s1 HG3.out
          rw [HLN.out] at k1
          have m1a := fun o => cell_alloc m1 o
          have hb4 := hide (hb2.out.addN (n' := ns.length + q + 1) (new := [⟨7, (a + (ns.length : Int)), (bb + (ns.length : Int)), nx⟩]) (by rw [List.length_append, HLN.out]; rfl) HM3.out HG3.out HNB.out)
          clear HM3 HG3 HNB
          go_wp2_with (at_builtin; (refine wpl_append_run happ rfl _ _ rfl rfl rfl ?_))
          exact ⟨⟨q + 1, _, _, by omega, by go_num, hide (by rw [HSU.out, HSH.out]; exact hb4.out)⟩, by simp [intOf]; omega⟩
        · obtain ⟨ha0, ha1⟩ : 0 ≤ a ∧ a < (q : Int) := by
            have h := HRN.out
            simp [rightN, inR] at h
            omega
          have HSH : Hid (shN (ns.length : Int) 0 ⟨8, a, bb, nx⟩ = ⟨8, (a + (ns.length : Int)), bb, nx⟩) := hide (by simp [shN])
          have HTx : Hid (Below wr.heap.size wr (wr.alloc (.cells #[.int .i64 8, .int .i64 (a + (ns.length : Int)), .int .i64 bb, .int .i64 nx] 26))) := hide (below_alloc _ _)
          have HTy : Hid (Below (wr.alloc (.cells #[.int .i64 8, .int .i64 (a + (ns.length : Int)), .int .i64 bb, .int .i64 nx] 26)).heap.size (wr.alloc (.cells #[.int .i64 8, .int .i64 (a + (ns.length : Int)), .int .i64 bb, .int .i64 nx] 26)) ((wr.alloc (.cells #[.int .i64 8, .int .i64 (a + (ns.length : Int)), .int .i64 bb, .int .i64 nx] 26)).alloc (.cells #[.int .i64 8, .int .i64 (a + (ns.length : Int)), .int .i64 bb, .int .i64 nx] 26))) := hide (below_alloc _ _)
          have HEy : Hid (((wr.alloc (.cells #[.int .i64 8, .int .i64 (a + (ns.length : Int)), .int .i64 bb, .int .i64 nx] 26)).alloc (.cells #[.int .i64 8, .int .i64 (a + (ns.length : Int)), .int .i64 bb, .int .i64 nx] 26)).heap[wr.heap.size + 1]? = some (.cells #[.int .i64 8, .int .i64 (a + (ns.length : Int)), .int .i64 bb, .int .i64 nx] 26 (0, 0))) := hide (by have h := blk_new (wr.alloc (.cells #[.int .i64 8, .int .i64 (a + (ns.length : Int)), .int .i64 bb, .int .i64 nx] 26)) (.cells #[.int .i64 8, .int .i64 (a + (ns.length : Int)), .int .i64 bb, .int .i64 nx] 26); rwa [show (wr.alloc (.cells #[.int .i64 8, .int .i64 (a + (ns.length : Int)), .int .i64 bb, .int .i64 nx] 26)).heap.size = wr.heap.size + 1 by simp] at h)
          have hb2 := hide ((hbl.out.more HTx.out).more HTy.out)
          obtain ⟨na3, nc3, x3, happ, hm, hg, hnb⟩ := app_nd (c := 1) (n' := ns.length + q + 1) hb2.out.nodes rfl (new := [⟨8, (a + (ns.length : Int)), bb, nx⟩]) (m := 1) rfl (by rw [HLN.out]) (Lies.blk (cs := ndsC [⟨8, (a + (ns.length : Int)), bb, nx⟩]) HEy.out trivial) hb2.out.hB (by omega)
          rw [HLN.out] at happ
          have HM3 := hide hm
          have HG3 := hide hg
          have HNB := hide hnb
          clear hm hg hnb
          obtain ⟨k1, kf⟩ := hb2.out.s1 HG3.out
          rw [HLN.out] at k1
          have m1a := fun o => cell_alloc m1 o
          have hb4 := hide (hb2.out.addN (n' := ns.length + q + 1) (new := [⟨8, (a + (ns.length : Int)), bb, nx⟩]) (by rw [List.length_append, HLN.out]; rfl) HM3.out HG3.out HNB.out)
          clear HM3 HG3 HNB
          go_wp2_with (at_builtin; (refine wpl_append_run happ rfl _ _ rfl rfl rfl ?_))
          exact ⟨⟨q + 1, _, _, by omega, by go_num, hide (by rw [HSU.out, HSH.out]; exact hb4.out)⟩, by simp [intOf]; omega⟩
      · have HQ : Hid (q = ms.length) := hide (by omega)
        have HBF : Hid (Bld w1.heap.size w1 wr M (g1 : Int) na2 nc2 oa' oc' (jnN ns ms ns.length 0 ms.length) os) := hide (by have := hbl.out; rwa [HQ.out] at this)
        have HLJ : Hid ((jnN ns ms ns.length 0 ms.length).length = ns.length + ms.length) := hide (jnN_len _ _ _ _ _ (Nat.le_refl _))
        generalize hJE : jnN ns ms ns.length 0 ms.length = J at *
        have HJE := hide hJE
        clear hJE
        clear hbl HBG
        go_wp2_with fail
        clear c1 HNr
        go_loopw [12] (fun i wx => ∃ (q : Nat) (oa' : Option Addr) (oc' : Nat), q ≤ mo.length ∧ i = .int .i64 q ∧ Hid (Bld w1.heap.size w1 wx M (g1 : Int) na2 nc2 oa' oc' J (jnO os mo ns.length q))) (fun i _ => mo.length - (intOf i).toNat)
        case atStart => exact ⟨0, oa', oc', Nat.zero_le _, rfl, hide (by have := HBF.out; simpa [jnO] using this)⟩
        case round =>
          obtain ⟨p, oa2, oc2, hp, rfl, hbl⟩ := hrel
          have c2 : wr.cell? ⟨w.heap.size + 1, 2, none⟩ = some (.slice pa mo.length pc) := (HNA.out.2.1.below hbl.out.below).c2
          by_cases hlt : p < mo.length
          · have hpi : (p : Int) < (mo.length : Int) := by omega
            obtain ⟨ob, ooff, hpa, _, _, hoc⟩ := (HNA.out.2.1.below hbl.out.below).outs.ints hlt
            simp only at hpa
            subst hpa
            have m2 : wr.cell? ⟨M, 2, none⟩ = some (.slice oa2 (jnO os mo ns.length p).length oc2) := hbl.out.net.c2
            have HLO : Hid ((jnO os mo ns.length p).length = os.length + p) := hide (jnO_len _ _ _ _ (by omega))
            have HSU : Hid (jnO os mo ns.length (p + 1) = jnO os mo ns.length p ++ [outAt mo p + (ns.length : Int)]) := hide (jnO_succ _ _ _ _ hlt)
            have hov := inR_iff.1 (H2.out.outs p hlt)
            rw [HLO.out] at m2
            go_wp2_with fail
            have HS : Hid (∀ W, Below w1.heap.size w1 W → W.cell? ⟨w.heap.size + 1, 2, none⟩ = some (.slice (some ⟨ob, ooff, none⟩) mo.length pc) ∧ W.cell? ⟨ob, ooff + p, none⟩ = some (.int .i64 (outAt mo p))) := hide fun W hb => ⟨(HNA.out.2.1.below hb).c2, by
              obtain ⟨b', o', h1, _, _, h2⟩ := (HNA.out.2.1.below hb).outs.ints hlt
              cases h1; exact h2⟩
            have HBd : Hid (Below wr.heap.size wr wr.drew) := hide (Below.refl _ _).drew
            have m2d : wr.drew.cell? ⟨M, 2, none⟩ = some (.slice oa2 (os.length + p) oc2) := m2
            have hbd := hide (hbl.out.more HBd.out)
            clear m2 c2 hoc hbl
            refine wp_region_held_drew (S := fun W => W.cell? ⟨w.heap.size + 1, 2, none⟩ = some (.slice (some ⟨ob, ooff, none⟩) mo.length pc) ∧ W.cell? ⟨ob, ooff + p, none⟩ = some (.int .i64 (outAt mo p))) (by kernel_rfl) (HS.out _ hbd.out.below) (fun _ => ?_)
            generalize wr.drew = x1 at *
            generalize outAt mo p = ov at *
            refine wpAnyH_take (i := 0) (oi := ⟨some 104, _, _, _, _, _⟩) (v := (.pointer (some ⟨M, 2, none⟩))) rfl (by kernel_rfl) (by kernel_rfl) (by kernel_rfl) (fun _ _ _ h => h) (Or.inl ⟨by rfl, fun W hS => by (obtain ⟨s0, s1⟩ := hS; go_simp)⟩) (HS.out _ hbd.out.below) ?_
            simp only [Act.put, List.setIfInBounds_toArray, List.set_cons_zero, List.set_cons_succ]
            refine wpAnyH_take (i := 2) (oi := ⟨some 106, _, _, _, _, _⟩) (v := (.pointer (some ⟨w.heap.size + 1, 2, none⟩))) rfl (by kernel_rfl) (by kernel_rfl) (by kernel_rfl) (fun _ _ _ h => h) (Or.inl ⟨by rfl, fun W hS => by (obtain ⟨s0, s1⟩ := hS; go_simp)⟩) (HS.out _ hbd.out.below) ?_
            simp only [Act.put, List.setIfInBounds_toArray, List.set_cons_zero, List.set_cons_succ]
            refine wpAnyH_take (i := 3) (oi := ⟨some 107, _, _, _, _, _⟩) (v := (.slice (some ⟨ob, ooff, none⟩) mo.length pc)) rfl (by kernel_rfl) (by kernel_rfl) (by kernel_rfl) (fun _ _ _ h => h) (Or.inl ⟨by rfl, fun W hS => by (obtain ⟨s0, s1⟩ := hS; go_simp)⟩) (HS.out _ hbd.out.below) ?_
            simp only [Act.put, List.setIfInBounds_toArray, List.set_cons_zero, List.set_cons_succ]
            refine wpAnyH_take (i := 4) (oi := ⟨some 108, _, _, _, _, _⟩) (v := (.int .i64 p)) rfl (by kernel_rfl) (by kernel_rfl) (by kernel_rfl) (fun _ _ _ h => h) (Or.inl ⟨by rfl, fun W hS => by (obtain ⟨s0, s1⟩ := hS; go_simp)⟩) (HS.out _ hbd.out.below) ?_
            simp only [Act.put, List.setIfInBounds_toArray, List.set_cons_zero, List.set_cons_succ]
            refine wpAnyH_take (i := 5) (oi := ⟨some 109, _, _, _, _, _⟩) (v := (.pointer (some ⟨ob, ooff + p, none⟩))) rfl (by kernel_rfl) (by kernel_rfl) (by kernel_rfl) (fun _ _ _ h => h) (Or.inl ⟨by rfl, fun W hS => by (obtain ⟨s0, s1⟩ := hS; go_simp)⟩) (HS.out _ hbd.out.below) ?_
            simp only [Act.put, List.setIfInBounds_toArray, List.set_cons_zero, List.set_cons_succ]
            refine wpAnyH_take (i := 6) (oi := ⟨some 110, _, _, _, _, _⟩) (v := (.int .i64 ov)) rfl (by kernel_rfl) (by kernel_rfl) (by kernel_rfl) (fun _ _ _ h => h) (Or.inl ⟨by rfl, fun W hS => by (obtain ⟨s0, s1⟩ := hS; go_simp)⟩) (HS.out _ hbd.out.below) ?_
            simp only [Act.put, List.setIfInBounds_toArray, List.set_cons_zero, List.set_cons_succ]
            refine wpAnyH_take (i := 7) (oi := ⟨some 111, _, _, _, _, _⟩) (v := (.int .i64 ns.length)) rfl (by kernel_rfl) (by kernel_rfl) (by kernel_rfl) (fun _ _ _ h => h) (Or.inl ⟨by rfl, fun W hS => by (obtain ⟨s0, s1⟩ := hS; go_simp)⟩) (HS.out _ hbd.out.below) ?_
            simp only [Act.put, List.setIfInBounds_toArray, List.set_cons_zero, List.set_cons_succ]
            refine wpAnyH_take (i := 8) (oi := ⟨some 112, _, _, _, _, _⟩) (v := (.int .i64 (ov + (ns.length : Int)))) rfl (by kernel_rfl) (by kernel_rfl) (by kernel_rfl) (fun _ _ _ h => h) (Or.inl ⟨by rfl, fun W hS => by (obtain ⟨s0, s1⟩ := hS; go_simp <;> (rw [IntKind.wrap_i64]; omega))⟩) (HS.out _ hbd.out.below) ?_
            simp only [Act.put, List.setIfInBounds_toArray, List.set_cons_zero, List.set_cons_succ]
            have HTx2 : Hid (Below x1.heap.size x1 (x1.alloc (.cells #[.int .i64 (ov + (ns.length : Int))] 3))) := hide (below_alloc _ _)
            have HEx2 := hide (blk_new x1 (.cells #[.int .i64 (ov + (ns.length : Int))] 3))
            have hb2 := hide (hbd.out.more HTx2.out)
            have m2a := fun o => cell_alloc m2d o
            obtain ⟨oa3, oc3, x3, happ, hm, hg, hnb⟩ := app_in (c := 1) (n' := os.length + p + 1) hb2.out.outs rfl (new := [ov + (ns.length : Int)]) (m := 1) rfl (by rw [HLO.out]) (Lies.blk (cs := intsC [ov + (ns.length : Int)]) HEx2.out trivial) hb2.out.hB (by omega)
            rw [HLO.out] at happ
            have HM3 := hide hm
            have HG3 := hide hg
            have HNB := hide hnb
            clear hm hg hnb
            obtain ⟨k1, kf⟩ := hb2.out.s2 HG3.out
            rw [HLO.out] at k1
            have hb4 := hide (hb2.out.addO (n' := os.length + p + 1) (new := [ov + (ns.length : Int)]) (by rw [List.length_append, HLO.out]; rfl) HM3.out HG3.out HNB.out)
            have HB3 : Hid (Below w1.heap.size w1 x3) := hide (Below.grownOn hb2.out.below HG3.out (fun b hb => hb2.out.outs.new b hb) hb2.out.hB)
            clear HM3 HG3 HNB
            refine wpAnyH_ready (rs := [1, 9]) (by kernel_rfl) (by simp) ?_
            refine AllReadyH.cons rfl (fun K hK => ?_) (AllReadyH.cons rfl (fun K hK => ?_) AllReadyH.nil)
            · go_simp
              refine hK.out _ _ (HS.out _ hbd.out.below) (fun _ => ?_)
              clear hK K
              refine wpAnyH_ready (rs := [9]) (by kernel_rfl) (by simp) ?_
              refine AllReadyH.cons rfl (fun K hK => ?_) AllReadyH.nil
              go_simp
              refine hK.out _ _ (HS.out _ hb2.out.below) (fun _ => ?_)
              clear hK K
              refine wpAnyH_ready (rs := [10]) (by kernel_rfl) (by simp) ?_
              refine AllReadyH.cons rfl (fun K hK => ?_) AllReadyH.nil
              refine (if_pos (by kernel_rfl)).mpr ?_
              refine wp_append_run happ _ _ rfl rfl rfl ?_
              simp only [Act.put, List.setIfInBounds_toArray, List.set_cons_zero, List.set_cons_succ]
              refine hK.out _ _ (HS.out _ HB3.out) (fun _ => ?_)
              clear hK K
              clear happ
              refine wpAnyH_take (i := 11) (oi := ⟨some 115, _, _, _, _, _⟩) (v := (.pointer (some ⟨M, 2, none⟩))) rfl (by kernel_rfl) (by kernel_rfl) (by kernel_rfl) (fun _ _ _ h => h) (Or.inl ⟨by rfl, fun W hS => by (obtain ⟨s0, s1⟩ := hS; go_simp)⟩) (HS.out _ HB3.out) ?_
              simp only [Act.put, List.setIfInBounds_toArray, List.set_cons_zero, List.set_cons_succ]
              refine wpAnyH_ready (rs := [12]) (by kernel_rfl) (by simp) ?_
              refine AllReadyH.cons rfl (fun K hK => ?_) AllReadyH.nil
              go_simp
              refine hK.out _ _ (HS.out _ hb4.out.below) (fun _ => ?_)
              clear hK K
              refine wpAnyH_done (by kernel_rfl) ?_ _
              go_wp2_with fail
              exact ⟨⟨p + 1, _, _, by omega, by go_num, hide (by rw [HSU.out]; exact hb4.out)⟩, by simp [intOf]; omega⟩
            · go_simp
              refine hK.out _ _ (HS.out _ hb2.out.below) (fun _ => ?_)
              clear hK K
              refine wpAnyH_ready (rs := [1]) (by kernel_rfl) (by simp) ?_
              refine AllReadyH.cons rfl (fun K hK => ?_) AllReadyH.nil
              go_simp
              refine hK.out _ _ (HS.out _ hb2.out.below) (fun _ => ?_)
              clear hK K
              refine wpAnyH_ready (rs := [10]) (by kernel_rfl) (by simp) ?_
              refine AllReadyH.cons rfl (fun K hK => ?_) AllReadyH.nil
              refine (if_pos (by kernel_rfl)).mpr ?_
              refine wp_append_run happ _ _ rfl rfl rfl ?_
              simp only [Act.put, List.setIfInBounds_toArray, List.set_cons_zero, List.set_cons_succ]
              refine hK.out _ _ (HS.out _ HB3.out) (fun _ => ?_)
              clear hK K
              clear happ
              refine wpAnyH_take (i := 11) (oi := ⟨some 115, _, _, _, _, _⟩) (v := (.pointer (some ⟨M, 2, none⟩))) rfl (by kernel_rfl) (by kernel_rfl) (by kernel_rfl) (fun _ _ _ h => h) (Or.inl ⟨by rfl, fun W hS => by (obtain ⟨s0, s1⟩ := hS; go_simp)⟩) (HS.out _ HB3.out) ?_
              simp only [Act.put, List.setIfInBounds_toArray, List.set_cons_zero, List.set_cons_succ]
              refine wpAnyH_ready (rs := [12]) (by kernel_rfl) (by simp) ?_
              refine AllReadyH.cons rfl (fun K hK => ?_) AllReadyH.nil
              go_simp
              refine hK.out _ _ (HS.out _ hb4.out.below) (fun _ => ?_)
              clear hK K
              refine wpAnyH_done (by kernel_rfl) ?_ _
              go_wp2_with fail
              exact ⟨⟨p + 1, _, _, by omega, by go_num, hide (by rw [HSU.out]; exact hb4.out)⟩, by simp [intOf]; omega⟩
          · have HP : Hid (p = mo.length) := hide (by omega)
            have HBZ : Hid (Bld w1.heap.size w1 wr M (g1 : Int) na2 nc2 oa2 oc2 J (jnO os mo ns.length mo.length)) := hide (by have := hbl.out; rwa [HP.out] at this)
            generalize hJE : jnO os mo ns.length mo.length = JO at *
            have HJO := hide hJE
            clear hJE
            have hR : wr.heap[w.heap.size + 1 + 1]? = some (.cells #[.int .i64 0, .slice none 0 0, .slice none 0 0] 28 (0, 0)) := Below.blk HBZ.out.below HNA.out.2.2.1
            have r0 : wr.cell? ⟨w.heap.size + 1 + 1, 0, none⟩ = some (.int .i64 0) := by rw [blk_cell hR]; rfl
            have r1 : wr.cell? ⟨w.heap.size + 1 + 1, 1, none⟩ = some (.slice none 0 0) := by rw [blk_cell hR]; rfl
            have r2 : wr.cell? ⟨w.heap.size + 1 + 1, 2, none⟩ = some (.slice none 0 0) := by rw [blk_cell hR]; rfl
            have rf : ∀ i, wr.frozen? ⟨w.heap.size + 1 + 1, i, none⟩ = false := fun i => blk_frozen hR i
            have t0 : wr.cell? ⟨M, 0, none⟩ = some (.int .i64 (g1 : Int)) := HBZ.out.net.c0
            have t1 : wr.cell? ⟨M, 1, none⟩ = some (.slice na2 J.length nc2) := HBZ.out.net.c1
            have t2 : wr.cell? ⟨M, 2, none⟩ = some (.slice oa2 JO.length oc2) := HBZ.out.net.c2
            have HNL : Hid (Lies AnyB wr na2 (ndsC J)) := hide HBZ.out.net.nodes
            have hMR : ¬ M = w.heap.size + 1 + 1 := by have := HMG.out; have := HNA.out.2.2.2; omega
            have HKR : Hid (∀ b, w1.heap.size ≤ b → (((wr.setCell ⟨w.heap.size + 1 + 1, 0, none⟩ (.int .i64 (g1 : Int))).setCell ⟨w.heap.size + 1 + 1, 1, none⟩ (.slice na2 J.length nc2)).setCell ⟨w.heap.size + 1 + 1, 2, none⟩ (.slice oa2 JO.length oc2)).heap[b]? = wr.heap[b]?) := hide fun b hb => by
              have hbR : b ≠ w.heap.size + 1 + 1 := by have := HNA.out.2.2.2; omega
              rw [Below.heap_setCell _ ⟨w.heap.size + 1 + 1, 2, none⟩ _ b hbR, Below.heap_setCell _ ⟨w.heap.size + 1 + 1, 1, none⟩ _ b hbR, Below.heap_setCell _ ⟨w.heap.size + 1 + 1, 0, none⟩ _ b hbR]
            have hRl : w.heap.size + 1 + 1 < wr.heap.size := blk_lt hR
            clear hbl hR
            go_wp2_with fail
            refine bodyPost_ret (v := .agg #[.int .i64 (g1 : Int), .slice na2 J.length nc2, .slice oa2 JO.length oc2]) (by simp [results, Try.results16, go_sem, r0, r1, r2]) rfl ⟨⟨na2, oa2, nc2, oc2, by rw [HJE.out, HJO.out], ?_, ?_⟩, ?_⟩
            · rw [HJE.out]
              exact ((HBZ.out.nodes.lies (S := FromB w1.heap.size) fun b hb => HBZ.out.nodes.new b hb).same fun b hS _ => HKR.out b hS).any
            · rw [HJO.out]
              exact ((HBZ.out.outs.lies (S := FromB w1.heap.size) fun b hb => HBZ.out.outs.new b hb).same fun b hS _ => HKR.out b hS).any
            · have hR2 : w.heap.size ≤ w.heap.size + 1 + 1 := by omega
              exact (((Below.step HB0.out HBZ.out.below).setCell hR2 _).setCell hR2 _).setCell hR2 _
end Go.Proofs.Ytlnmemeejgnbeaa
