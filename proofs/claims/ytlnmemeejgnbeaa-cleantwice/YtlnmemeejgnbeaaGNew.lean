/-
  CONTRACT of New.
-/
import Derived.Test.YtlnmemeejgnbeaaGStep
set_option linter.unusedSimpArgs false
set_option linter.unusedVariables false
namespace Go.Proofs.Ytlnmemeejgnbeaa
open Go.RowKit

set_option maxRecDepth 100000 in
set_option maxHeartbeats 1600000 in
theorem new_no {s : NetP} {S : Nat → Prop} {w : World} {given : Int} {ns : List Nd} {os : List Int} (h : NetAt s S w given ns os) (hn : ns.length ≤ 20000) (ho : os.length ≤ 20000) (hr : rightP given ns os = false) :
    Calls Try.prog 10 #[.pointer (some ⟨s.p, 0, none⟩)] w fun e w' => e = .returned (.tuple #[.pointer none, .iface 49 (.int .i64 1)]) ∧ Below w.heap.size w w' := by
  have HC := Right_at h hn ho
  rw [hr] at HC
  have HC := hide HC
  clear h hr
  go_enter Try.func10, Try.ntmps10
  go_wp2_with fail
  refine HC.out.mono ?_
  rintro e w1 ⟨rfl, hb⟩
  have HB := hide hb
  clear hb
  go_wp2_with fail
  go_ret2
  exact ⟨rfl, HB.out⟩

/-- made, of a net -/
def Made (w : World) (ns : List Nd) (os : List Int) (k : Nat) (v : Value) (wx : World) : Prop :=
  ∃ sp : SimP, v = .pointer (some ⟨sp.p, 0, none⟩) ∧ SimAt sp wx w.heap.size wx.heap.size ns os (firstTo ns k) ∧ Below w.heap.size w wx
theorem SimAt.wide {s : SimP} {w : World} {lo hi hi' : Nat} {ns : List Nd} {os : List Int} {held : List Bool} (h : SimAt s w lo hi ns os held) (hh : hi ≤ hi') : SimAt s w lo hi' ns os held :=
  ⟨h.me, h.nodes.imp fun b _ hb => ⟨hb.1, Nat.lt_of_lt_of_le hb.2.1 hh, hb.2.2⟩, h.outs.imp fun b _ hb => ⟨hb.1, Nat.lt_of_lt_of_le hb.2.1 hh, hb.2.2⟩, h.hold, h.len, ⟨h.pin.1, Nat.lt_of_lt_of_le h.pin.2.1 hh, h.pin.2.2⟩, ⟨h.hin.1, Nat.lt_of_lt_of_le h.hin.2 hh⟩⟩
/-- the parts of it, in whatever order they are made -/
structure Parts (w wx : World) (ns : List Nd) (os : List Int) (na oa : Option Addr) (h : Nat) : Prop where
  below : Below w.heap.size w wx
  nodes : Lies (fun b => w.heap.size ≤ b ∧ b ≠ h) wx na (ndsC ns)
  outs : Lies (fun b => w.heap.size ≤ b ∧ b ≠ h) wx oa (intsC os)
  hold : wx.heap[h]? = some (.cells (bitsC (List.replicate ns.length false)).toArray 4 (0, 0))
  new : w.heap.size ≤ h
theorem Parts.made {w wx : World} {ns : List Nd} {os : List Int} {na oa : Option Addr} {h nc oc : Nat} (q : Parts w wx ns os na oa h) :
    Made w ns os 0 (.pointer (some ⟨wx.heap.size, 0, none⟩)) (wx.alloc (.cells #[.slice na ns.length nc, .slice oa os.length oc, .slice (some ⟨h, 0, none⟩) ns.length ns.length] 59)) := by
  have hb := below_alloc wx (.cells #[.slice na ns.length nc, .slice oa os.length oc, .slice (some ⟨h, 0, none⟩) ns.length ns.length] 59)
  have hl := blk_lt q.hold
  have hw := q.below.size
  refine ⟨⟨wx.heap.size, na, nc, oa, oc, h⟩, rfl, ⟨blk_new _ _, ?_, ?_, ?_, firstTo_len _ _, ⟨hw, by simp, by show wx.heap.size ≠ h; omega⟩, ⟨q.new, by simp; omega⟩⟩, Below.step q.below hb⟩
  · exact (q.nodes.imp fun b hb hS => ⟨hS.1, by simp; omega, hS.2⟩).below hb
  · exact (q.outs.imp fun b hb hS => ⟨hS.1, by simp; omega, hS.2⟩).below hb
  · rw [firstTo_zero]; exact Below.blk hb q.hold

set_option maxRecDepth 100000 in
set_option maxHeartbeats 6400000 in
theorem new_at {s : NetP} {S : Nat → Prop} {w : World} {given : Int} {ns : List Nd} {os : List Int} (h : NetAt s S w given ns os) (hr : RightP given ns os) :
    Calls Try.prog 10 #[.pointer (some ⟨s.p, 0, none⟩)] w fun e w' => (∃ sp : SimP, e = .returned (.tuple #[.pointer (some ⟨sp.p, 0, none⟩), .nilIface]) ∧ SimAt sp w' w.heap.size w'.heap.size ns os (first ns)) ∧ Below w.heap.size w w' := by
  have HC := Right_at h hr.n1 hr.o1
  rw [rightP_iff.2 hr] at HC
  have HC := hide HC
  have H := hide h
  have HR := hide hr
  have hn : (ns.length : Int) ≤ 20000 := by have := hr.n1; omega
  have hmk := mk_bits ns.length hr.n1
  clear h hr
  go_enter Try.func10, Try.ntmps10
  go_wp2_with fail
  refine HC.out.mono ?_
  rintro e w1 ⟨rfl, hb⟩
  have HB := hide hb
  clear hb HC
  go_wp2_with fail
  go_cut [4] from 11 to 28 (fun v wx => Made w ns os 0 v wx)
  case first =>
    have HSW : Hid (∀ W, Below w1.heap.size w1 W → W.cell? ⟨s.p, 1, none⟩ = some (.slice s.na ns.length s.nc) ∧ W.cell? ⟨s.p, 2, none⟩ = some (.slice s.oa os.length s.oc)) := hide fun W hb => ⟨((H.out.below HB.out).below hb).c1, ((H.out.below HB.out).below hb).c2⟩
    have HBw2 : Hid (Below w1.heap.size w1 w1.drew) := hide (Below.refl _ _).drew
    refine wp_region_held_drew (S := fun W => W.cell? ⟨s.p, 1, none⟩ = some (.slice s.na ns.length s.nc) ∧ W.cell? ⟨s.p, 2, none⟩ = some (.slice s.oa os.length s.oc)) (by kernel_rfl) (HSW.out _ HBw2.out) (fun _ => ?_)
    generalize w1.drew = w2 at *
    refine wpAnyH_take (i := 0) (oi := ⟨some 11, _, _, _, _, _⟩) (v := (.pointer (some ⟨s.p, 0, none⟩))) rfl (by kernel_rfl) (by kernel_rfl) (by kernel_rfl) (fun _ _ _ h => h) (Or.inl ⟨by rfl, fun W hS => by (obtain ⟨s0, s1⟩ := hS; go_simp)⟩) (HSW.out _ HBw2.out) ?_
    simp only [Act.put, List.setIfInBounds_toArray, List.set_cons_zero, List.set_cons_succ]
    refine wpAnyH_take (i := 1) (oi := ⟨some 12, _, _, _, _, _⟩) (v := (.pointer (some ⟨s.p, 0, none⟩))) rfl (by kernel_rfl) (by kernel_rfl) (by kernel_rfl) (fun _ _ _ h => h) (Or.inl ⟨by rfl, fun W hS => by (obtain ⟨s0, s1⟩ := hS; go_simp)⟩) (HSW.out _ HBw2.out) ?_
    simp only [Act.put, List.setIfInBounds_toArray, List.set_cons_zero, List.set_cons_succ]
    refine wpAnyH_take (i := 2) (oi := ⟨some 13, _, _, _, _, _⟩) (v := (.pointer (some ⟨s.p, 1, none⟩))) rfl (by kernel_rfl) (by kernel_rfl) (by kernel_rfl) (fun _ _ _ h => h) (Or.inl ⟨by rfl, fun W hS => by (obtain ⟨s0, s1⟩ := hS; go_simp)⟩) (HSW.out _ HBw2.out) ?_
    simp only [Act.put, List.setIfInBounds_toArray, List.set_cons_zero, List.set_cons_succ]
    refine wpAnyH_take (i := 3) (oi := ⟨some 14, _, _, _, _, _⟩) (v := (.slice s.na ns.length s.nc)) rfl (by kernel_rfl) (by kernel_rfl) (by kernel_rfl) (fun _ _ _ h => h) (Or.inl ⟨by rfl, fun W hS => by (obtain ⟨s0, s1⟩ := hS; go_simp)⟩) (HSW.out _ HBw2.out) ?_
    simp only [Act.put, List.setIfInBounds_toArray, List.set_cons_zero, List.set_cons_succ]
    refine wpAnyH_take (i := 5) (oi := ⟨some 16, _, _, _, _, _⟩) (v := (.pointer (some ⟨s.p, 0, none⟩))) rfl (by kernel_rfl) (by kernel_rfl) (by kernel_rfl) (fun _ _ _ h => h) (Or.inl ⟨by rfl, fun W hS => by (obtain ⟨s0, s1⟩ := hS; go_simp)⟩) (HSW.out _ HBw2.out) ?_
    simp only [Act.put, List.setIfInBounds_toArray, List.set_cons_zero, List.set_cons_succ]
    refine wpAnyH_take (i := 6) (oi := ⟨some 17, _, _, _, _, _⟩) (v := (.pointer (some ⟨s.p, 0, none⟩))) rfl (by kernel_rfl) (by kernel_rfl) (by kernel_rfl) (fun _ _ _ h => h) (Or.inl ⟨by rfl, fun W hS => by (obtain ⟨s0, s1⟩ := hS; go_simp)⟩) (HSW.out _ HBw2.out) ?_
    simp only [Act.put, List.setIfInBounds_toArray, List.set_cons_zero, List.set_cons_succ]
    refine wpAnyH_take (i := 7) (oi := ⟨some 18, _, _, _, _, _⟩) (v := (.pointer (some ⟨s.p, 2, none⟩))) rfl (by kernel_rfl) (by kernel_rfl) (by kernel_rfl) (fun _ _ _ h => h) (Or.inl ⟨by rfl, fun W hS => by (obtain ⟨s0, s1⟩ := hS; go_simp)⟩) (HSW.out _ HBw2.out) ?_
    simp only [Act.put, List.setIfInBounds_toArray, List.set_cons_zero, List.set_cons_succ]
    refine wpAnyH_take (i := 8) (oi := ⟨some 19, _, _, _, _, _⟩) (v := (.slice s.oa os.length s.oc)) rfl (by kernel_rfl) (by kernel_rfl) (by kernel_rfl) (fun _ _ _ h => h) (Or.inl ⟨by rfl, fun W hS => by (obtain ⟨s0, s1⟩ := hS; go_simp)⟩) (HSW.out _ HBw2.out) ?_
    simp only [Act.put, List.setIfInBounds_toArray, List.set_cons_zero, List.set_cons_succ]
    refine wpAnyH_take (i := 10) (oi := ⟨some 21, _, _, _, _, _⟩) (v := (.pointer (some ⟨s.p, 0, none⟩))) rfl (by kernel_rfl) (by kernel_rfl) (by kernel_rfl) (fun _ _ _ h => h) (Or.inl ⟨by rfl, fun W hS => by (obtain ⟨s0, s1⟩ := hS; go_simp)⟩) (HSW.out _ HBw2.out) ?_
    simp only [Act.put, List.setIfInBounds_toArray, List.set_cons_zero, List.set_cons_succ]
    refine wpAnyH_take (i := 11) (oi := ⟨some 22, _, _, _, _, _⟩) (v := (.pointer (some ⟨s.p, 0, none⟩))) rfl (by kernel_rfl) (by kernel_rfl) (by kernel_rfl) (fun _ _ _ h => h) (Or.inl ⟨by rfl, fun W hS => by (obtain ⟨s0, s1⟩ := hS; go_simp)⟩) (HSW.out _ HBw2.out) ?_
    simp only [Act.put, List.setIfInBounds_toArray, List.set_cons_zero, List.set_cons_succ]
    refine wpAnyH_take (i := 12) (oi := ⟨some 23, _, _, _, _, _⟩) (v := (.pointer (some ⟨s.p, 1, none⟩))) rfl (by kernel_rfl) (by kernel_rfl) (by kernel_rfl) (fun _ _ _ h => h) (Or.inl ⟨by rfl, fun W hS => by (obtain ⟨s0, s1⟩ := hS; go_simp)⟩) (HSW.out _ HBw2.out) ?_
    simp only [Act.put, List.setIfInBounds_toArray, List.set_cons_zero, List.set_cons_succ]
    refine wpAnyH_take (i := 13) (oi := ⟨some 24, _, _, _, _, _⟩) (v := (.slice s.na ns.length s.nc)) rfl (by kernel_rfl) (by kernel_rfl) (by kernel_rfl) (fun _ _ _ h => h) (Or.inl ⟨by rfl, fun W hS => by (obtain ⟨s0, s1⟩ := hS; go_simp)⟩) (HSW.out _ HBw2.out) ?_
    simp only [Act.put, List.setIfInBounds_toArray, List.set_cons_zero, List.set_cons_succ]
    refine wpAnyH_take (i := 14) (oi := ⟨some 25, _, _, _, _, _⟩) (v := (.int .i64 ns.length)) rfl (by kernel_rfl) (by kernel_rfl) (by kernel_rfl) (fun _ _ _ h => h) (Or.inl ⟨by rfl, fun W hS => by (obtain ⟨s0, s1⟩ := hS; go_simp)⟩) (HSW.out _ HBw2.out) ?_
    simp only [Act.put, List.setIfInBounds_toArray, List.set_cons_zero, List.set_cons_succ]
    refine wpAnyH_ready (rs := [4, 15]) (by kernel_rfl) (by simp) ?_
    refine AllReadyH.cons rfl (fun K hK => ?_) (AllReadyH.cons rfl (fun K hK => ?_) AllReadyH.nil)
    · go_simp
      refine (cloneN_at ns s.na s.nc w2 (((H.out.below HB.out).below HBw2.out).nodes) HR.out.n1).mono ?_
      rintro e w3 ⟨⟨na, nc, rfl, hna⟩, hb⟩
      have HNA := hide hna
      have HSw3 := hide hb
      have HBw3 : Hid (Below w1.heap.size w1 w3) := hide (Below.step HBw2.out hb)
      clear hna hb
      refine hK.out _ _ (HSW.out _ HBw3.out) (fun _ => ?_)
      clear hK K
      refine wpAnyH_ready (rs := [9, 15]) (by kernel_rfl) (by simp) ?_
      refine AllReadyH.cons rfl (fun K hK => ?_) (AllReadyH.cons rfl (fun K hK => ?_) AllReadyH.nil)
      · go_simp
        refine (cloneI_at os s.oa s.oc w3 (((H.out.below HB.out).below HBw3.out).outs) HR.out.o1).mono ?_
        rintro e w4 ⟨⟨oa, oc, rfl, hoa⟩, hb⟩
        have HOA := hide hoa
        have HSw4 := hide hb
        have HBw4 : Hid (Below w1.heap.size w1 w4) := hide (Below.step HBw3.out hb)
        clear hoa hb
        refine hK.out _ _ (HSW.out _ HBw4.out) (fun _ => ?_)
        clear hK K
        refine wpAnyH_ready (rs := [15]) (by kernel_rfl) (by simp) ?_
        refine AllReadyH.cons rfl (fun K hK => ?_) AllReadyH.nil
        go_simp
        have HSw5 : Hid (Below w4.heap.size w4 (w4.alloc (.cells (bitsC (List.replicate ns.length false)).toArray 4))) := hide (below_alloc _ _)
        have HBw5 : Hid (Below w1.heap.size w1 (w4.alloc (.cells (bitsC (List.replicate ns.length false)).toArray 4))) := hide (Below.step HBw4.out HSw5.out)
        have HHw5 := hide (blk_new w4 (.cells (bitsC (List.replicate ns.length false)).toArray 4))
        refine hK.out _ _ (HSW.out _ HBw5.out) (fun _ => ?_)
        clear hK K
        generalize w4.alloc (.cells (bitsC (List.replicate ns.length false)).toArray 4) = w5 at *
        refine wpAnyH_take (i := 16) (oi := ⟨some 27, _, _, _, _, _⟩) (v := (.agg #[.slice na ns.length nc, .slice oa os.length oc, .slice (some ⟨w4.heap.size, 0, none⟩) ns.length ns.length])) rfl (by kernel_rfl) (by kernel_rfl) (by kernel_rfl) (fun _ _ _ h => h) (Or.inl ⟨by rfl, fun W hS => by (obtain ⟨s0, s1⟩ := hS; go_simp)⟩) (HSW.out _ HBw5.out) ?_
        simp only [Act.put, List.setIfInBounds_toArray, List.set_cons_zero, List.set_cons_succ]
        refine wpAnyH_ready (rs := [17]) (by kernel_rfl) (by simp) ?_
        refine AllReadyH.cons rfl (fun K hK => ?_) AllReadyH.nil
        go_simp
        refine hK.out _ _ (HSW.out _ ?_) (fun _ => ?_)
        · exact Below.step HBw5.out (below_alloc _ _)
        clear hK K
        refine wpAnyH_take (i := 18) (oi := ⟨some 4, _, _, _, _, _⟩) (v := (.pointer (some ⟨w5.heap.size, 0, none⟩))) rfl (by kernel_rfl) (by kernel_rfl) (by kernel_rfl) (fun _ _ _ h => h) (Or.inl ⟨by rfl, fun W hS => by (obtain ⟨s0, s1⟩ := hS; go_simp)⟩) (HSW.out _ (Below.step HBw5.out (below_alloc _ _))) ?_
        simp only [Act.put, List.setIfInBounds_toArray, List.set_cons_zero, List.set_cons_succ]
        refine wpAnyH_done (by kernel_rfl) ?_ _
        go_wp2_with fail
        go_meet
        case rel =>
          refine Parts.made ⟨Below.step HB.out HBw5.out, ?_, ?_, HHw5.out, ?_⟩
          · exact ((HNA.out.imp fun b hb hS => (⟨Nat.le_trans HB.out.size (Nat.le_trans HBw2.out.size hS), by have := HSw4.out.size; omega⟩ : w.heap.size ≤ b ∧ b ≠ w4.heap.size)).below HSw4.out).below HSw5.out
          · exact (HOA.out.imp fun b hb hS => (⟨Nat.le_trans HB.out.size (Nat.le_trans HBw3.out.size hS), by omega⟩ : w.heap.size ≤ b ∧ b ≠ w4.heap.size)).below HSw5.out
          · exact Nat.le_trans HB.out.size HBw4.out.size
      · go_simp
        have HSw4 : Hid (Below w3.heap.size w3 (w3.alloc (.cells (bitsC (List.replicate ns.length false)).toArray 4))) := hide (below_alloc _ _)
        have HBw4 : Hid (Below w1.heap.size w1 (w3.alloc (.cells (bitsC (List.replicate ns.length false)).toArray 4))) := hide (Below.step HBw3.out HSw4.out)
        have HHw4 := hide (blk_new w3 (.cells (bitsC (List.replicate ns.length false)).toArray 4))
        refine hK.out _ _ (HSW.out _ HBw4.out) (fun _ => ?_)
        clear hK K
        generalize w3.alloc (.cells (bitsC (List.replicate ns.length false)).toArray 4) = w4 at *
        refine wpAnyH_ready (rs := [9]) (by kernel_rfl) (by simp) ?_
        refine AllReadyH.cons rfl (fun K hK => ?_) AllReadyH.nil
        go_simp
        refine (cloneI_at os s.oa s.oc w4 (((H.out.below HB.out).below HBw4.out).outs) HR.out.o1).mono ?_
        rintro e w5 ⟨⟨oa, oc, rfl, hoa⟩, hb⟩
        have HOA := hide hoa
        have HSw5 := hide hb
        have HBw5 : Hid (Below w1.heap.size w1 w5) := hide (Below.step HBw4.out hb)
        clear hoa hb
        refine hK.out _ _ (HSW.out _ HBw5.out) (fun _ => ?_)
        clear hK K
        refine wpAnyH_take (i := 16) (oi := ⟨some 27, _, _, _, _, _⟩) (v := (.agg #[.slice na ns.length nc, .slice oa os.length oc, .slice (some ⟨w3.heap.size, 0, none⟩) ns.length ns.length])) rfl (by kernel_rfl) (by kernel_rfl) (by kernel_rfl) (fun _ _ _ h => h) (Or.inl ⟨by rfl, fun W hS => by (obtain ⟨s0, s1⟩ := hS; go_simp)⟩) (HSW.out _ HBw5.out) ?_
        simp only [Act.put, List.setIfInBounds_toArray, List.set_cons_zero, List.set_cons_succ]
        refine wpAnyH_ready (rs := [17]) (by kernel_rfl) (by simp) ?_
        refine AllReadyH.cons rfl (fun K hK => ?_) AllReadyH.nil
        go_simp
        refine hK.out _ _ (HSW.out _ ?_) (fun _ => ?_)
        · exact Below.step HBw5.out (below_alloc _ _)
        clear hK K
        refine wpAnyH_take (i := 18) (oi := ⟨some 4, _, _, _, _, _⟩) (v := (.pointer (some ⟨w5.heap.size, 0, none⟩))) rfl (by kernel_rfl) (by kernel_rfl) (by kernel_rfl) (fun _ _ _ h => h) (Or.inl ⟨by rfl, fun W hS => by (obtain ⟨s0, s1⟩ := hS; go_simp)⟩) (HSW.out _ (Below.step HBw5.out (below_alloc _ _))) ?_
        simp only [Act.put, List.setIfInBounds_toArray, List.set_cons_zero, List.set_cons_succ]
        refine wpAnyH_done (by kernel_rfl) ?_ _
        go_wp2_with fail
        go_meet
        case rel =>
          refine Parts.made ⟨Below.step HB.out HBw5.out, ?_, ?_, Below.blk HSw5.out HHw4.out, ?_⟩
          · exact ((HNA.out.imp fun b hb hS => (⟨Nat.le_trans HB.out.size (Nat.le_trans HBw2.out.size hS), by omega⟩ : w.heap.size ≤ b ∧ b ≠ w3.heap.size)).below HSw4.out).below HSw5.out
          · exact HOA.out.imp fun b hb hS => (⟨Nat.le_trans HB.out.size (Nat.le_trans HBw4.out.size hS), by have h1 := blk_lt HHw4.out; have h2 : w4.heap.size ≤ b := hS; omega⟩ : w.heap.size ≤ b ∧ b ≠ w3.heap.size)
          · exact Nat.le_trans HB.out.size HBw3.out.size
    · go_simp
      have HSw3 : Hid (Below w2.heap.size w2 (w2.alloc (.cells (bitsC (List.replicate ns.length false)).toArray 4))) := hide (below_alloc _ _)
      have HBw3 : Hid (Below w1.heap.size w1 (w2.alloc (.cells (bitsC (List.replicate ns.length false)).toArray 4))) := hide (Below.step HBw2.out HSw3.out)
      have HHw3 := hide (blk_new w2 (.cells (bitsC (List.replicate ns.length false)).toArray 4))
      refine hK.out _ _ (HSW.out _ HBw3.out) (fun _ => ?_)
      clear hK K
      generalize w2.alloc (.cells (bitsC (List.replicate ns.length false)).toArray 4) = w3 at *
      refine wpAnyH_ready (rs := [4]) (by kernel_rfl) (by simp) ?_
      refine AllReadyH.cons rfl (fun K hK => ?_) AllReadyH.nil
      go_simp
      refine (cloneN_at ns s.na s.nc w3 (((H.out.below HB.out).below HBw3.out).nodes) HR.out.n1).mono ?_
      rintro e w4 ⟨⟨na, nc, rfl, hna⟩, hb⟩
      have HNA := hide hna
      have HSw4 := hide hb
      have HBw4 : Hid (Below w1.heap.size w1 w4) := hide (Below.step HBw3.out hb)
      clear hna hb
      refine hK.out _ _ (HSW.out _ HBw4.out) (fun _ => ?_)
      clear hK K
      refine wpAnyH_ready (rs := [9]) (by kernel_rfl) (by simp) ?_
      refine AllReadyH.cons rfl (fun K hK => ?_) AllReadyH.nil
      go_simp
      refine (cloneI_at os s.oa s.oc w4 (((H.out.below HB.out).below HBw4.out).outs) HR.out.o1).mono ?_
      rintro e w5 ⟨⟨oa, oc, rfl, hoa⟩, hb⟩
      have HOA := hide hoa
      have HSw5 := hide hb
      have HBw5 : Hid (Below w1.heap.size w1 w5) := hide (Below.step HBw4.out hb)
      clear hoa hb
      refine hK.out _ _ (HSW.out _ HBw5.out) (fun _ => ?_)
      clear hK K
      refine wpAnyH_take (i := 16) (oi := ⟨some 27, _, _, _, _, _⟩) (v := (.agg #[.slice na ns.length nc, .slice oa os.length oc, .slice (some ⟨w2.heap.size, 0, none⟩) ns.length ns.length])) rfl (by kernel_rfl) (by kernel_rfl) (by kernel_rfl) (fun _ _ _ h => h) (Or.inl ⟨by rfl, fun W hS => by (obtain ⟨s0, s1⟩ := hS; go_simp)⟩) (HSW.out _ HBw5.out) ?_
      simp only [Act.put, List.setIfInBounds_toArray, List.set_cons_zero, List.set_cons_succ]
      refine wpAnyH_ready (rs := [17]) (by kernel_rfl) (by simp) ?_
      refine AllReadyH.cons rfl (fun K hK => ?_) AllReadyH.nil
      go_simp
      refine hK.out _ _ (HSW.out _ ?_) (fun _ => ?_)
      · exact Below.step HBw5.out (below_alloc _ _)
      clear hK K
      refine wpAnyH_take (i := 18) (oi := ⟨some 4, _, _, _, _, _⟩) (v := (.pointer (some ⟨w5.heap.size, 0, none⟩))) rfl (by kernel_rfl) (by kernel_rfl) (by kernel_rfl) (fun _ _ _ h => h) (Or.inl ⟨by rfl, fun W hS => by (obtain ⟨s0, s1⟩ := hS; go_simp)⟩) (HSW.out _ (Below.step HBw5.out (below_alloc _ _))) ?_
      simp only [Act.put, List.setIfInBounds_toArray, List.set_cons_zero, List.set_cons_succ]
      refine wpAnyH_done (by kernel_rfl) ?_ _
      go_wp2_with fail
      go_meet
      case rel =>
        refine Parts.made ⟨Below.step HB.out HBw5.out, ?_, ?_, Below.blk HSw5.out (Below.blk HSw4.out HHw3.out), ?_⟩
        · exact (HNA.out.imp fun b hb hS => (⟨Nat.le_trans HB.out.size (Nat.le_trans HBw3.out.size hS), by have h1 := blk_lt HHw3.out; have h2 : w3.heap.size ≤ b := hS; omega⟩ : w.heap.size ≤ b ∧ b ≠ w2.heap.size)).below HSw5.out
        · exact HOA.out.imp fun b hb hS => (⟨Nat.le_trans HB.out.size (Nat.le_trans HBw4.out.size hS), by have h1 := blk_lt (Below.blk HSw4.out HHw3.out); have h2 : w4.heap.size ≤ b := hS; omega⟩ : w.heap.size ≤ b ∧ b ≠ w2.heap.size)
        · exact Nat.le_trans HB.out.size HBw2.out.size
  case rest =>
    obtain ⟨sp, rfl, hs, hb⟩ := hcut
    have HS := hide hs
    have HB2 := hide hb
    clear hs hb
    have m0 : wc.cell? ⟨sp.p, 0, none⟩ = some (.slice sp.na ns.length sp.nc) := by rw [blk_cell HS.out.me]; rfl
    go_wp2_with fail
    clear m0
    go_loopw [5, 6, 34] (fun _ _ i wr => ∃ k : Nat, k ≤ ns.length ∧ i = .int .i64 k ∧ Hid (SimAt sp wr w.heap.size wc.heap.size ns os (firstTo ns k)) ∧ Hid (Below w.heap.size w wr) ∧ Hid (wc.heap.size ≤ wr.heap.size)) (fun _ _ i _ => ns.length - (intOf i).toNat)
    case atStart => exact ⟨0, Nat.zero_le _, rfl, HS, HB2, hide (Nat.le_refl _)⟩
    case round =>
      obtain ⟨k, hk, rfl, hs, hb, hz⟩ := hrel
      by_cases hlt : k < ns.length
      · have hki : (k : Int) < (ns.length : Int) := by omega
        obtain ⟨b, off, ha, _, hbl, n0, n1, n2, n3⟩ := hs.out.nodes.nodes hlt
        have HA := hide ha
        rw [HA.out]
        clear ha hbl
        generalize hnd : ndAt ns k = x at n0 n1 n2 n3
        have HND := hide hnd
        clear hnd
        obtain ⟨op, a, bb, nx⟩ := x
        simp only at n0 n1 n2 n3
        have HB1 : Hid (Below wr.heap.size wr (wr.alloc (.cells #[.int .i64 op, .int .i64 a, .int .i64 bb, .int .i64 nx] 26))) := hide (below_alloc _ _)
        have x0 : (wr.alloc (.cells #[.int .i64 op, .int .i64 a, .int .i64 bb, .int .i64 nx] 26)).cell? ⟨wr.heap.size, 0, none⟩ = some (.int .i64 op) := by rw [blk_cell (blk_new _ _)]; rfl
        have x1 : (wr.alloc (.cells #[.int .i64 op, .int .i64 a, .int .i64 bb, .int .i64 nx] 26)).cell? ⟨wr.heap.size, 1, none⟩ = some (.int .i64 a) := by rw [blk_cell (blk_new _ _)]; rfl
        have m2 : (wr.alloc (.cells #[.int .i64 op, .int .i64 a, .int .i64 bb, .int .i64 nx] 26)).cell? ⟨sp.p, 2, none⟩ = some (.slice (some ⟨sp.h, 0, none⟩) ns.length ns.length) := by rw [blk_cell (Below.blk HB1.out hs.out.me)]; rfl
        have mh : (wr.alloc (.cells #[.int .i64 op, .int .i64 a, .int .i64 bb, .int .i64 nx] 26)).cell? ⟨sp.h, k, none⟩ = some (.bool (bit (firstTo ns k) k)) := bits_cell (Below.blk HB1.out hs.out.hold) (by rw [firstTo_len]; exact hlt)
        have mz : (wr.alloc (.cells #[.int .i64 op, .int .i64 a, .int .i64 bb, .int .i64 nx] 26)).frozen? ⟨sp.h, k, none⟩ = false := blk_frozen (Below.blk HB1.out hs.out.hold) k
        have hsl : sp.h < wr.heap.size := blk_lt hs.out.hold
        have hpl : sp.p < wr.heap.size := blk_lt hs.out.me
        have HHI : Hid (w.heap.size ≤ sp.h) := hide hs.out.hin.1
        have HST : Hid (∀ v, firstOf (ndAt ns k) = v → SimAt sp (wr.setCell ⟨sp.h, k, none⟩ (.bool v)) w.heap.size wc.heap.size ns os (firstTo ns (k + 1))) := hide (by
          intro v hv
          refine hs.out.turned (Kept.set _ _ _) ?_ (firstTo_len _ _)
          rw [blk_set hs.out.hold, bits_set, ← hv, firstTo_set])
        by_cases hop : op = 4
        · subst hop
          have HV : Hid (firstOf (ndAt ns k) = (a == 1)) := hide (by rw [HND.out]; rfl)
          go_wp2_with fail
          go_region
          all_goals go_wp2_with fail
          all_goals exact ⟨⟨k + 1, by omega, by go_num, hide ((HST.out _ HV.out).below (below_alloc _ _).drew), hide (Below.step (hb.out.setCell HHI.out _) (below_alloc _ _).drew), hide (by have := hz.out; simp; omega)⟩, by simp [intOf]; omega⟩
        · have hopb : (op == 4) = false := beq_eq_false_iff_ne.2 hop
          have HV : Hid (firstOf (ndAt ns k) = false) := hide (by rw [HND.out]; simp [firstOf, hop])
          go_wp2_with fail
          go_region
          all_goals go_wp2_with fail
          all_goals exact ⟨⟨k + 1, by omega, by go_num, hide ((HST.out _ HV.out).below (below_alloc _ _).drew), hide (Below.step (hb.out.setCell HHI.out _) (below_alloc _ _).drew), hide (by have := hz.out; simp; omega)⟩, by simp [intOf]; omega⟩
      · have HJ : Hid (k = ns.length) := hide (by omega)
        go_wp2_with fail
        go_ret2
        refine ⟨⟨sp, rfl, ?_⟩, hb.out⟩
        have := hs.out
        rw [HJ.out] at this
        exact this.wide hz.out
end Go.Proofs.Ytlnmemeejgnbeaa
