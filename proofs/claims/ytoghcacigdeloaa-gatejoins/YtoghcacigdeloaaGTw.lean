/-
  THE LAW GateTwice, its walk.
-/
import Derived.Test.YtoghcacigdeloaaGBld
set_option linter.unusedSimpArgs false
set_option linter.unusedVariables false
namespace Go.Proofs.Ytoghcacigdeloaa
open Go.RowKit

theorem equal_is {S T : Nat → Prop} (l m : List Bool) (n k : Nat) (hln : l.length = n) (hmk : m.length = k) (ao bo : Option Addr) (ac bc : Nat) (w : World) (hl : Lies S w ao (bitsC l)) (hm : Lies T w bo (bitsC m)) (hn : n ≤ 100000) (he : l = m) :
    Calls Try.prog 11 #[.slice ao n ac, .slice bo k bc] w fun e w' => e = .returned (.bool true) ∧ Below w.heap.size w w' := by
  subst hln hmk
  exact equal_at l m ao bo ac bc w hl hm (by omega) (by rw [← he]; omega) he
theorem step_is {s : SimP} {w : World} {lo hi : Nat} {given : Int} {ns : List Nd} {os : List Int} {held g : List Bool} (h : SimAt s w lo hi ns os held) (hr : RightP given ns os) (n : Nat) (hgn : g.length = n) (ga : Option Addr) (gc : Nat) (hg : Lies AnyB w ga (bitsC g)) (hgl : n ≤ 20000) :
    Calls Try.prog 10 #[.pointer (some ⟨s.p, 0, none⟩), .slice ga n gc] w fun e w' => (∃ O, e = .returned (.slice (some ⟨O, 0, none⟩) os.length os.length) ∧ w.heap.size ≤ O ∧ w'.heap[O]? = some (.cells (bitsC (outs (vals g held ns) os)).toArray 4 (0, 0))) ∧ SimAt s w' lo hi ns os (heldNext (vals g held ns) held ns) ∧ Kept s.h w w' := by
  subst hgn
  exact step_at h hr ga gc hg (by omega)
theorem wp_append_run2 {P : Program} {o : Oper} {a : Act} {w w' : World} {K : Act → World → Prop} {Q : Exit → Act → World → Prop} {v x v' : Value} {t u : TypeId} (hr : (Builtin.append_ #[t, u] o.type #[v, x]).run P w = .ok v' w') (so xo : Operand) (ho : o.op = .call { callee := .builtin .append, args := #[so, xo], argTypes := #[t, u] }) (hs : a.eval so = v) (hx : a.eval xo = x) (h : K (a.put o.dst v') w') : Oper.wp P o a w K Q := by
  unfold Oper.wp execOp
  simp only [ho, resolve, invoke, builtin, Sem.run_bind, Sem.run_pure, Result.andThen_ok, List.map_toArray, List.map_cons, List.map_nil, hs, hx, hr]
  exact h
theorem outs_len (v : List Bool) (os : List Int) : (outs v os).length = os.length := by simp [outs]

set_option maxRecDepth 100000 in
set_option maxHeartbeats 6400000 in
theorem tw_big (given : Int) (ns : List Nd) (os : List Int) (na oa ga : Option Addr) (nc oc gc : Nat) (A : Nat → Option Addr) (C : Nat → Nat) (gs : List (List Bool)) (w : World) (hs : smallP given ns.length os.length = false) :
    Calls Try.prog 3 #[.agg #[.int .i64 given, .slice na ns.length nc, .slice oa os.length oc], .slice ga gs.length gc] w fun e w' => e = .returned (.bool true) ∧ Below w.heap.size w w' := by
  go_enter Try.func3, Try.ntmps3
  go_wp2_with fail
  refine (small_at given na oa ns.length nc os.length oc _).mono ?_
  rintro e w2 ⟨rfl, hb⟩
  have HB2 := hide (Below.step (below_alloc w _) hb)
  clear hb
  rw [hs]
  clear hs
  go_wp2_with fail
  go_ret
  exact ⟨rfl, HB2.out⟩

set_option maxRecDepth 100000 in
set_option maxHeartbeats 6400000 in
theorem tw_long (given : Int) (ns : List Nd) (os : List Int) (na oa ga : Option Addr) (nc oc gc : Nat) (A : Nat → Option Addr) (C : Nat → Nat) (gs : List (List Bool)) (w : World) (hs : smallP given ns.length os.length = true) (h20 : (20 : Int) < (gs.length : Int)) :
    Calls Try.prog 3 #[.agg #[.int .i64 given, .slice na ns.length nc, .slice oa os.length oc], .slice ga gs.length gc] w fun e w' => e = .returned (.bool true) ∧ Below w.heap.size w w' := by
  go_enter Try.func3, Try.ntmps3
  go_wp2_with fail
  refine (small_at given na oa ns.length nc os.length oc _).mono ?_
  rintro e w2 ⟨rfl, hb⟩
  have HB2 := hide (Below.step (below_alloc w _) hb)
  clear hb
  rw [hs]
  clear hs
  go_wp2_with fail
  go_ret
  exact ⟨rfl, HB2.out⟩

set_option maxRecDepth 100000 in
set_option maxHeartbeats 6400000 in
theorem tw_wrong (given : Int) (ns : List Nd) (os : List Int) (na oa ga : Option Addr) (nc oc gc : Nat) (A : Nat → Option Addr) (C : Nat → Nat) (gs : List (List Bool)) (w : World) (hn : Lies AnyB w na (ndsC ns)) (ho : Lies AnyB w oa (intsC os)) (hs : smallP given ns.length os.length = true) (h20 : (gs.length : Int) ≤ 20) (hr : rightP given ns os = false) :
    Calls Try.prog 3 #[.agg #[.int .i64 given, .slice na ns.length nc, .slice oa os.length oc], .slice ga gs.length gc] w fun e w' => e = .returned (.bool true) ∧ Below w.heap.size w w' := by
  have HP1 := hide (blk_new w (.cells #[.int .i64 given, .slice na ns.length nc, .slice oa os.length oc] 25))
  have HB1 := hide (below_alloc w (.cells #[.int .i64 given, .slice na ns.length nc, .slice oa os.length oc] 25))
  have HN1 : Hid (NetAt ⟨w.heap.size, na, nc, oa, oc⟩ AnyB (w.alloc (.cells #[.int .i64 given, .slice na ns.length nc, .slice oa os.length oc] 25)) given ns os) := hide ⟨HP1.out, hn.below HB1.out, ho.below HB1.out⟩
  have h60 : ns.length ≤ 60 ∧ os.length ≤ 30 ∧ given ≤ 200 := by simp [smallP] at hs; omega
  have H60 := hide h60
  clear hn ho h60
  go_enter Try.func3, Try.ntmps3
  go_wp2_with fail
  refine (small_at given na oa ns.length nc os.length oc _).mono ?_
  rintro e w2 ⟨rfl, hb⟩
  rw [hs]
  have HN2 := hide (HN1.out.below hb)
  have HP2 := hide (Below.step HB1.out hb)
  have HW2 : Hid (w.heap.size < w2.heap.size) := hide (blk_lt HN2.out.me)
  clear hb hs HN1 HB1 HP1
  go_wp2_with fail
  refine (netted_at _).mono ?_
  rintro e w3 ⟨rfl, hb⟩
  have HN3 := hide (HN2.out.below hb)
  have HB3 := hide (Below.step HP2.out hb)
  have HZ3 : Hid (w2.heap.size ≤ w3.heap.size) := hide hb.size
  clear hb HN2 HP2
  go_wp2_with fail
  refine (Right_at HN3.out (by have := H60.out; omega) (by have := H60.out; omega)).mono ?_
  rintro e w4 ⟨rfl, hb⟩
  rw [hr]
  have HN := hide (HN3.out.below hb)
  have HB := hide (Below.step HB3.out hb)
  have HPW : Hid (w.heap.size < w4.heap.size) := hide (blk_lt HN.out.me)
  clear hb HN3 HB3 HZ3 HW2 hr
  go_wp2_with fail
  go_ret
  exact ⟨rfl, HB.out⟩

set_option maxRecDepth 100000 in
set_option maxHeartbeats 6400000 in
theorem tw_right_at (given : Int) (ns : List Nd) (os : List Int) (na oa ga : Option Addr) (nc oc gc : Nat) (A : Nat → Option Addr) (C : Nat → Nat) (gs : List (List Bool)) (w : World) (hn : Lies AnyB w na (ndsC ns)) (ho : Lies AnyB w oa (intsC os)) (hgr : Grid w ga A C gs) (hs : smallP given ns.length os.length = true) (h20 : (gs.length : Int) ≤ 20) (hr : rightP given ns os = true) :
    Calls Try.prog 3 #[.agg #[.int .i64 given, .slice na ns.length nc, .slice oa os.length oc], .slice ga gs.length gc] w fun e w' => e = .returned (.bool true) ∧ Below w.heap.size w w' := by
  have HRP := hide (rightP_iff.1 hr)
  have HGR := hide hgr
  clear hgr
  have HP1 := hide (blk_new w (.cells #[.int .i64 given, .slice na ns.length nc, .slice oa os.length oc] 25))
  have HB1 := hide (below_alloc w (.cells #[.int .i64 given, .slice na ns.length nc, .slice oa os.length oc] 25))
  have HN1 : Hid (NetAt ⟨w.heap.size, na, nc, oa, oc⟩ AnyB (w.alloc (.cells #[.int .i64 given, .slice na ns.length nc, .slice oa os.length oc] 25)) given ns os) := hide ⟨HP1.out, hn.below HB1.out, ho.below HB1.out⟩
  have h60 : ns.length ≤ 60 ∧ os.length ≤ 30 ∧ given ≤ 200 := by simp [smallP] at hs; omega
  have H60 := hide h60
  clear hn ho h60
  go_enter Try.func3, Try.ntmps3
  go_wp2_with fail
  refine (small_at given na oa ns.length nc os.length oc _).mono ?_
  rintro e w2 ⟨rfl, hb⟩
  rw [hs]
  have HN2 := hide (HN1.out.below hb)
  have HP2 := hide (Below.step HB1.out hb)
  have HW2 : Hid (w.heap.size < w2.heap.size) := hide (blk_lt HN2.out.me)
  clear hb hs HN1 HB1 HP1
  go_wp2_with fail
  refine (netted_at _).mono ?_
  rintro e w3 ⟨rfl, hb⟩
  have HN3 := hide (HN2.out.below hb)
  have HB3 := hide (Below.step HP2.out hb)
  have HZ3 : Hid (w2.heap.size ≤ w3.heap.size) := hide hb.size
  clear hb HN2 HP2
  go_wp2_with fail
  refine (Right_at HN3.out (by have := H60.out; omega) (by have := H60.out; omega)).mono ?_
  rintro e w4 ⟨rfl, hb⟩
  rw [hr]
  have HN := hide (HN3.out.below hb)
  have HB := hide (Below.step HB3.out hb)
  have HPW : Hid (w.heap.size < w4.heap.size) := hide (blk_lt HN.out.me)
  clear hb HN3 HB3 HZ3 HW2 hr
  obtain ⟨gv, hgv⟩ := Int.eq_ofNat_of_zero_le HRP.out.g0
  subst hgv
  have hgv2 : gv ≤ 200 := by have := H60.out.2.2; omega
  go_wp2_with fail
  go_cut [5] from 28 to 34 (fun v wx => ∃ M na' nc', v = .pointer (some ⟨M, 0, none⟩) ∧ Bld w4.heap.size w4 wx M gv na' nc' none 0 ns [])
  case first =>
    have HSW : Hid (∀ W, Below w4.heap.size w4 W → W.cell? ⟨w.heap.size, 0, none⟩ = some (.int .i64 gv) ∧ W.cell? ⟨w.heap.size, 1, none⟩ = some (.slice na ns.length nc)) := hide fun W hb => ⟨(HN.out.below hb).c0, (HN.out.below hb).c1⟩
    have HBx1 : Hid (Below w4.heap.size w4 w4.drew) := hide (Below.refl _ _).drew
    refine wp_region_held_drew (S := fun W => W.cell? ⟨w.heap.size, 0, none⟩ = some (.int .i64 gv) ∧ W.cell? ⟨w.heap.size, 1, none⟩ = some (.slice na ns.length nc)) (by kernel_rfl) (HSW.out _ HBx1.out) (fun _ => ?_)
    generalize w4.drew = x1 at *
    refine wpAnyH_take (i := 0) (oi := ⟨some 28, _, _, _, _, _⟩) (v := (.pointer (some ⟨w.heap.size, 0, none⟩))) rfl (by kernel_rfl) (by kernel_rfl) (by kernel_rfl) (fun _ _ _ h => h) (Or.inl ⟨by rfl, fun W hS => by (obtain ⟨s0, s1⟩ := hS; go_simp)⟩) (HSW.out _ HBx1.out) ?_
    simp only [Act.put, List.setIfInBounds_toArray, List.set_cons_zero, List.set_cons_succ]
    refine wpAnyH_take (i := 1) (oi := ⟨some 29, _, _, _, _, _⟩) (v := (.int .i64 gv)) rfl (by kernel_rfl) (by kernel_rfl) (by kernel_rfl) (fun _ _ _ h => h) (Or.inl ⟨by rfl, fun W hS => by (obtain ⟨s0, s1⟩ := hS; go_simp)⟩) (HSW.out _ HBx1.out) ?_
    simp only [Act.put, List.setIfInBounds_toArray, List.set_cons_zero, List.set_cons_succ]
    refine wpAnyH_take (i := 3) (oi := ⟨some 31, _, _, _, _, _⟩) (v := (.pointer (some ⟨w.heap.size, 1, none⟩))) rfl (by kernel_rfl) (by kernel_rfl) (by kernel_rfl) (fun _ _ _ h => h) (Or.inl ⟨by rfl, fun W hS => by (obtain ⟨s0, s1⟩ := hS; go_simp)⟩) (HSW.out _ HBx1.out) ?_
    simp only [Act.put, List.setIfInBounds_toArray, List.set_cons_zero, List.set_cons_succ]
    refine wpAnyH_take (i := 4) (oi := ⟨some 32, _, _, _, _, _⟩) (v := (.slice na ns.length nc)) rfl (by kernel_rfl) (by kernel_rfl) (by kernel_rfl) (fun _ _ _ h => h) (Or.inl ⟨by rfl, fun W hS => by (obtain ⟨s0, s1⟩ := hS; go_simp)⟩) (HSW.out _ HBx1.out) ?_
    simp only [Act.put, List.setIfInBounds_toArray, List.set_cons_zero, List.set_cons_succ]
    refine wpAnyH_ready (rs := [2, 7]) (by kernel_rfl) (by simp) ?_
    refine AllReadyH.cons rfl (fun K hK => ?_) (AllReadyH.cons rfl (fun K hK => ?_) AllReadyH.nil)
    · go_simp
      have HTx2 : Hid (Below x1.heap.size x1 (x1.alloc (.cells #[] 30))) := hide (below_alloc _ _)
      have HBx2 : Hid (Below w4.heap.size w4 (x1.alloc (.cells #[] 30))) := hide (Below.step HBx1.out HTx2.out)
      have HEx2 := hide (blk_new x1 (.cells #[] 30))
      refine hK.out _ _ (HSW.out _ HBx2.out) (fun _ => ?_)
      clear hK K
      generalize x1.alloc (.cells #[] 30) = x2 at *
      refine wpAnyH_ready (rs := [5, 7]) (by kernel_rfl) (by simp) ?_
      refine AllReadyH.cons rfl (fun K hK => ?_) (AllReadyH.cons rfl (fun K hK => ?_) AllReadyH.nil)
      · have HE := HEx2
        have HEN : Hid (w4.heap.size ≤ x1.heap.size) := hide HBx1.out.size
        obtain ⟨na', nc', x3, happ, hm, hg, hnb⟩ := app_nd (c := nc) (n' := ns.length) (Mine.empty (size := 4) HE.out) (l := []) rfl (new := ns) rfl (by omega) ((HN.out.below HBx2.out).nodes) (Nat.le_of_lt (blk_lt HE.out)) (by have := H60.out; omega)
        have HMN := hide hm
        have HG := hide hg
        have HNB := hide hnb
        clear hm hg hnb
        have HBx3 : Hid (Below w4.heap.size w4 x3) := hide (Below.grownOn HBx2.out HG.out (fun b hb => by simp [Value.ownBlock] at hb; subst hb; exact HEN.out) HBx2.out.size)
        refine (if_pos (by kernel_rfl)).mpr ?_
        refine wp_append_run happ _ _ rfl rfl rfl ?_
        simp only [Act.put, List.setIfInBounds_toArray, List.set_cons_zero, List.set_cons_succ]
        refine hK.out _ _ (HSW.out _ HBx3.out) (fun _ => ?_)
        clear hK K
        clear happ
        refine wpAnyH_take (i := 6) (oi := ⟨some 34, _, _, _, _, _⟩) (v := (.agg #[.int .i64 gv, .slice na' ns.length nc', .slice none 0 0])) rfl (by kernel_rfl) (by kernel_rfl) (by kernel_rfl) (fun _ _ _ h => h) (Or.inl ⟨by rfl, fun W hS => by (obtain ⟨s0, s1⟩ := hS; go_simp)⟩) (HSW.out _ HBx3.out) ?_
        simp only [Act.put, List.setIfInBounds_toArray, List.set_cons_zero, List.set_cons_succ]
        refine wpAnyH_ready (rs := [7]) (by kernel_rfl) (by simp) ?_
        refine AllReadyH.cons rfl (fun K hK => ?_) AllReadyH.nil
        go_simp
        have HTx4 : Hid (Below x3.heap.size x3 (x3.alloc (.cells #[.int .i64 0, .slice none 0 0, .slice none 0 0] 25))) := hide (below_alloc _ _)
        have HBx4 : Hid (Below w4.heap.size w4 (x3.alloc (.cells #[.int .i64 0, .slice none 0 0, .slice none 0 0] 25))) := hide (Below.step HBx3.out HTx4.out)
        have HMx4 := hide (blk_new x3 (.cells #[.int .i64 0, .slice none 0 0, .slice none 0 0] 25))
        refine hK.out _ _ (HSW.out _ HBx4.out) (fun _ => ?_)
        clear hK K
        generalize x3.alloc (.cells #[.int .i64 0, .slice none 0 0, .slice none 0 0] 25) = x4 at *
        have HMM := HMx4
        have HMG : Hid (w4.heap.size ≤ x3.heap.size) := hide HBx3.out.size
        have HDN : Hid (∀ b, (Value.slice na' ns.length nc').ownBlock = some b → b ≠ x3.heap.size) := hide fun b hb e => by have := HMN.out.lt hb; omega
        have HMN := hide (HMN.out.below HTx4.out)
        have k0 : x4.cell? ⟨x3.heap.size, 0, none⟩ = some (.int .i64 0) := by rw [blk_cell HMM.out]; rfl
        have k1 : x4.cell? ⟨x3.heap.size, 1, none⟩ = some (.slice none 0 0) := by rw [blk_cell HMM.out]; rfl
        have k2 : x4.cell? ⟨x3.heap.size, 2, none⟩ = some (.slice none 0 0) := by rw [blk_cell HMM.out]; rfl
        have kf : ∀ i, x4.frozen? ⟨x3.heap.size, i, none⟩ = false := fun i => blk_frozen HMM.out i
        refine wpAnyH_ready (rs := [8]) (by kernel_rfl) (by simp) ?_
        refine AllReadyH.cons rfl (fun K hK => ?_) AllReadyH.nil
        go_simp
        have HBS : Hid (Below w4.heap.size w4 (((x4.setCell ⟨x3.heap.size, 0, none⟩ (.int .i64 gv)).setCell ⟨x3.heap.size, 1, none⟩ (.slice na' ns.length nc')).setCell ⟨x3.heap.size, 2, none⟩ (.slice none 0 0))) := hide (((HBx4.out.setCell HMG.out _).setCell HMG.out _).setCell HMG.out _)
        have HME := hide (blk_set3 HMM.out (.int .i64 gv) (.slice na' ns.length nc') (.slice none 0 0))
        refine hK.out _ _ (HSW.out _ HBS.out) (fun _ => ?_)
        clear hK K
        refine wpAnyH_done (by kernel_rfl) ?_ _
        go_wp2_with fail
        go_meet
        case rel =>
          refine ⟨x3.heap.size, na', nc', rfl, HBS.out, HME.out, ?_, Mine.none _, HDN.out, (fun b hb => by cases hb), (fun b hb hc => by cases hc), HMG.out, HBS.out.size⟩
          refine (HMN.out.same fun b hb _ => ?_).from HEN.out
          have hbM : b ≠ x3.heap.size := HDN.out b hb
          rw [Below.heap_setCell _ ⟨x3.heap.size, 2, none⟩ _ b hbM, Below.heap_setCell _ ⟨x3.heap.size, 1, none⟩ _ b hbM, Below.heap_setCell _ ⟨x3.heap.size, 0, none⟩ _ b hbM]
      · go_simp
        have HTx3 : Hid (Below x2.heap.size x2 (x2.alloc (.cells #[.int .i64 0, .slice none 0 0, .slice none 0 0] 25))) := hide (below_alloc _ _)
        have HBx3 : Hid (Below w4.heap.size w4 (x2.alloc (.cells #[.int .i64 0, .slice none 0 0, .slice none 0 0] 25))) := hide (Below.step HBx2.out HTx3.out)
        have HMx3 := hide (blk_new x2 (.cells #[.int .i64 0, .slice none 0 0, .slice none 0 0] 25))
        refine hK.out _ _ (HSW.out _ HBx3.out) (fun _ => ?_)
        clear hK K
        generalize x2.alloc (.cells #[.int .i64 0, .slice none 0 0, .slice none 0 0] 25) = x3 at *
        have HE := hide (Below.blk HTx3.out HEx2.out)
        have HEN : Hid (w4.heap.size ≤ x1.heap.size) := hide HBx1.out.size
        have HX12 : Hid (x1.heap.size < x2.heap.size) := hide (blk_lt HEx2.out)
        have HX23 : Hid (x2.heap.size < x3.heap.size) := hide (blk_lt HMx3.out)
        obtain ⟨na', nc', x4, happ, hm, hg, hnb⟩ := app_nd (c := nc) (n' := ns.length) (Mine.empty (size := 4) HE.out) (l := []) rfl (new := ns) rfl (by omega) ((HN.out.below HBx3.out).nodes) (Nat.le_of_lt (blk_lt HE.out)) (by have := H60.out; omega)
        have HMN := hide hm
        have HG := hide hg
        have HNB := hide hnb
        clear hm hg hnb
        have HBx4 : Hid (Below w4.heap.size w4 x4) := hide (Below.grownOn HBx3.out HG.out (fun b hb => by simp [Value.ownBlock] at hb; subst hb; exact HEN.out) HBx3.out.size)
        refine wpAnyH_ready (rs := [5]) (by kernel_rfl) (by simp) ?_
        refine AllReadyH.cons rfl (fun K hK => ?_) AllReadyH.nil
        refine (if_pos (by kernel_rfl)).mpr ?_
        refine wp_append_run happ _ _ rfl rfl rfl ?_
        simp only [Act.put, List.setIfInBounds_toArray, List.set_cons_zero, List.set_cons_succ]
        refine hK.out _ _ (HSW.out _ HBx4.out) (fun _ => ?_)
        clear hK K
        clear happ
        refine wpAnyH_take (i := 6) (oi := ⟨some 34, _, _, _, _, _⟩) (v := (.agg #[.int .i64 gv, .slice na' ns.length nc', .slice none 0 0])) rfl (by kernel_rfl) (by kernel_rfl) (by kernel_rfl) (fun _ _ _ h => h) (Or.inl ⟨by rfl, fun W hS => by (obtain ⟨s0, s1⟩ := hS; go_simp)⟩) (HSW.out _ HBx4.out) ?_
        simp only [Act.put, List.setIfInBounds_toArray, List.set_cons_zero, List.set_cons_succ]
        have HMM : Hid (x4.heap[x2.heap.size]? = some (.cells #[.int .i64 0, .slice none 0 0, .slice none 0 0] 25 (0, 0))) := hide ((HG.out.block x2.heap.size HX23.out (fun e => by simp [Value.ownBlock] at e; have := HX12.out; omega)).trans HMx3.out)
        have HMG : Hid (w4.heap.size ≤ x2.heap.size) := hide HBx2.out.size
        have HDN : Hid (∀ b, (Value.slice na' ns.length nc').ownBlock = some b → b ≠ x2.heap.size) := hide fun b hb e => by rcases HNB.out b hb with h | h; (simp [Value.ownBlock] at h; have := HX12.out; omega); (have := HX23.out; omega)
        have k0 : x4.cell? ⟨x2.heap.size, 0, none⟩ = some (.int .i64 0) := by rw [blk_cell HMM.out]; rfl
        have k1 : x4.cell? ⟨x2.heap.size, 1, none⟩ = some (.slice none 0 0) := by rw [blk_cell HMM.out]; rfl
        have k2 : x4.cell? ⟨x2.heap.size, 2, none⟩ = some (.slice none 0 0) := by rw [blk_cell HMM.out]; rfl
        have kf : ∀ i, x4.frozen? ⟨x2.heap.size, i, none⟩ = false := fun i => blk_frozen HMM.out i
        refine wpAnyH_ready (rs := [8]) (by kernel_rfl) (by simp) ?_
        refine AllReadyH.cons rfl (fun K hK => ?_) AllReadyH.nil
        go_simp
        have HBS : Hid (Below w4.heap.size w4 (((x4.setCell ⟨x2.heap.size, 0, none⟩ (.int .i64 gv)).setCell ⟨x2.heap.size, 1, none⟩ (.slice na' ns.length nc')).setCell ⟨x2.heap.size, 2, none⟩ (.slice none 0 0))) := hide (((HBx4.out.setCell HMG.out _).setCell HMG.out _).setCell HMG.out _)
        have HME := hide (blk_set3 HMM.out (.int .i64 gv) (.slice na' ns.length nc') (.slice none 0 0))
        refine hK.out _ _ (HSW.out _ HBS.out) (fun _ => ?_)
        clear hK K
        refine wpAnyH_done (by kernel_rfl) ?_ _
        go_wp2_with fail
        go_meet
        case rel =>
          refine ⟨x2.heap.size, na', nc', rfl, HBS.out, HME.out, ?_, Mine.none _, HDN.out, (fun b hb => by cases hb), (fun b hb hc => by cases hc), HMG.out, HBS.out.size⟩
          refine (HMN.out.same fun b hb _ => ?_).from HEN.out
          have hbM : b ≠ x2.heap.size := HDN.out b hb
          rw [Below.heap_setCell _ ⟨x2.heap.size, 2, none⟩ _ b hbM, Below.heap_setCell _ ⟨x2.heap.size, 1, none⟩ _ b hbM, Below.heap_setCell _ ⟨x2.heap.size, 0, none⟩ _ b hbM]
    · go_simp
      have HTx2 : Hid (Below x1.heap.size x1 (x1.alloc (.cells #[.int .i64 0, .slice none 0 0, .slice none 0 0] 25))) := hide (below_alloc _ _)
      have HBx2 : Hid (Below w4.heap.size w4 (x1.alloc (.cells #[.int .i64 0, .slice none 0 0, .slice none 0 0] 25))) := hide (Below.step HBx1.out HTx2.out)
      have HMx2 := hide (blk_new x1 (.cells #[.int .i64 0, .slice none 0 0, .slice none 0 0] 25))
      refine hK.out _ _ (HSW.out _ HBx2.out) (fun _ => ?_)
      clear hK K
      generalize x1.alloc (.cells #[.int .i64 0, .slice none 0 0, .slice none 0 0] 25) = x2 at *
      refine wpAnyH_ready (rs := [2]) (by kernel_rfl) (by simp) ?_
      refine AllReadyH.cons rfl (fun K hK => ?_) AllReadyH.nil
      go_simp
      have HTx3 : Hid (Below x2.heap.size x2 (x2.alloc (.cells #[] 30))) := hide (below_alloc _ _)
      have HBx3 : Hid (Below w4.heap.size w4 (x2.alloc (.cells #[] 30))) := hide (Below.step HBx2.out HTx3.out)
      have HEx3 := hide (blk_new x2 (.cells #[] 30))
      refine hK.out _ _ (HSW.out _ HBx3.out) (fun _ => ?_)
      clear hK K
      generalize x2.alloc (.cells #[] 30) = x3 at *
      have HE := HEx3
      have HEN : Hid (w4.heap.size ≤ x2.heap.size) := hide HBx2.out.size
      have HX12 : Hid (x1.heap.size < x2.heap.size) := hide (blk_lt HMx2.out)
      have HX23 : Hid (x2.heap.size < x3.heap.size) := hide (blk_lt HEx3.out)
      obtain ⟨na', nc', x4, happ, hm, hg, hnb⟩ := app_nd (c := nc) (n' := ns.length) (Mine.empty (size := 4) HE.out) (l := []) rfl (new := ns) rfl (by omega) ((HN.out.below HBx3.out).nodes) (Nat.le_of_lt (blk_lt HE.out)) (by have := H60.out; omega)
      have HMN := hide hm
      have HG := hide hg
      have HNB := hide hnb
      clear hm hg hnb
      have HBx4 : Hid (Below w4.heap.size w4 x4) := hide (Below.grownOn HBx3.out HG.out (fun b hb => by simp [Value.ownBlock] at hb; subst hb; exact HEN.out) HBx3.out.size)
      refine wpAnyH_ready (rs := [5]) (by kernel_rfl) (by simp) ?_
      refine AllReadyH.cons rfl (fun K hK => ?_) AllReadyH.nil
      refine (if_pos (by kernel_rfl)).mpr ?_
      refine wp_append_run happ _ _ rfl rfl rfl ?_
      simp only [Act.put, List.setIfInBounds_toArray, List.set_cons_zero, List.set_cons_succ]
      refine hK.out _ _ (HSW.out _ HBx4.out) (fun _ => ?_)
      clear hK K
      clear happ
      refine wpAnyH_take (i := 6) (oi := ⟨some 34, _, _, _, _, _⟩) (v := (.agg #[.int .i64 gv, .slice na' ns.length nc', .slice none 0 0])) rfl (by kernel_rfl) (by kernel_rfl) (by kernel_rfl) (fun _ _ _ h => h) (Or.inl ⟨by rfl, fun W hS => by (obtain ⟨s0, s1⟩ := hS; go_simp)⟩) (HSW.out _ HBx4.out) ?_
      simp only [Act.put, List.setIfInBounds_toArray, List.set_cons_zero, List.set_cons_succ]
      have HMM : Hid (x4.heap[x1.heap.size]? = some (.cells #[.int .i64 0, .slice none 0 0, .slice none 0 0] 25 (0, 0))) := hide ((HG.out.block x1.heap.size (by have := HX12.out; have := HX23.out; omega) (fun e => by simp [Value.ownBlock] at e; have := HX12.out; omega)).trans (Below.blk HTx3.out HMx2.out))
      have HMG : Hid (w4.heap.size ≤ x1.heap.size) := hide HBx1.out.size
      have HDN : Hid (∀ b, (Value.slice na' ns.length nc').ownBlock = some b → b ≠ x1.heap.size) := hide fun b hb e => by rcases HNB.out b hb with h | h; (simp [Value.ownBlock] at h; have := HX12.out; omega); (have := HX12.out; have := HX23.out; omega)
      have k0 : x4.cell? ⟨x1.heap.size, 0, none⟩ = some (.int .i64 0) := by rw [blk_cell HMM.out]; rfl
      have k1 : x4.cell? ⟨x1.heap.size, 1, none⟩ = some (.slice none 0 0) := by rw [blk_cell HMM.out]; rfl
      have k2 : x4.cell? ⟨x1.heap.size, 2, none⟩ = some (.slice none 0 0) := by rw [blk_cell HMM.out]; rfl
      have kf : ∀ i, x4.frozen? ⟨x1.heap.size, i, none⟩ = false := fun i => blk_frozen HMM.out i
      refine wpAnyH_ready (rs := [8]) (by kernel_rfl) (by simp) ?_
      refine AllReadyH.cons rfl (fun K hK => ?_) AllReadyH.nil
      go_simp
      have HBS : Hid (Below w4.heap.size w4 (((x4.setCell ⟨x1.heap.size, 0, none⟩ (.int .i64 gv)).setCell ⟨x1.heap.size, 1, none⟩ (.slice na' ns.length nc')).setCell ⟨x1.heap.size, 2, none⟩ (.slice none 0 0))) := hide (((HBx4.out.setCell HMG.out _).setCell HMG.out _).setCell HMG.out _)
      have HME := hide (blk_set3 HMM.out (.int .i64 gv) (.slice na' ns.length nc') (.slice none 0 0))
      refine hK.out _ _ (HSW.out _ HBS.out) (fun _ => ?_)
      clear hK K
      refine wpAnyH_done (by kernel_rfl) ?_ _
      go_wp2_with fail
      go_meet
      case rel =>
        refine ⟨x1.heap.size, na', nc', rfl, HBS.out, HME.out, ?_, Mine.none _, HDN.out, (fun b hb => by cases hb), (fun b hb hc => by cases hc), HMG.out, HBS.out.size⟩
        refine (HMN.out.same fun b hb _ => ?_).from HEN.out
        have hbM : b ≠ x1.heap.size := HDN.out b hb
        rw [Below.heap_setCell _ ⟨x1.heap.size, 2, none⟩ _ b hbM, Below.heap_setCell _ ⟨x1.heap.size, 1, none⟩ _ b hbM, Below.heap_setCell _ ⟨x1.heap.size, 0, none⟩ _ b hbM]
  case rest =>
    obtain ⟨M, na', nc', rfl, hbld⟩ := hcut
    have HBL := hide hbld
    clear hbld
    go_wp2_with fail
    go_loopw [6, 7] (fun i _ wr => ∃ (q : Nat) (na' : Option Addr) (nc' : Nat) (oa' : Option Addr) (oc' : Nat), q ≤ os.length ∧ i = .int .i64 q ∧ Hid (Bld w4.heap.size w4 wr M gv na' nc' oa' oc' (twN ns os q) (twO ns os q))) (fun i _ _ => os.length - (intOf i).toNat)
    case atStart => exact ⟨0, na', nc', none, 0, Nat.zero_le _, rfl, HBL⟩
    case round =>
      obtain ⟨q, na2, nc2, oa2, oc2, hq, rfl, hbl⟩ := hrel
      have HNr := hide (HN.out.below hbl.out.below)
      have HNrS : Hid (w4.heap.size ≤ wr.heap.size) := hide hbl.out.hB
      have c2 : wr.cell? ⟨w.heap.size, 2, none⟩ = some (.slice oa os.length oc) := HNr.out.c2
      by_cases hlt : q < os.length
      · have hqi : (q : Int) < (os.length : Int) := by omega
        obtain ⟨ob, ooff, hoa, _, _, hoc⟩ := HNr.out.outs.ints hlt
        have m1 : wr.cell? ⟨M, 1, none⟩ = some (.slice na2 (twN ns os q).length nc2) := hbl.out.net.c1
        have HOA := hide hoa
        simp only at hoa
        subst hoa
        have ho30 : os.length ≤ 30 := H60.out.2.1
        have HLN : Hid ((twN ns os q).length = ns.length + 2 * q) := hide (twN_len ns os q)
        have hL : (twN ns os q).length ≤ 120 := by have := H60.out; have := HLN.out; omega
        have HTN : Hid (twN ns os (q + 1) = twN ns os q ++ [⟨8, outAt os q, 0, 0⟩, ⟨8, ((twN ns os q).length : Int), 0, 0⟩]) := hide rfl
        have HTO : Hid (twO ns os (q + 1) = twO ns os q ++ [((twN ns os q).length : Int) + 1]) := hide rfl
        have HLO : Hid ((twO ns os q).length = q) := hide (twO_len ns os q)
        have hMw : Hid (w4.heap.size ≤ M) := hide hbl.out.mB
        go_wp2_with fail
        have HS : Hid (∀ W, Below w4.heap.size w4 W → W.cell? ⟨w.heap.size, 2, none⟩ = some (.slice (some ⟨ob, ooff, none⟩) os.length oc) ∧ W.cell? ⟨ob, ooff + q, none⟩ = some (.int .i64 (outAt os q))) := hide fun W hb => ⟨(HN.out.below hb).c2, by
          obtain ⟨b', o', h1, _, _, h2⟩ := (HN.out.below hb).outs.ints hlt
          cases h1; exact h2⟩
        have HBd : Hid (Below wr.heap.size wr wr.drew) := hide (Below.refl _ _).drew
        have m1d : wr.drew.cell? ⟨M, 1, none⟩ = some (.slice na2 (twN ns os q).length nc2) := m1
        have hbd := hide (hbl.out.more HBd.out)
        clear m1 c2 hoc hbl HNr
        refine wp_region_held_drew (S := fun W => W.cell? ⟨w.heap.size, 2, none⟩ = some (.slice (some ⟨ob, ooff, none⟩) os.length oc) ∧ W.cell? ⟨ob, ooff + q, none⟩ = some (.int .i64 (outAt os q))) (by kernel_rfl) (HS.out _ hbd.out.below) (fun _ => ?_)
        generalize wr.drew = x1 at *
        generalize outAt os q = ov at *
        generalize hLL : (twN ns os q).length = L at *
        have HLL := hide hLL
        clear hLL
        refine wpAnyH_take (i := 0) (oi := ⟨some 45, _, _, _, _, _⟩) (v := (.pointer (some ⟨M, 1, none⟩))) rfl (by kernel_rfl) (by kernel_rfl) (by kernel_rfl) (fun _ _ _ h => h) (Or.inl ⟨by rfl, fun W hS => by (obtain ⟨s0, s1⟩ := hS; go_simp)⟩) (HS.out _ hbd.out.below) ?_
        simp only [Act.put, List.setIfInBounds_toArray, List.set_cons_zero, List.set_cons_succ]
        refine wpAnyH_take (i := 2) (oi := ⟨some 47, _, _, _, _, _⟩) (v := (.pointer (some ⟨w.heap.size, 2, none⟩))) rfl (by kernel_rfl) (by kernel_rfl) (by kernel_rfl) (fun _ _ _ h => h) (Or.inl ⟨by rfl, fun W hS => by (obtain ⟨s0, s1⟩ := hS; go_simp)⟩) (HS.out _ hbd.out.below) ?_
        simp only [Act.put, List.setIfInBounds_toArray, List.set_cons_zero, List.set_cons_succ]
        refine wpAnyH_take (i := 3) (oi := ⟨some 48, _, _, _, _, _⟩) (v := (.slice (some ⟨ob, ooff, none⟩) os.length oc)) rfl (by kernel_rfl) (by kernel_rfl) (by kernel_rfl) (fun _ _ _ h => h) (Or.inl ⟨by rfl, fun W hS => by (obtain ⟨s0, s1⟩ := hS; go_simp)⟩) (HS.out _ hbd.out.below) ?_
        simp only [Act.put, List.setIfInBounds_toArray, List.set_cons_zero, List.set_cons_succ]
        refine wpAnyH_take (i := 4) (oi := ⟨some 49, _, _, _, _, _⟩) (v := (.int .i64 q)) rfl (by kernel_rfl) (by kernel_rfl) (by kernel_rfl) (fun _ _ _ h => h) (Or.inl ⟨by rfl, fun W hS => by (obtain ⟨s0, s1⟩ := hS; go_simp)⟩) (HS.out _ hbd.out.below) ?_
        simp only [Act.put, List.setIfInBounds_toArray, List.set_cons_zero, List.set_cons_succ]
        refine wpAnyH_take (i := 5) (oi := ⟨some 50, _, _, _, _, _⟩) (v := (.pointer (some ⟨ob, ooff + q, none⟩))) rfl (by kernel_rfl) (by kernel_rfl) (by kernel_rfl) (fun _ _ _ h => h) (Or.inl ⟨by rfl, fun W hS => by (obtain ⟨s0, s1⟩ := hS; go_simp)⟩) (HS.out _ hbd.out.below) ?_
        simp only [Act.put, List.setIfInBounds_toArray, List.set_cons_zero, List.set_cons_succ]
        refine wpAnyH_take (i := 6) (oi := ⟨some 51, _, _, _, _, _⟩) (v := (.int .i64 ov)) rfl (by kernel_rfl) (by kernel_rfl) (by kernel_rfl) (fun _ _ _ h => h) (Or.inl ⟨by rfl, fun W hS => by (obtain ⟨s0, s1⟩ := hS; go_simp)⟩) (HS.out _ hbd.out.below) ?_
        simp only [Act.put, List.setIfInBounds_toArray, List.set_cons_zero, List.set_cons_succ]
        refine wpAnyH_take (i := 7) (oi := ⟨some 52, _, _, _, _, _⟩) (v := (.agg #[.int .i64 8, .int .i64 ov, .int .i64 0, .int .i64 0])) rfl (by kernel_rfl) (by kernel_rfl) (by kernel_rfl) (fun _ _ _ h => h) (Or.inl ⟨by rfl, fun W hS => by (obtain ⟨s0, s1⟩ := hS; go_simp)⟩) (HS.out _ hbd.out.below) ?_
        simp only [Act.put, List.setIfInBounds_toArray, List.set_cons_zero, List.set_cons_succ]
        refine wpAnyH_take (i := 8) (oi := ⟨some 53, _, _, _, _, _⟩) (v := (.int .i64 L)) rfl (by kernel_rfl) (by kernel_rfl) (by kernel_rfl) (fun _ _ _ h => h) (Or.inl ⟨by rfl, fun W hS => by (obtain ⟨s0, s1⟩ := hS; go_simp)⟩) (HS.out _ hbd.out.below) ?_
        simp only [Act.put, List.setIfInBounds_toArray, List.set_cons_zero, List.set_cons_succ]
        refine wpAnyH_take (i := 9) (oi := ⟨some 54, _, _, _, _, _⟩) (v := (.agg #[.int .i64 8, .int .i64 L, .int .i64 0, .int .i64 0])) rfl (by kernel_rfl) (by kernel_rfl) (by kernel_rfl) (fun _ _ _ h => h) (Or.inl ⟨by rfl, fun W hS => by (obtain ⟨s0, s1⟩ := hS; go_simp)⟩) (HS.out _ hbd.out.below) ?_
        simp only [Act.put, List.setIfInBounds_toArray, List.set_cons_zero, List.set_cons_succ]
        have HTx2 : Hid (Below x1.heap.size x1 (x1.alloc (.cells #[.int .i64 8, .int .i64 ov, .int .i64 0, .int .i64 0, .int .i64 8, .int .i64 L, .int .i64 0, .int .i64 0] 30))) := hide (below_alloc _ _)
        have HEx2 := hide (blk_new x1 (.cells #[.int .i64 8, .int .i64 ov, .int .i64 0, .int .i64 0, .int .i64 8, .int .i64 L, .int .i64 0, .int .i64 0] 30))
        have hb2 := hide (hbd.out.more HTx2.out)
        have m2 := fun o => cell_alloc m1d o
        obtain ⟨na3, nc3, x3, happ, hm, hg, hnb⟩ := app_nd (c := 2) (n' := L + 2) hb2.out.nodes rfl (new := [⟨8, ov, 0, 0⟩, ⟨8, (L : Int), 0, 0⟩]) (m := 2) rfl (by rw [HLL.out]) (Lies.blk (cs := ndsC [⟨8, ov, 0, 0⟩, ⟨8, (L : Int), 0, 0⟩]) HEx2.out trivial) hb2.out.hB (by omega)
        rw [HLL.out] at happ
        have HM3 := hide hm
        have HG3 := hide hg
        have HNB := hide hnb
        clear hm hg hnb
        obtain ⟨k1, kf⟩ := hb2.out.s1 HG3.out
        rw [HLL.out] at k1
        have hb4 := hide (hb2.out.addN (n' := L + 2) (new := [⟨8, ov, 0, 0⟩, ⟨8, (L : Int), 0, 0⟩]) (by rw [List.length_append, HLL.out]; rfl) HM3.out HG3.out HNB.out)
        have HB3 : Hid (Below w4.heap.size w4 x3) := hide (Below.grownOn hb2.out.below HG3.out (fun b hb => hb2.out.nodes.new b hb) hb2.out.hB)
        clear HM3 HG3 HNB
        refine wpAnyH_ready (rs := [1, 10]) (by kernel_rfl) (by simp) ?_
        refine AllReadyH.cons rfl (fun K hK => ?_) (AllReadyH.cons rfl (fun K hK => ?_) AllReadyH.nil)
        · go_simp
          refine hK.out _ _ (HS.out _ hbd.out.below) (fun _ => ?_)
          clear hK K
          refine wpAnyH_ready (rs := [10]) (by kernel_rfl) (by simp) ?_
          refine AllReadyH.cons rfl (fun K hK => ?_) AllReadyH.nil
          go_simp
          refine hK.out _ _ (HS.out _ hb2.out.below) (fun _ => ?_)
          clear hK K
          refine wpAnyH_ready (rs := [11]) (by kernel_rfl) (by simp) ?_
          refine AllReadyH.cons rfl (fun K hK => ?_) AllReadyH.nil
          refine (if_pos (by kernel_rfl)).mpr ?_
          refine wp_append_run happ _ _ rfl rfl rfl ?_
          simp only [Act.put, List.setIfInBounds_toArray, List.set_cons_zero, List.set_cons_succ]
          refine hK.out _ _ (HS.out _ HB3.out) (fun _ => ?_)
          clear hK K
          clear happ
          refine wpAnyH_take (i := 12) (oi := ⟨some 57, _, _, _, _, _⟩) (v := (.pointer (some ⟨M, 1, none⟩))) rfl (by kernel_rfl) (by kernel_rfl) (by kernel_rfl) (fun _ _ _ h => h) (Or.inl ⟨by rfl, fun W hS => by (obtain ⟨s0, s1⟩ := hS; go_simp)⟩) (HS.out _ HB3.out) ?_
          simp only [Act.put, List.setIfInBounds_toArray, List.set_cons_zero, List.set_cons_succ]
          refine wpAnyH_ready (rs := [13]) (by kernel_rfl) (by simp) ?_
          refine AllReadyH.cons rfl (fun K hK => ?_) AllReadyH.nil
          go_simp
          refine hK.out _ _ (HS.out _ hb4.out.below) (fun _ => ?_)
          clear hK K
          refine wpAnyH_done (by kernel_rfl) ?_ _
          clear k1 kf m2 m1d hbd HTx2 HEx2 hb2 HB3
          generalize x3.setCell ⟨M, 1, none⟩ (.slice na3 (L + 2) nc3) = x4 at *
          have p2 : x4.cell? ⟨M, 2, none⟩ = some (.slice oa2 q oc2) := by have := hb4.out.net.c2; rwa [HLO.out] at this
          have p2a := fun o => cell_alloc p2 o
          have HTx5 := hide (below_alloc x4 (.cells #[.int .i64 ((L : Int) + 1)] 3))
          have HEx5 := hide (blk_new x4 (.cells #[.int .i64 ((L : Int) + 1)] 3))
          have hb5 := hide (hb4.out.more HTx5.out)
          obtain ⟨oa3, oc3, x6, happ, hm, hg, hnb⟩ := app_in (c := 1) (n' := q + 1) hb5.out.outs rfl (new := [(L : Int) + 1]) (m := 1) rfl (by rw [HLO.out]) (Lies.blk (cs := intsC [(L : Int) + 1]) HEx5.out trivial) hb5.out.hB (by have := H60.out; omega)
          rw [HLO.out] at happ
          have HM6 := hide hm
          have HG6 := hide hg
          have HNB := hide hnb
          clear hm hg hnb
          obtain ⟨k1, kf⟩ := hb5.out.s2 HG6.out
          rw [HLO.out] at k1
          have hb7 := hide (hb5.out.addO (n' := q + 1) (new := [(L : Int) + 1]) (by rw [List.length_append, HLO.out]; rfl) HM6.out HG6.out HNB.out)
          clear HM6 HG6 HNB
          go_wp2_with (at_builtin; (refine wpl_append_run happ rfl _ _ rfl rfl rfl ?_))
          exact ⟨⟨q + 1, _, _, _, _, by omega, by go_num, hide (by rw [HTN.out, HTO.out]; exact hb7.out)⟩, by simp [intOf]; omega⟩
        · go_simp
          refine hK.out _ _ (HS.out _ hb2.out.below) (fun _ => ?_)
          clear hK K
          refine wpAnyH_ready (rs := [1]) (by kernel_rfl) (by simp) ?_
          refine AllReadyH.cons rfl (fun K hK => ?_) AllReadyH.nil
          go_simp
          refine hK.out _ _ (HS.out _ hb2.out.below) (fun _ => ?_)
          clear hK K
          refine wpAnyH_ready (rs := [11]) (by kernel_rfl) (by simp) ?_
          refine AllReadyH.cons rfl (fun K hK => ?_) AllReadyH.nil
          refine (if_pos (by kernel_rfl)).mpr ?_
          refine wp_append_run happ _ _ rfl rfl rfl ?_
          simp only [Act.put, List.setIfInBounds_toArray, List.set_cons_zero, List.set_cons_succ]
          refine hK.out _ _ (HS.out _ HB3.out) (fun _ => ?_)
          clear hK K
          clear happ
          refine wpAnyH_take (i := 12) (oi := ⟨some 57, _, _, _, _, _⟩) (v := (.pointer (some ⟨M, 1, none⟩))) rfl (by kernel_rfl) (by kernel_rfl) (by kernel_rfl) (fun _ _ _ h => h) (Or.inl ⟨by rfl, fun W hS => by (obtain ⟨s0, s1⟩ := hS; go_simp)⟩) (HS.out _ HB3.out) ?_
          simp only [Act.put, List.setIfInBounds_toArray, List.set_cons_zero, List.set_cons_succ]
          refine wpAnyH_ready (rs := [13]) (by kernel_rfl) (by simp) ?_
          refine AllReadyH.cons rfl (fun K hK => ?_) AllReadyH.nil
          go_simp
          refine hK.out _ _ (HS.out _ hb4.out.below) (fun _ => ?_)
          clear hK K
          refine wpAnyH_done (by kernel_rfl) ?_ _
          clear k1 kf m2 m1d hbd HTx2 HEx2 hb2 HB3
          generalize x3.setCell ⟨M, 1, none⟩ (.slice na3 (L + 2) nc3) = x4 at *
          have p2 : x4.cell? ⟨M, 2, none⟩ = some (.slice oa2 q oc2) := by have := hb4.out.net.c2; rwa [HLO.out] at this
          have p2a := fun o => cell_alloc p2 o
          have HTx5 := hide (below_alloc x4 (.cells #[.int .i64 ((L : Int) + 1)] 3))
          have HEx5 := hide (blk_new x4 (.cells #[.int .i64 ((L : Int) + 1)] 3))
          have hb5 := hide (hb4.out.more HTx5.out)
          obtain ⟨oa3, oc3, x6, happ, hm, hg, hnb⟩ := app_in (c := 1) (n' := q + 1) hb5.out.outs rfl (new := [(L : Int) + 1]) (m := 1) rfl (by rw [HLO.out]) (Lies.blk (cs := intsC [(L : Int) + 1]) HEx5.out trivial) hb5.out.hB (by have := H60.out; omega)
          rw [HLO.out] at happ
          have HM6 := hide hm
          have HG6 := hide hg
          have HNB := hide hnb
          clear hm hg hnb
          obtain ⟨k1, kf⟩ := hb5.out.s2 HG6.out
          rw [HLO.out] at k1
          have hb7 := hide (hb5.out.addO (n' := q + 1) (new := [(L : Int) + 1]) (by rw [List.length_append, HLO.out]; rfl) HM6.out HG6.out HNB.out)
          clear HM6 HG6 HNB
          go_wp2_with (at_builtin; (refine wpl_append_run happ rfl _ _ rfl rfl rfl ?_))
          exact ⟨⟨q + 1, _, _, _, _, by omega, by go_num, hide (by rw [HTN.out, HTO.out]; exact hb7.out)⟩, by simp [intOf]; omega⟩
      · have HQ : Hid (q = os.length) := hide (by omega)
        have HBF : Hid (Bld w4.heap.size w4 wr M gv na2 nc2 oa2 oc2 (twN ns os os.length) (twO ns os os.length)) := hide (by have := hbl.out; rwa [HQ.out] at this)
        obtain ⟨ms, hms⟩ : ∃ ms, ms = twN ns os os.length := ⟨_, rfl⟩
        obtain ⟨mo, hmo⟩ : ∃ mo, mo = twO ns os os.length := ⟨_, rfl⟩
        have HRM : Hid (RightP gv ms mo) := hide (by rw [hms, hmo]; exact tw_right HRP.out H60.out.1 H60.out.2.1)
        have HGM : Hid (gatesTo ms ms.length = gatesTo ns ns.length + 2 * os.length) := hide (by rw [hms]; exact tw_gates ns os os.length)
        have HFI : Hid (∀ i, i < ns.length → bit (first ms) i = bit (first ns) i) := hide (by rw [hms]; exact tw_first ns os)
        have HTO : Hid (∀ g held held' : List Bool, (∀ i, i < ns.length → bit held' i = bit held i) → outs (vals g held' ms) mo = outs (vals g held ns) os) := hide (by rw [hms, hmo]; exact fun g held held' h => tw_outs HRP.out h)
        have HTH : Hid (∀ g held held' : List Bool, held.length = ns.length → held'.length = ms.length → (∀ i, i < ns.length → bit held' i = bit held i) → ∀ i, i < ns.length → bit (heldNext (vals g held' ms) held' ms) i = bit (heldNext (vals g held ns) held ns) i) := hide (by rw [hms]; exact fun g held held' h1 h2 h3 => tw_held HRP.out h1 h2 h3)
        have HML : Hid (mo.length = os.length) := hide (by rw [hmo]; exact twO_len ns os os.length)
        have HMM : Hid (ms.length ≤ 120) := hide (by rw [hms, twN_len]; have := H60.out; omega)
        rw [← hms, ← hmo] at HBF
        clear hms hmo hbl
        go_wp2_with fail
        refine (new_at HNr.out HRP.out).mono ?_
        rintro e wA ⟨⟨sa, rfl, hsa⟩, hb⟩
        have HSA := hide hsa
        have HBA := hide hb
        have HMA := hide (HBF.out.more hb)
        clear hsa hb
        go_wp2_with fail
        refine (new_at HMA.out.net HRM.out).mono ?_
        rintro e wB ⟨⟨sb, rfl, hsb⟩, hb⟩
        have HSB := hide hsb
        have HSA2 := hide (HSA.out.below hb)
        have HMB := hide (HMA.out.more hb)
        have HNB := hide (HN.out.below (HMB.out.below))
        have HZB := hide hb.size
        clear hsb hb HMA HBF HSA
        go_wp2_with fail
        refine (new_at HNB.out HRP.out).mono ?_
        rintro e wC ⟨⟨sc, rfl, hsc⟩, hb⟩
        have HSC := hide hsc
        have HSA3 := hide (HSA2.out.below hb)
        have HSB3 := hide (HSB.out.below hb)
        have HMC := hide (HMB.out.more hb)
        have HZC := hide hb.size
        clear hsc hb HMB HNB HSB HSA2
        have HZA : Hid (w4.heap.size ≤ wr.heap.size) := hide HNrS.out
        clear c2 HNr
        generalize hgg : gatesTo ns ns.length = gn at *
        have HGN := hide hgg
        have hgn60 : gn ≤ 60 := by have := gatesTo_le ns ns.length; have := H60.out; omega
        clear hgg
        have ho30 : os.length ≤ 30 := H60.out.2.1
        have hn1 : ∀ w, (binOp .neq 33 .nilIface .nilIface).run Try.prog w = .ok (.bool false) w := fun w => by kernel_rfl
        go_wp2_with fail
        have HSW : Hid (∀ W, Below w4.heap.size w4 W → W.cell? ⟨w.heap.size, 2, none⟩ = some (.slice oa os.length oc)) := hide fun W hb => (HN.out.below hb).c2
        have HMD := hide (HMC.out.more (wy := wC.drew) (Below.refl _ _).drew)
        have HTD : Hid (Below wC.heap.size wC wC.drew) := hide (Below.refl _ _).drew
        refine wp_region_held_drew (S := fun W => W.cell? ⟨w.heap.size, 2, none⟩ = some (.slice oa os.length oc)) (by kernel_rfl) (HSW.out _ HMD.out.below) (fun _ => ?_)
        generalize wC.drew = x1 at *
        refine wpAnyH_take (i := 0) (oi := ⟨some 77, _, _, _, _, _⟩) (v := .nilIface) rfl (by kernel_rfl) (by kernel_rfl) (by kernel_rfl) (fun _ _ _ h => h) (Or.inl ⟨by rfl, fun W hS => by (have s0 := hS; go_simp)⟩) (HSW.out _ HMD.out.below) ?_
        simp only [Act.put, List.setIfInBounds_toArray, List.set_cons_zero, List.set_cons_succ]
        refine wpAnyH_take (i := 1) (oi := ⟨some 78, _, _, _, _, _⟩) (v := (.bool false)) rfl (by kernel_rfl) (by kernel_rfl) (by kernel_rfl) (fun _ _ _ h => h) (Or.inl ⟨by rfl, fun W hS => by (have s0 := hS; go_simp)⟩) (HSW.out _ HMD.out.below) ?_
        simp only [Act.put, List.setIfInBounds_toArray, List.set_cons_zero, List.set_cons_succ]
        refine wpAnyH_take (i := 2) (oi := ⟨some 79, _, _, _, _, _⟩) (v := (.bool false)) rfl (by kernel_rfl) (by kernel_rfl) (by kernel_rfl) (fun _ _ _ h => h) (Or.inl ⟨by rfl, fun W hS => by (have s0 := hS; go_simp)⟩) (HSW.out _ HMD.out.below) ?_
        simp only [Act.put, List.setIfInBounds_toArray, List.set_cons_zero, List.set_cons_succ]
        refine wpAnyH_take (i := 3) (oi := ⟨some 80, _, _, _, _, _⟩) (v := .nilIface) rfl (by kernel_rfl) (by kernel_rfl) (by kernel_rfl) (fun _ _ _ h => h) (Or.inl ⟨by rfl, fun W hS => by (have s0 := hS; go_simp)⟩) (HSW.out _ HMD.out.below) ?_
        simp only [Act.put, List.setIfInBounds_toArray, List.set_cons_zero, List.set_cons_succ]
        refine wpAnyH_take (i := 4) (oi := ⟨some 81, _, _, _, _, _⟩) (v := (.bool false)) rfl (by kernel_rfl) (by kernel_rfl) (by kernel_rfl) (fun _ _ _ h => h) (Or.inl ⟨by rfl, fun W hS => by (have s0 := hS; go_simp)⟩) (HSW.out _ HMD.out.below) ?_
        simp only [Act.put, List.setIfInBounds_toArray, List.set_cons_zero, List.set_cons_succ]
        refine wpAnyH_take (i := 5) (oi := ⟨some 82, _, _, _, _, _⟩) (v := (.bool false)) rfl (by kernel_rfl) (by kernel_rfl) (by kernel_rfl) (fun _ _ _ h => h) (Or.inl ⟨by rfl, fun W hS => by (have s0 := hS; go_simp)⟩) (HSW.out _ HMD.out.below) ?_
        simp only [Act.put, List.setIfInBounds_toArray, List.set_cons_zero, List.set_cons_succ]
        refine wpAnyH_take (i := 6) (oi := ⟨some 83, _, _, _, _, _⟩) (v := (.bool false)) rfl (by kernel_rfl) (by kernel_rfl) (by kernel_rfl) (fun _ _ _ h => h) (Or.inl ⟨by rfl, fun W hS => by (have s0 := hS; go_simp)⟩) (HSW.out _ HMD.out.below) ?_
        simp only [Act.put, List.setIfInBounds_toArray, List.set_cons_zero, List.set_cons_succ]
        refine wpAnyH_take (i := 7) (oi := ⟨some 84, _, _, _, _, _⟩) (v := .nilIface) rfl (by kernel_rfl) (by kernel_rfl) (by kernel_rfl) (fun _ _ _ h => h) (Or.inl ⟨by rfl, fun W hS => by (have s0 := hS; go_simp)⟩) (HSW.out _ HMD.out.below) ?_
        simp only [Act.put, List.setIfInBounds_toArray, List.set_cons_zero, List.set_cons_succ]
        refine wpAnyH_take (i := 8) (oi := ⟨some 85, _, _, _, _, _⟩) (v := (.bool false)) rfl (by kernel_rfl) (by kernel_rfl) (by kernel_rfl) (fun _ _ _ h => h) (Or.inl ⟨by rfl, fun W hS => by (have s0 := hS; go_simp)⟩) (HSW.out _ HMD.out.below) ?_
        simp only [Act.put, List.setIfInBounds_toArray, List.set_cons_zero, List.set_cons_succ]
        refine wpAnyH_take (i := 9) (oi := ⟨some 86, _, _, _, _, _⟩) (v := (.bool false)) rfl (by kernel_rfl) (by kernel_rfl) (by kernel_rfl) (fun _ _ _ h => h) (Or.inl ⟨by rfl, fun W hS => by (have s0 := hS; go_simp)⟩) (HSW.out _ HMD.out.below) ?_
        simp only [Act.put, List.setIfInBounds_toArray, List.set_cons_zero, List.set_cons_succ]
        refine wpAnyH_take (i := 10) (oi := ⟨some 87, _, _, _, _, _⟩) (v := (.bool false)) rfl (by kernel_rfl) (by kernel_rfl) (by kernel_rfl) (fun _ _ _ h => h) (Or.inl ⟨by rfl, fun W hS => by (have s0 := hS; go_simp)⟩) (HSW.out _ HMD.out.below) ?_
        simp only [Act.put, List.setIfInBounds_toArray, List.set_cons_zero, List.set_cons_succ]
        refine wpAnyH_take (i := 13) (oi := ⟨some 90, _, _, _, _, _⟩) (v := (.pointer (some ⟨w.heap.size, 2, none⟩))) rfl (by kernel_rfl) (by kernel_rfl) (by kernel_rfl) (fun _ _ _ h => h) (Or.inl ⟨by rfl, fun W hS => by (have s0 := hS; go_simp)⟩) (HSW.out _ HMD.out.below) ?_
        simp only [Act.put, List.setIfInBounds_toArray, List.set_cons_zero, List.set_cons_succ]
        refine wpAnyH_take (i := 14) (oi := ⟨some 91, _, _, _, _, _⟩) (v := (.slice oa os.length oc)) rfl (by kernel_rfl) (by kernel_rfl) (by kernel_rfl) (fun _ _ _ h => h) (Or.inl ⟨by rfl, fun W hS => by (have s0 := hS; go_simp)⟩) (HSW.out _ HMD.out.below) ?_
        simp only [Act.put, List.setIfInBounds_toArray, List.set_cons_zero, List.set_cons_succ]
        refine wpAnyH_take (i := 15) (oi := ⟨some 92, _, _, _, _, _⟩) (v := (.int .i64 os.length)) rfl (by kernel_rfl) (by kernel_rfl) (by kernel_rfl) (fun _ _ _ h => h) (Or.inl ⟨by rfl, fun W hS => by (have s0 := hS; go_simp)⟩) (HSW.out _ HMD.out.below) ?_
        simp only [Act.put, List.setIfInBounds_toArray, List.set_cons_zero, List.set_cons_succ]
        refine wpAnyH_take (i := 16) (oi := ⟨some 93, _, _, _, _, _⟩) (v := (.int .i64 (2 * (os.length : Int)))) rfl (by kernel_rfl) (by kernel_rfl) (by kernel_rfl) (fun _ _ _ h => h) (Or.inl ⟨by rfl, fun W hS => by (have s0 := hS; go_simp <;> (rw [IntKind.wrap_i64]; omega))⟩) (HSW.out _ HMD.out.below) ?_
        simp only [Act.put, List.setIfInBounds_toArray, List.set_cons_zero, List.set_cons_succ]
        refine wpAnyH_ready (rs := [11]) (by kernel_rfl) (by simp) ?_
        refine AllReadyH.cons rfl (fun K hK => ?_) AllReadyH.nil
        go_simp
        refine (Gates_at HMD.out.net (by have := HMM.out; omega)).mono ?_
        rintro e x2 ⟨rfl, hb⟩
        rw [HGM.out, show ((gn + 2 * os.length : Nat) : Int) = (gn : Int) + 2 * (os.length : Int) by omega]
        have HM2 := hide (HMD.out.more hb)
        have HT2 := hide (Below.step HTD.out hb)
        clear hb
        refine hK.out _ _ (HSW.out _ HM2.out.below) (fun _ => ?_)
        clear hK K
        refine wpAnyH_ready (rs := [12]) (by kernel_rfl) (by simp) ?_
        refine AllReadyH.cons rfl (fun K hK => ?_) AllReadyH.nil
        go_simp
        refine (Gates_at (HN.out.below HM2.out.below) (by have := H60.out; omega)).mono ?_
        rintro e x3 ⟨rfl, hb⟩
        rw [HGN.out]
        have HM3 := hide (HM2.out.more hb)
        have HT3 := hide (Below.step HT2.out hb)
        clear hb HM2 HT2 HMD
        refine hK.out _ _ (HSW.out _ HM3.out.below) (fun _ => ?_)
        clear hK K
        refine wpAnyH_take (i := 17) (oi := ⟨some 94, _, _, _, _, _⟩) (v := (.int .i64 ((gn : Int) + 2 * (os.length : Int)))) rfl (by kernel_rfl) (by kernel_rfl) (by kernel_rfl) (fun _ _ _ h => h) (Or.inl ⟨by rfl, fun W hS => by (have s0 := hS; go_simp <;> (rw [IntKind.wrap_i64]; omega))⟩) (HSW.out _ HM3.out.below) ?_
        simp only [Act.put, List.setIfInBounds_toArray, List.set_cons_zero, List.set_cons_succ]
        refine wpAnyH_take (i := 18) (oi := ⟨some 95, _, _, _, _, _⟩) (v := (.bool false)) rfl (by kernel_rfl) (by kernel_rfl) (by kernel_rfl) (fun _ _ _ h => h) (Or.inl ⟨by rfl, fun W hS => by (have s0 := hS; go_simp)⟩) (HSW.out _ HM3.out.below) ?_
        simp only [Act.put, List.setIfInBounds_toArray, List.set_cons_zero, List.set_cons_succ]
        refine wpAnyH_take (i := 19) (oi := ⟨some 96, _, _, _, _, _⟩) (v := (.bool false)) rfl (by kernel_rfl) (by kernel_rfl) (by kernel_rfl) (fun _ _ _ h => h) (Or.inl ⟨by rfl, fun W hS => by (have s0 := hS; go_simp)⟩) (HSW.out _ HM3.out.below) ?_
        simp only [Act.put, List.setIfInBounds_toArray, List.set_cons_zero, List.set_cons_succ]
        refine wpAnyH_done (by kernel_rfl) ?_ _
        have HX : Hid (SimAt sa x3 wr.heap.size wA.heap.size ns os (first ns)) := hide (HSA3.out.below HT3.out)
        have HY : Hid (SimAt sb x3 wA.heap.size wB.heap.size ms mo (first ms)) := hide (HSB3.out.below HT3.out)
        have HZ : Hid (SimAt sc x3 wB.heap.size wC.heap.size ns os (first ns)) := hide (HSC.out.below HT3.out)
        have HWB : Hid (Below w4.heap.size w4 x3) := HM3.out.below
        have HZX : Hid (wC.heap.size ≤ x3.heap.size) := hide HT3.out.size
        have HGr4 := hide (HGR.out.below HB.out)
        clear HSA3 HSB3 HSC HM3 HT3 HTD HMC HSW HGM HGN hgn60 hn1 HBL HBA
        go_wp2_with fail
        have HW0 : Hid (∀ W, Below w4.heap.size w4 W → Below w.heap.size w W) := hide fun W hb => Below.step HB.out hb
        have HNn : Hid (∀ W, Below w4.heap.size w4 W → W.cell? ⟨w.heap.size, 0, none⟩ = some (.int .i64 gv)) := hide fun W hb => (HN.out.below hb).c0
        obtain ⟨lo, hlo⟩ : ∃ lo, lo = wr.heap.size := ⟨_, rfl⟩
        rw [← hlo] at HX HZA
        clear hlo HNrS
        go_loopw [14, 15] (fun i _ wx => ∃ (p : Nat) (held heldM : List Bool), p ≤ gs.length ∧ i = .int .i64 p ∧ Hid (SimAt sa wx lo wA.heap.size ns os held) ∧ Hid (SimAt sb wx wA.heap.size wB.heap.size ms mo heldM) ∧ Hid (SimAt sc wx wB.heap.size wC.heap.size ns os held) ∧ Hid (∀ i, i < ns.length → bit heldM i = bit held i) ∧ Hid (Below w4.heap.size w4 wx) ∧ Hid (wC.heap.size ≤ wx.heap.size)) (fun i _ _ => gs.length - (intOf i).toNat)
        case atStart => exact ⟨0, first ns, first ms, Nat.zero_le _, rfl, HX, HY, HZ, HFI, HWB, HZX⟩
        case round =>
          obtain ⟨p, held, heldM, hp, rfl, hsa, hsb, hsc, hhm, hbw, hzz⟩ := hrel
          by_cases hlt : p < gs.length
          · have hpi : (p : Int) < (gs.length : Int) := by omega
            obtain ⟨⟨gb, goff, hga, hgc⟩, hrow⟩ := (HGr4.out.below hbw.out) p hlt
            have HGC : Hid (∀ W, Below w4.heap.size w4 W → W.cell? ⟨gb, goff + p, none⟩ = some (.slice (A p) (rowAt gs p).length (C p)) ∧ Lies AnyB W (A p) (bitsC (rowAt gs p))) := hide (by
              intro W hb
              obtain ⟨⟨gb', goff', hga', hgc'⟩, hrow'⟩ := (HGr4.out.below hb) p hlt
              rw [hga] at hga'
              cases hga'
              exact ⟨hgc', hrow'⟩)
            subst hga
            generalize rowAt gs p = g at hgc hrow HGC
            by_cases h300 : (300 : Int) < (g.length : Int)
            · go_wp2_with fail
              go_ret
              exact ⟨rfl, HW0.out _ hbw.out⟩
            · have h3 : (g.length : Int) ≤ 300 := by omega
              have HRW := hide hrow
              clear hrow
              go_wp2_with fail
              refine (step_is hsa.out HRP.out g.length rfl (A p) (C p) HRW.out (by omega)).mono ?_
              rintro e y1 ⟨⟨O, rfl, hO, hro⟩, hsa1, hk⟩
              have hA1 := hsa.out.hin
              have hB1 := hsb.out.hin
              have hC1 := hsc.out.hin
              have z1 := HZA.out
              have z2 := HZB.out
              have z3 := HZC.out
              have z4 := hzz.out
              have HIN : Hid (w4.heap.size ≤ sa.h ∧ sa.h < wA.heap.size ∧ wA.heap.size ≤ sb.h ∧ sb.h < wB.heap.size ∧ wB.heap.size ≤ sc.h ∧ sc.h < wC.heap.size ∧ w4.heap.size ≤ sb.h ∧ w4.heap.size ≤ sc.h) := hide (by omega)
              have HOC : Hid (wC.heap.size ≤ O) := hide (Nat.le_trans z4 hO)
              have HSA := hide (hsa1.below (Below.refl y1.heap.size y1).drew)
              have HSB := hide ((hsb.out.other hk (.inl (by omega))).below (Below.refl y1.heap.size y1).drew)
              have HSC := hide ((hsc.out.other hk (.inl (by omega))).below (Below.refl y1.heap.size y1).drew)
              have HBY := hide (Below.step (Below.keptOn hbw.out hk (by omega) hbw.out.size) (Below.refl y1.heap.size y1).drew)
              have HRO := hide (Below.blk (Below.refl y1.heap.size y1).drew hro)
              have HZY : Hid (wC.heap.size ≤ y1.drew.heap.size) := hide (Nat.le_trans z4 hk.size)
              clear hsa1 hk hro hO hA1 hB1 hC1 z1 z2 z3 z4 hgc
              go_wp2_with fail
              have HSW : Hid (∀ W, Below w4.heap.size w4 W → W.cell? ⟨gb, goff + p, none⟩ = some (.slice (A p) g.length (C p)) ∧ W.cell? ⟨w.heap.size, 0, none⟩ = some (.int .i64 gv)) := hide fun W hb => ⟨(HGC.out W hb).1, HNn.out W hb⟩
              refine wp_region_held_drew (S := fun W => W.cell? ⟨gb, goff + p, none⟩ = some (.slice (A p) g.length (C p)) ∧ W.cell? ⟨w.heap.size, 0, none⟩ = some (.int .i64 gv)) (by kernel_rfl) (HSW.out _ HBY.out) (fun _ => ?_)
              generalize y1.drew = y2 at *
              refine wpAnyH_take (i := 0) (oi := ⟨some 115, _, _, _, _, _⟩) (v := (.slice (some ⟨O, 0, none⟩) os.length os.length)) rfl (by kernel_rfl) (by kernel_rfl) (by kernel_rfl) (fun _ _ _ h => h) (Or.inl ⟨by rfl, fun W hS => by (obtain ⟨s0, s1⟩ := hS; go_simp)⟩) (HSW.out _ HBY.out) ?_
              simp only [Act.put, List.setIfInBounds_toArray, List.set_cons_zero, List.set_cons_succ]
              refine wpAnyH_take (i := 1) (oi := ⟨some 116, _, _, _, _, _⟩) (v := (.pointer (some ⟨sb.p, 0, none⟩))) rfl (by kernel_rfl) (by kernel_rfl) (by kernel_rfl) (fun _ _ _ h => h) (Or.inl ⟨by rfl, fun W hS => by (obtain ⟨s0, s1⟩ := hS; go_simp)⟩) (HSW.out _ HBY.out) ?_
              simp only [Act.put, List.setIfInBounds_toArray, List.set_cons_zero, List.set_cons_succ]
              refine wpAnyH_take (i := 2) (oi := ⟨some 117, _, _, _, _, _⟩) (v := (.slice (some ⟨gb, goff, none⟩) gs.length gc)) rfl (by kernel_rfl) (by kernel_rfl) (by kernel_rfl) (fun _ _ _ h => h) (Or.inl ⟨by rfl, fun W hS => by (obtain ⟨s0, s1⟩ := hS; go_simp)⟩) (HSW.out _ HBY.out) ?_
              simp only [Act.put, List.setIfInBounds_toArray, List.set_cons_zero, List.set_cons_succ]
              refine wpAnyH_take (i := 3) (oi := ⟨some 118, _, _, _, _, _⟩) (v := (.int .i64 p)) rfl (by kernel_rfl) (by kernel_rfl) (by kernel_rfl) (fun _ _ _ h => h) (Or.inl ⟨by rfl, fun W hS => by (obtain ⟨s0, s1⟩ := hS; go_simp)⟩) (HSW.out _ HBY.out) ?_
              simp only [Act.put, List.setIfInBounds_toArray, List.set_cons_zero, List.set_cons_succ]
              refine wpAnyH_take (i := 4) (oi := ⟨some 119, _, _, _, _, _⟩) (v := (.pointer (some ⟨gb, goff + p, none⟩))) rfl (by kernel_rfl) (by kernel_rfl) (by kernel_rfl) (fun _ _ _ h => h) (Or.inl ⟨by rfl, fun W hS => by (obtain ⟨s0, s1⟩ := hS; go_simp)⟩) (HSW.out _ HBY.out) ?_
              simp only [Act.put, List.setIfInBounds_toArray, List.set_cons_zero, List.set_cons_succ]
              refine wpAnyH_take (i := 5) (oi := ⟨some 120, _, _, _, _, _⟩) (v := (.slice (A p) g.length (C p))) rfl (by kernel_rfl) (by kernel_rfl) (by kernel_rfl) (fun _ _ _ h => h) (Or.inl ⟨by rfl, fun W hS => by (obtain ⟨s0, s1⟩ := hS; go_simp)⟩) (HSW.out _ HBY.out) ?_
              simp only [Act.put, List.setIfInBounds_toArray, List.set_cons_zero, List.set_cons_succ]
              refine wpAnyH_ready (rs := [6]) (by kernel_rfl) (by simp) ?_
              refine AllReadyH.cons rfl (fun K hK => ?_) AllReadyH.nil
              go_simp
              refine (step_is HSB.out HRM.out g.length rfl (A p) (C p) (HGC.out _ HBY.out).2 (by omega)).mono ?_
              rintro e y3 ⟨⟨O2, rfl, hO2, hro2⟩, hsb1, hk⟩
              obtain ⟨i1, i2, i3, i4, i5, i6, i7, i8⟩ := HIN.out
              have j1 := HOC.out
              have HSA3 := hide (HSA.out.other hk (.inr i3))
              have HSC3 := hide (HSC.out.other hk (.inl (by omega)))
              have HSB3 := hide hsb1
              have HBY3 := hide (Below.keptOn HBY.out hk i7 HBY.out.size)
              have HRO3 := hide (hk.blk HRO.out (by omega))
              have HRO2 := hide hro2
              have HZY3 : Hid (wC.heap.size ≤ y3.heap.size) := hide (Nat.le_trans HZY.out hk.size)
              clear hO2 hro2 hsb1 hk HSA HSB HSC HBY HRO HZY i1 i2 i3 i4 i5 i6 i7 i8 j1
              refine hK.out _ _ (HSW.out _ HBY3.out) (fun _ => ?_)
              clear hK K
              refine wpAnyH_ready (rs := [7]) (by kernel_rfl) (by simp) ?_
              refine AllReadyH.cons rfl (fun K hK => ?_) AllReadyH.nil
              go_simp
              refine (equal_is _ _ os.length mo.length (outs_len _ _) (outs_len _ _) _ _ _ _ y3 (Lies.blk (S := AnyB) HRO3.out trivial) (Lies.blk (S := AnyB) HRO2.out trivial) (by have := H60.out; omega) (HTO.out g held heldM hhm.out).symm).mono ?_
              rintro e y4 ⟨rfl, hb⟩
              have HSA4 := hide (HSA3.out.below hb)
              have HSB4 := hide (HSB3.out.below hb)
              have HSC4 := hide (HSC3.out.below hb)
              have HBY4 := hide (Below.step HBY3.out hb)
              have HRO4 := hide (Below.blk hb HRO3.out)
              have HZY4 : Hid (wC.heap.size ≤ y4.heap.size) := hide (Nat.le_trans HZY3.out hb.size)
              clear hb HSA3 HSB3 HSC3 HBY3 HRO3 HRO2 HZY3
              refine hK.out _ _ (HSW.out _ HBY4.out) (fun _ => ?_)
              clear hK K
              refine wpAnyH_take (i := 8) (oi := ⟨some 123, _, _, _, _, _⟩) (v := (.bool false)) rfl (by kernel_rfl) (by kernel_rfl) (by kernel_rfl) (fun _ _ _ h => h) (Or.inl ⟨by rfl, fun W hS => by (obtain ⟨s0, s1⟩ := hS; go_simp)⟩) (HSW.out _ HBY4.out) ?_
              simp only [Act.put, List.setIfInBounds_toArray, List.set_cons_zero, List.set_cons_succ]
              refine wpAnyH_take (i := 9) (oi := ⟨some 124, _, _, _, _, _⟩) (v := (.bool false)) rfl (by kernel_rfl) (by kernel_rfl) (by kernel_rfl) (fun _ _ _ h => h) (Or.inl ⟨by rfl, fun W hS => by (obtain ⟨s0, s1⟩ := hS; go_simp)⟩) (HSW.out _ HBY4.out) ?_
              simp only [Act.put, List.setIfInBounds_toArray, List.set_cons_zero, List.set_cons_succ]
              refine wpAnyH_take (i := 10) (oi := ⟨some 125, _, _, _, _, _⟩) (v := (.slice (some ⟨O, 0, none⟩) os.length os.length)) rfl (by kernel_rfl) (by kernel_rfl) (by kernel_rfl) (fun _ _ _ h => h) (Or.inl ⟨by rfl, fun W hS => by (obtain ⟨s0, s1⟩ := hS; go_simp)⟩) (HSW.out _ HBY4.out) ?_
              simp only [Act.put, List.setIfInBounds_toArray, List.set_cons_zero, List.set_cons_succ]
              refine wpAnyH_take (i := 11) (oi := ⟨some 126, _, _, _, _, _⟩) (v := (.pointer (some ⟨sc.p, 0, none⟩))) rfl (by kernel_rfl) (by kernel_rfl) (by kernel_rfl) (fun _ _ _ h => h) (Or.inl ⟨by rfl, fun W hS => by (obtain ⟨s0, s1⟩ := hS; go_simp)⟩) (HSW.out _ HBY4.out) ?_
              simp only [Act.put, List.setIfInBounds_toArray, List.set_cons_zero, List.set_cons_succ]
              refine wpAnyH_take (i := 13) (oi := ⟨some 128, _, _, _, _, _⟩) (v := (.slice (some ⟨gb, goff, none⟩) gs.length gc)) rfl (by kernel_rfl) (by kernel_rfl) (by kernel_rfl) (fun _ _ _ h => h) (Or.inl ⟨by rfl, fun W hS => by (obtain ⟨s0, s1⟩ := hS; go_simp)⟩) (HSW.out _ HBY4.out) ?_
              simp only [Act.put, List.setIfInBounds_toArray, List.set_cons_zero, List.set_cons_succ]
              refine wpAnyH_take (i := 14) (oi := ⟨some 129, _, _, _, _, _⟩) (v := (.int .i64 p)) rfl (by kernel_rfl) (by kernel_rfl) (by kernel_rfl) (fun _ _ _ h => h) (Or.inl ⟨by rfl, fun W hS => by (obtain ⟨s0, s1⟩ := hS; go_simp)⟩) (HSW.out _ HBY4.out) ?_
              simp only [Act.put, List.setIfInBounds_toArray, List.set_cons_zero, List.set_cons_succ]
              refine wpAnyH_take (i := 15) (oi := ⟨some 130, _, _, _, _, _⟩) (v := (.pointer (some ⟨gb, goff + p, none⟩))) rfl (by kernel_rfl) (by kernel_rfl) (by kernel_rfl) (fun _ _ _ h => h) (Or.inl ⟨by rfl, fun W hS => by (obtain ⟨s0, s1⟩ := hS; go_simp)⟩) (HSW.out _ HBY4.out) ?_
              simp only [Act.put, List.setIfInBounds_toArray, List.set_cons_zero, List.set_cons_succ]
              refine wpAnyH_take (i := 16) (oi := ⟨some 131, _, _, _, _, _⟩) (v := (.slice (A p) g.length (C p))) rfl (by kernel_rfl) (by kernel_rfl) (by kernel_rfl) (fun _ _ _ h => h) (Or.inl ⟨by rfl, fun W hS => by (obtain ⟨s0, s1⟩ := hS; go_simp)⟩) (HSW.out _ HBY4.out) ?_
              simp only [Act.put, List.setIfInBounds_toArray, List.set_cons_zero, List.set_cons_succ]
              refine wpAnyH_take (i := 18) (oi := ⟨some 133, _, _, _, _, _⟩) (v := (.pointer (some ⟨w.heap.size, 0, none⟩))) rfl (by kernel_rfl) (by kernel_rfl) (by kernel_rfl) (fun _ _ _ h => h) (Or.inl ⟨by rfl, fun W hS => by (obtain ⟨s0, s1⟩ := hS; go_simp)⟩) (HSW.out _ HBY4.out) ?_
              simp only [Act.put, List.setIfInBounds_toArray, List.set_cons_zero, List.set_cons_succ]
              refine wpAnyH_take (i := 19) (oi := ⟨some 134, _, _, _, _, _⟩) (v := (.int .i64 gv)) rfl (by kernel_rfl) (by kernel_rfl) (by kernel_rfl) (fun _ _ _ h => h) (Or.inl ⟨by rfl, fun W hS => by (obtain ⟨s0, s1⟩ := hS; go_simp)⟩) (HSW.out _ HBY4.out) ?_
              simp only [Act.put, List.setIfInBounds_toArray, List.set_cons_zero, List.set_cons_succ]
              refine wpAnyH_ready (rs := [12]) (by kernel_rfl) (by simp) ?_
              refine AllReadyH.cons rfl (fun K hK => ?_) AllReadyH.nil
              go_simp
              have HT5 : Hid (Below y4.heap.size y4 (y4.alloc (.cells #[] 4))) := hide (below_alloc _ _)
              have HE5 := hide (blk_new y4 (.cells #[] 4))
              have HBY5 : Hid (Below w4.heap.size w4 (y4.alloc (.cells #[] 4))) := hide (Below.step HBY4.out HT5.out)
              refine hK.out _ _ (HSW.out _ HBY5.out) (fun _ => ?_)
              clear hK K
              generalize y4.alloc (.cells #[] 4) = y5 at *
              obtain ⟨a6, c6, y6, happ, hm, hg, hnb⟩ := app_bo (c := C p) (n' := g.length) (Mine.empty (size := 1) HE5.out) (l := []) rfl (new := g) rfl (by omega) (HGC.out _ HBY5.out).2 (Nat.le_of_lt (blk_lt HE5.out)) (by omega)
              have HT6 : Hid (Below y4.heap.size y4 y6) := hide (Below.grownOn HT5.out hg (fun b hb => by simp [Value.ownBlock] at hb; omega) HT5.out.size)
              have HM6 := hide hm
              have HBY6 : Hid (Below w4.heap.size w4 y6) := hide (Below.step HBY4.out HT6.out)
              clear hm hg hnb
              refine wpAnyH_ready (rs := [17]) (by kernel_rfl) (by simp) ?_
              refine AllReadyH.cons rfl (fun K hK => ?_) AllReadyH.nil
              refine (if_pos (by kernel_rfl)).mpr ?_
              refine wp_append_run happ _ _ rfl rfl rfl ?_
              simp only [Act.put, List.setIfInBounds_toArray, List.set_cons_zero, List.set_cons_succ]
              refine hK.out _ _ (HSW.out _ HBY6.out) (fun _ => ?_)
              clear hK K
              clear happ
              obtain ⟨a7, c7, y7, happ, hm, hg, hc71, hc72⟩ := app_zero (k := gv) (n' := g.length + gv) HM6.out rfl rfl HT6.out.size (by omega)
              have HT7 : Hid (Below y4.heap.size y4 y7) := hide (Below.grownOn HT6.out hg (fun b hb => HM6.out.new b hb) HT6.out.size)
              have HM7 := hide hm
              have HBY7 : Hid (Below w4.heap.size w4 y7) := hide (Below.step HBY4.out HT7.out)
              clear hm hg hc71 hc72
              refine wpAnyH_ready (rs := [20]) (by kernel_rfl) (by simp) ?_
              refine AllReadyH.cons rfl (fun K hK => ?_) AllReadyH.nil
              refine (if_pos (by kernel_rfl)).mpr ?_
              refine wp_append_run2 happ _ _ rfl rfl rfl ?_
              simp only [Act.put, List.setIfInBounds_toArray, List.set_cons_zero, List.set_cons_succ]
              refine hK.out _ _ (HSW.out _ HBY7.out) (fun _ => ?_)
              clear hK K
              clear happ
              have HSA7 := hide (HSA4.out.below HT7.out)
              have HSB7 := hide (HSB4.out.below HT7.out)
              have HSC7 := hide (HSC4.out.below HT7.out)
              have HRO7 := hide (Below.blk HT7.out HRO4.out)
              have HZY7 : Hid (wC.heap.size ≤ y7.heap.size) := hide (Nat.le_trans HZY4.out HT7.out.size)
              have HVG : Hid (vals (g ++ List.replicate gv false) held ns = vals g held ns) := hide (vals_given HRP.out fun i _ => bit_zeros g gv i)
              clear HSA4 HSB4 HSC4 HBY4 HRO4 HZY4 HT5 HE5 HBY5 HT6 HM6 HBY6
              refine wpAnyH_ready (rs := [21]) (by kernel_rfl) (by simp) ?_
              refine AllReadyH.cons rfl (fun K hK => ?_) AllReadyH.nil
              go_simp
              refine (step_is (g := g ++ List.replicate gv false) HSC7.out HRP.out (g.length + gv) (by simp) a7 c7 (HM7.out.lies fun _ _ => trivial) (by omega)).mono ?_
              rintro e y8 ⟨⟨O3, rfl, hO3, hro3⟩, hsc1, hk⟩
              rw [HVG.out] at hro3 hsc1
              obtain ⟨i1, i2, i3, i4, i5, i6, i7, i8⟩ := HIN.out
              have j1 := HOC.out
              have HSA8 := hide (HSA7.out.other hk (.inr (by omega)))
              have HSB8 := hide (HSB7.out.other hk (.inr i5))
              have HSC8 := hide hsc1
              have HBY8 := hide (Below.keptOn HBY7.out hk i8 HBY7.out.size)
              have HRO8 := hide (hk.blk HRO7.out (by omega))
              have HRO3 := hide hro3
              have HZY8 : Hid (wC.heap.size ≤ y8.heap.size) := hide (Nat.le_trans HZY7.out hk.size)
              clear hO3 hro3 hsc1 hk HSA7 HSB7 HSC7 HBY7 HRO7 HZY7 i1 i2 i3 i4 i5 i6 i7 i8 j1 HT7 HM7 HVG
              refine hK.out _ _ (HSW.out _ HBY8.out) (fun _ => ?_)
              clear hK K
              refine wpAnyH_ready (rs := [22]) (by kernel_rfl) (by simp) ?_
              refine AllReadyH.cons rfl (fun K hK => ?_) AllReadyH.nil
              go_simp
              refine (equal_is _ _ os.length os.length (outs_len _ _) (outs_len _ _) _ _ _ _ y8 (Lies.blk (S := AnyB) HRO8.out trivial) (Lies.blk (S := AnyB) HRO3.out trivial) (by have := H60.out; omega) rfl).mono ?_
              rintro e y9 ⟨rfl, hb⟩
              have HSA9 := hide (HSA8.out.below hb)
              have HSB9 := hide (HSB8.out.below hb)
              have HSC9 := hide (HSC8.out.below hb)
              have HBY9 := hide (Below.step HBY8.out hb)
              have HZY9 : Hid (wC.heap.size ≤ y9.heap.size) := hide (Nat.le_trans HZY8.out hb.size)
              clear hb HSA8 HSB8 HSC8 HBY8 HRO8 HRO3 HZY8
              refine hK.out _ _ (HSW.out _ HBY9.out) (fun _ => ?_)
              clear hK K
              refine wpAnyH_take (i := 23) (oi := ⟨some 138, _, _, _, _, _⟩) (v := (.bool false)) rfl (by kernel_rfl) (by kernel_rfl) (by kernel_rfl) (fun _ _ _ h => h) (Or.inl ⟨by rfl, fun W hS => by (obtain ⟨s0, s1⟩ := hS; go_simp)⟩) (HSW.out _ HBY9.out) ?_
              simp only [Act.put, List.setIfInBounds_toArray, List.set_cons_zero, List.set_cons_succ]
              refine wpAnyH_take (i := 24) (oi := ⟨some 139, _, _, _, _, _⟩) (v := (.bool false)) rfl (by kernel_rfl) (by kernel_rfl) (by kernel_rfl) (fun _ _ _ h => h) (Or.inl ⟨by rfl, fun W hS => by (obtain ⟨s0, s1⟩ := hS; go_simp)⟩) (HSW.out _ HBY9.out) ?_
              simp only [Act.put, List.setIfInBounds_toArray, List.set_cons_zero, List.set_cons_succ]
              refine wpAnyH_done (by kernel_rfl) ?_ _
              have HHN := hide (HTH.out g held heldM hsa.out.len hsb.out.len hhm.out)
              go_wp2_with fail
              exact ⟨⟨p + 1, _, _, by omega, by go_num, HSA9, HSB9, HSC9, HHN, HBY9, HZY9⟩, by simp [intOf]; omega⟩
          · go_wp2_with fail
            go_ret
            exact ⟨rfl, HW0.out _ hbw.out⟩

end Go.Proofs.Ytoghcacigdeloaa
