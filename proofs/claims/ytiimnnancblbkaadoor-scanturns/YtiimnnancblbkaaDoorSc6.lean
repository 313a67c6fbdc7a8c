/-
  CONTRACT of a plant's take.
-/
import Derived.Test.YtiimnnancblbkaaDoorSc5
import Derived.Test.YtiimnnancblbkaaDoorScA
set_option linter.unusedSimpArgs false
set_option linter.unusedVariables false
namespace Go.Proofs.YtiimnnancblbkaaDoor
open Go.RowKit

theorem take_drop {ds : List De} {j : Nat} (h : j < ds.length) (g : List Int) (vs : Vs) : takeS (ds.drop j) g vs = if ds[j].way = 1 then takeS (ds.drop (j + 1)) g.tail (putA vs ds[j].name ((getA vs ds[j].name ty0).1, cutI ds[j].ty (g.headD 0))) else takeS (ds.drop (j + 1)) g vs := by
  rw [List.drop_eq_getElem_cons h, takeS]
/-- what is given, in memory -/
def Giv (Sg : Nat → Prop) (w : World) (gv : Value) (gl : List Int) : Prop := ∃ (ga : Option Addr) (gc : Nat), gv = .slice ga gl.length gc ∧ Lies Sg w ga (intsC gl) ∧ gl.length ≤ gc ∧ gc ≤ maxLen

set_option maxRecDepth 100000 in
set_option maxHeartbeats 12800000 in
theorem stake_at (ds : List De) (gl : List Int) (S Sg : Nat → Prop) (w : World) (P V B : Nat) (bv gv : Value) (da : Option Addr) (dc : Nat) (vs : Vs) (ks : Ks) (hp : Plt w P V B (.slice da ds.length dc) bv vs ks) (hd : IsDes S w ds (.slice da ds.length dc)) (hS : ∀ c, S c → c < w.heap.size ∧ c ≠ V ∧ c ≠ B) (hg : Giv Sg w gv gl) (hSg : ∀ c, Sg c → c ≠ V ∧ c ≠ B) (hl : ds.length ≤ 1000) :
    Calls Tryd.prog 13 #[.pointer (some ⟨P, 0, none⟩), gv] w fun e w' => e = .returned (.tuple #[]) ∧ Plt w' P V B (.slice da ds.length dc) bv (takeS ds gl vs) ks ∧ KM V B w w' := by
  have HD := hide hd
  have HS := hide hS
  have HSG := hide hSg
  have HPL : Hid (V < w.heap.size ∧ B < w.heap.size) := ⟨blk_lt (show w.heap[V]? = some _ from hp.vals), blk_lt (show w.heap[B]? = some _ from hp.blks)⟩
  have HI : Hid (∃ (g : List Int) (u : Vs), takeS (ds.drop 0) g u = takeS ds gl vs ∧ Plt w P V B (.slice da ds.length dc) bv u ks ∧ Giv Sg w gv g) := ⟨gl, vs, rfl, hp, hg⟩
  have p0 : w.cell? ⟨P, 0, none⟩ = some (.slice da ds.length dc) := by rw [blk_cell hp.me]; rfl
  clear hd hS hSg hp hg
  go_enter Tryd.func13, Tryd.ntmps13
  go_wp2_with fail
  clear p0
  go_loopw [1, 5, 6, 13] (fun gv _ _ i wr => ∃ j : Nat, j ≤ ds.length ∧ i = .int .i64 j ∧ Hid (∃ (g : List Int) (u : Vs), takeS (ds.drop j) g u = takeS ds gl vs ∧ Plt wr P V B (.slice da ds.length dc) bv u ks ∧ Giv Sg wr gv g) ∧ Hid (KM V B w wr)) (fun _ _ _ i _ => ds.length - (intOf i).toNat)
  case atStart => exact ⟨0, Nat.zero_le _, rfl, HI, hide (KM.refl _ _ _)⟩
  case round =>
    obtain ⟨j, hj, rfl, hq, hwr⟩ := hrel
    obtain ⟨g, u, hq1, hp, ga, gc, rfl, hlie, hgc, hgm⟩ := hq.out
    have HQ1 := hide hq1
    have HP := hide hp
    have HLI := hide hlie
    clear hq hq1 hp hlie
    by_cases hlt : j < ds.length
    · have hji : (j : Int) < (ds.length : Int) := by omega
      obtain ⟨b, cap', hv, hSb⟩ := de_addr HD.out (by omega)
      obtain ⟨rfl, rfl⟩ : da = some ⟨b, 0, none⟩ ∧ dc = cap' := by cases hv; exact ⟨rfl, rfl⟩
      have HDW : Hid (IsDes S wr ds (.slice (some ⟨b, 0, none⟩) ds.length dc)) := IsRow.same HD.out fun c h1 h2 => hwr.out.block c (HS.out c h1).1 (HS.out c h1).2.1 (HS.out c h1).2.2
      have r0 : wr.cell? ⟨b, j * 4, none⟩ = some (.string ds[j].name) := de_cell HDW.out rfl hlt (k := 0) rfl (by decide)
      have r1 : wr.cell? ⟨b, j * 4 + 1, none⟩ = some (.int .i64 ds[j].way) := de_cell HDW.out rfl hlt (k := 1) rfl (by decide)
      have r2 : wr.cell? ⟨b, j * 4 + 2, none⟩ = some (.int .i64 ds[j].ty) := de_cell HDW.out rfl hlt (k := 2) rfl (by decide)
      have r3 : wr.cell? ⟨b, j * 4 + 3, none⟩ = some (.int .i64 ds[j].init) := de_cell HDW.out rfl hlt (k := 3) rfl (by decide)
      have HTK := hide (take_drop hlt g u)
      generalize ds[j] = d at *
      obtain ⟨nm, way, ty, init⟩ := d
      simp only at r0 r1 r2 r3 HTK
      have HNV : Hid (wr.heap.size ≠ V ∧ wr.heap.size ≠ B) := by have h1 := HPL.out; have h2 := hwr.out.size; exact ⟨by omega, by omega⟩
      clear hv
      by_cases hw : way = 1
      · rw [if_pos hw] at HTK
        subst hw
        have r1 : wr.cell? ⟨b, j * 4 + 1, none⟩ = some (.int .i64 1) := r1
        have HO := hide (below_alloc wr (.cells #[.string nm, .int .i64 1, .int .i64 ty, .int .i64 init] 32))
        have HN := hide (blk_new wr (.cells #[.string nm, .int .i64 1, .int .i64 ty, .int .i64 init] 32))
        have HCU := hide (fun n W => cut_any ty n W)
        cases g with
        | nil =>
          simp only [List.length_nil, List.headD_nil, List.tail_nil] at *
          go_wp2_with fail
          clear r0 r1 r2 r3
          have HE9 : Hid (cutI ty 0 = cutI ty 0) := rfl
          have HOD : Hid (Below wr.heap.size wr (wr.alloc (.cells #[.string nm, .int .i64 1, .int .i64 ty, .int .i64 init] 32)).drew) := hide (Below.drew HO.out)
          have HND : Hid ((wr.alloc (.cells #[.string nm, .int .i64 1, .int .i64 ty, .int .i64 init] 32)).drew.heap[wr.heap.size]? = some (.cells #[.string nm, .int .i64 1, .int .i64 ty, .int .i64 init] 32 (0, 0))) := HN.out
          have HSW : Hid (∀ W : World, W.heap[wr.heap.size]? = some (.cells #[.string nm, .int .i64 1, .int .i64 ty, .int .i64 init] 32 (0, 0)) → W.cell? ⟨wr.heap.size, 0, none⟩ = some (.string nm) ∧ W.cell? ⟨wr.heap.size, 2, none⟩ = some (.int .i64 ty)) := fun W h => ⟨by rw [blk_cell h]; rfl, by rw [blk_cell h]; rfl⟩
          refine wp_region_held_drew (S := fun W => W.cell? ⟨wr.heap.size, 0, none⟩ = some (.string nm) ∧ W.cell? ⟨wr.heap.size, 2, none⟩ = some (.int .i64 ty)) (by kernel_rfl) (HSW.out _ HND.out) (fun _ => ?_)
          generalize (wr.alloc (.cells #[.string nm, .int .i64 1, .int .i64 ty, .int .i64 init] 32)).drew = x1 at *
          refine wpAnyH_take (i := 0) (oi := ⟨some 28, _, _, _, _, _⟩) (v := (.pointer (some ⟨P, 0, none⟩))) rfl (by kernel_rfl) (by kernel_rfl) (by kernel_rfl) (fun _ _ _ h => h) (Or.inl ⟨by rfl, fun W hS => by (obtain ⟨s0, s1⟩ := hS; go_simp)⟩) (HSW.out _ HND.out) ?_
          simp only [Act.put, List.setIfInBounds_toArray, List.set_cons_zero, List.set_cons_succ]
          refine wpAnyH_take (i := 1) (oi := ⟨some 29, _, _, _, _, _⟩) (v := (.pointer (some ⟨wr.heap.size, 0, none⟩))) rfl (by kernel_rfl) (by kernel_rfl) (by kernel_rfl) (fun _ _ _ h => h) (Or.inl ⟨by rfl, fun W hS => by (obtain ⟨s0, s1⟩ := hS; go_simp)⟩) (HSW.out _ HND.out) ?_
          simp only [Act.put, List.setIfInBounds_toArray, List.set_cons_zero, List.set_cons_succ]
          refine wpAnyH_take (i := 2) (oi := ⟨some 30, _, _, _, _, _⟩) (v := (.string nm)) rfl (by kernel_rfl) (by kernel_rfl) (by kernel_rfl) (fun _ _ _ h => h) (Or.inl ⟨by rfl, fun W hS => by (obtain ⟨s0, s1⟩ := hS; go_simp)⟩) (HSW.out _ HND.out) ?_
          simp only [Act.put, List.setIfInBounds_toArray, List.set_cons_zero, List.set_cons_succ]
          refine wpAnyH_take (i := 3) (oi := ⟨some 31, _, _, _, _, _⟩) (v := (.pointer (some ⟨wr.heap.size, 2, none⟩))) rfl (by kernel_rfl) (by kernel_rfl) (by kernel_rfl) (fun _ _ _ h => h) (Or.inl ⟨by rfl, fun W hS => by (obtain ⟨s0, s1⟩ := hS; go_simp)⟩) (HSW.out _ HND.out) ?_
          simp only [Act.put, List.setIfInBounds_toArray, List.set_cons_zero, List.set_cons_succ]
          refine wpAnyH_take (i := 4) (oi := ⟨some 32, _, _, _, _, _⟩) (v := (.int .i64 ty)) rfl (by kernel_rfl) (by kernel_rfl) (by kernel_rfl) (fun _ _ _ h => h) (Or.inl ⟨by rfl, fun W hS => by (obtain ⟨s0, s1⟩ := hS; go_simp)⟩) (HSW.out _ HND.out) ?_
          simp only [Act.put, List.setIfInBounds_toArray, List.set_cons_zero, List.set_cons_succ]
          refine wpAnyH_take (i := 5) (oi := ⟨some 33, _, _, _, _, _⟩) (v := (.int .i64 0)) rfl (by kernel_rfl) (by kernel_rfl) (by kernel_rfl) (fun _ _ _ h => h) (Or.inl ⟨by rfl, fun W hS => by (obtain ⟨s0, s1⟩ := hS; go_simp)⟩) (HSW.out _ HND.out) ?_
          simp only [Act.put, List.setIfInBounds_toArray, List.set_cons_zero, List.set_cons_succ]
          refine wpAnyH_ready (rs := [6]) (by kernel_rfl) (by simp) ?_
          refine AllReadyH.cons rfl (fun K hK => ?_) AllReadyH.nil
          go_simp
          refine (HCU.out 0 x1).mono ?_
          rintro e x2 ⟨rfl, hx2⟩
          obtain rfl : x1 = x2 := hx2.symm
          clear hx2
          refine hK.out _ _ (HSW.out _ HND.out) (fun _ => ?_)
          clear hK K
          refine wpAnyH_ready (rs := [7]) (by kernel_rfl) (by simp) ?_
          refine AllReadyH.cons rfl (fun K hK => ?_) AllReadyH.nil
          go_simp
          refine (sset_at nm (cutI ty 0) x1 P V B (.slice (some ⟨b, 0, none⟩) ds.length dc) bv u ks (HP.out.of HOD.out)).mono ?_
          rintro e x3 ⟨rfl, h8, h9⟩
          have HP8 := hide h8
          have HKM8 := hide h9
          have HN8 := hide (h9.blk HND.out HNV.out.1 HNV.out.2)
          clear h8 h9
          refine hK.out _ _ (HSW.out _ HN8.out) (fun _ => ?_)
          clear hK K
          refine wpAnyH_done (by kernel_rfl) ?_ _
          go_wp2_with fail
          refine ⟨⟨j + 1, by omega, by go_num, hide ⟨[], _, (HTK.out.symm.trans HQ1.out), HP8.out, ga, gc, rfl, ?_, hgc, hgm⟩, hide (hwr.out.trans ((KM.of HOD.out).trans HKM8.out))⟩, by simp [intOf]; omega⟩
          exact .inl rfl
        | cons x g' =>
          have hgl : (0 : Int) < ((g'.length : Int) + 1) := by omega
          have hg1 : (1 : Int) ≤ ((g'.length : Int) + 1) := by omega
          have hg2 : ((g'.length : Int) + 1) ≤ (gc : Int) := by simp only [List.length_cons] at hgc; omega
          obtain ⟨gb, go, hga, hSgb, hcells⟩ : ∃ gb go, ga = some ⟨gb, go, none⟩ ∧ Sg gb ∧ ∀ i y, (intsC (x :: g'))[i]? = some y → wr.cell? ⟨gb, go + i, none⟩ = some y := by
            rcases HLI.out with h | ⟨gb, go, h1, h2, h3⟩
            · simp [intsC] at h
            · exact ⟨gb, go, h1, h2, h3⟩
          subst hga
          have HCL := hide hcells
          have g0 : (wr.alloc (.cells #[.string nm, .int .i64 1, .int .i64 ty, .int .i64 init] 32)).cell? ⟨gb, go, none⟩ = some (.int .i64 x) := (HO.out.cell (cell_lt (hcells 0 (.int .i64 x) rfl))).trans (hcells 0 (.int .i64 x) rfl)
          simp only [List.length_cons, List.headD_cons, List.tail_cons] at *
          clear hcells
          go_wp2_with fail
          go_quiet (fail)
          have HGA : Hid (Lies Sg wr (if gc = 1 then some (Addr.mk gb go none) else some (Addr.mk gb (go + 1) none)) (intsC g')) := by
            by_cases h1 : gc = 1
            · have : g' = [] := by cases g' with | nil => rfl | cons y l => simp at hgc; omega
              subst this
              exact .inl rfl
            · rw [if_neg h1]
              exact .inr ⟨gb, go + 1, rfl, hSgb, fun i y hy => by
                have := HCL.out (i + 1) y (by simpa [intsC] using hy)
                rwa [show go + (i + 1) = go + 1 + i by omega] at this⟩
          generalize (if gc = 1 then some (Addr.mk gb go none) else some (Addr.mk gb (go + 1) none)) = ga2 at *
          have HO2 : Hid (Below wr.heap.size wr ((wr.alloc (.cells #[.string nm, .int .i64 1, .int .i64 ty, .int .i64 init] 32)).drewN nq)) := HO.out.trans ⟨rfl, rfl, rfl, Nat.le_refl _, fun _ _ => rfl⟩
          have HN2 : Hid (((wr.alloc (.cells #[.string nm, .int .i64 1, .int .i64 ty, .int .i64 init] 32)).drewN nq).heap[wr.heap.size]? = some (.cells #[.string nm, .int .i64 1, .int .i64 ty, .int .i64 init] 32 (0, 0))) := HN.out
          clear g0 r0 r1 r2 r3 HO HN HCL
          generalize (wr.alloc (.cells #[.string nm, .int .i64 1, .int .i64 ty, .int .i64 init] 32)).drewN nq = w2 at *
          go_wp2_with fail
          have HOD : Hid (Below wr.heap.size wr w2.drew) := hide (Below.drew HO2.out)
          have HND : Hid (w2.drew.heap[wr.heap.size]? = some (.cells #[.string nm, .int .i64 1, .int .i64 ty, .int .i64 init] 32 (0, 0))) := HN2.out
          have HSW : Hid (∀ W : World, W.heap[wr.heap.size]? = some (.cells #[.string nm, .int .i64 1, .int .i64 ty, .int .i64 init] 32 (0, 0)) → W.cell? ⟨wr.heap.size, 0, none⟩ = some (.string nm) ∧ W.cell? ⟨wr.heap.size, 2, none⟩ = some (.int .i64 ty)) := fun W h => ⟨by rw [blk_cell h]; rfl, by rw [blk_cell h]; rfl⟩
          refine wp_region_held_drew (S := fun W => W.cell? ⟨wr.heap.size, 0, none⟩ = some (.string nm) ∧ W.cell? ⟨wr.heap.size, 2, none⟩ = some (.int .i64 ty)) (by kernel_rfl) (HSW.out _ HND.out) (fun _ => ?_)
          generalize w2.drew = x1 at *
          refine wpAnyH_take (i := 0) (oi := ⟨some 28, _, _, _, _, _⟩) (v := (.pointer (some ⟨P, 0, none⟩))) rfl (by kernel_rfl) (by kernel_rfl) (by kernel_rfl) (fun _ _ _ h => h) (Or.inl ⟨by rfl, fun W hS => by (obtain ⟨s0, s1⟩ := hS; go_simp)⟩) (HSW.out _ HND.out) ?_
          simp only [Act.put, List.setIfInBounds_toArray, List.set_cons_zero, List.set_cons_succ]
          refine wpAnyH_take (i := 1) (oi := ⟨some 29, _, _, _, _, _⟩) (v := (.pointer (some ⟨wr.heap.size, 0, none⟩))) rfl (by kernel_rfl) (by kernel_rfl) (by kernel_rfl) (fun _ _ _ h => h) (Or.inl ⟨by rfl, fun W hS => by (obtain ⟨s0, s1⟩ := hS; go_simp)⟩) (HSW.out _ HND.out) ?_
          simp only [Act.put, List.setIfInBounds_toArray, List.set_cons_zero, List.set_cons_succ]
          refine wpAnyH_take (i := 2) (oi := ⟨some 30, _, _, _, _, _⟩) (v := (.string nm)) rfl (by kernel_rfl) (by kernel_rfl) (by kernel_rfl) (fun _ _ _ h => h) (Or.inl ⟨by rfl, fun W hS => by (obtain ⟨s0, s1⟩ := hS; go_simp)⟩) (HSW.out _ HND.out) ?_
          simp only [Act.put, List.setIfInBounds_toArray, List.set_cons_zero, List.set_cons_succ]
          refine wpAnyH_take (i := 3) (oi := ⟨some 31, _, _, _, _, _⟩) (v := (.pointer (some ⟨wr.heap.size, 2, none⟩))) rfl (by kernel_rfl) (by kernel_rfl) (by kernel_rfl) (fun _ _ _ h => h) (Or.inl ⟨by rfl, fun W hS => by (obtain ⟨s0, s1⟩ := hS; go_simp)⟩) (HSW.out _ HND.out) ?_
          simp only [Act.put, List.setIfInBounds_toArray, List.set_cons_zero, List.set_cons_succ]
          refine wpAnyH_take (i := 4) (oi := ⟨some 32, _, _, _, _, _⟩) (v := (.int .i64 ty)) rfl (by kernel_rfl) (by kernel_rfl) (by kernel_rfl) (fun _ _ _ h => h) (Or.inl ⟨by rfl, fun W hS => by (obtain ⟨s0, s1⟩ := hS; go_simp)⟩) (HSW.out _ HND.out) ?_
          simp only [Act.put, List.setIfInBounds_toArray, List.set_cons_zero, List.set_cons_succ]
          refine wpAnyH_take (i := 5) (oi := ⟨some 33, _, _, _, _, _⟩) (v := (.int .i64 x)) rfl (by kernel_rfl) (by kernel_rfl) (by kernel_rfl) (fun _ _ _ h => h) (Or.inl ⟨by rfl, fun W hS => by (obtain ⟨s0, s1⟩ := hS; go_simp)⟩) (HSW.out _ HND.out) ?_
          simp only [Act.put, List.setIfInBounds_toArray, List.set_cons_zero, List.set_cons_succ]
          refine wpAnyH_ready (rs := [6]) (by kernel_rfl) (by simp) ?_
          refine AllReadyH.cons rfl (fun K hK => ?_) AllReadyH.nil
          go_simp
          refine (HCU.out x x1).mono ?_
          rintro e x2 ⟨rfl, hx2⟩
          obtain rfl : x1 = x2 := hx2.symm
          clear hx2
          refine hK.out _ _ (HSW.out _ HND.out) (fun _ => ?_)
          clear hK K
          refine wpAnyH_ready (rs := [7]) (by kernel_rfl) (by simp) ?_
          refine AllReadyH.cons rfl (fun K hK => ?_) AllReadyH.nil
          go_simp
          refine (sset_at nm (cutI ty x) x1 P V B (.slice (some ⟨b, 0, none⟩) ds.length dc) bv u ks (HP.out.of HOD.out)).mono ?_
          rintro e x3 ⟨rfl, h8, h9⟩
          have HP8 := hide h8
          have HKM8 := hide h9
          have HN8 := hide (h9.blk HND.out HNV.out.1 HNV.out.2)
          clear h8 h9
          refine hK.out _ _ (HSW.out _ HN8.out) (fun _ => ?_)
          clear hK K
          refine wpAnyH_done (by kernel_rfl) ?_ _
          go_wp2_with fail
          refine ⟨⟨j + 1, by omega, by go_num, hide ⟨g', _, (HTK.out.symm.trans HQ1.out), HP8.out, ga2, gc - 1, rfl, ?_, by omega, by omega⟩, hide (hwr.out.trans ((KM.of HOD.out).trans HKM8.out))⟩, by simp [intOf]; omega⟩
          exact (HGA.out.below HOD.out).same fun c h1 h2 => HKM8.out.block c h2 (HSG.out c h1).1 (HSG.out c h1).2
      · rw [if_neg hw] at HTK
        have hwi : ((way : Int) != 1) = true := by simp; omega
        have HO := hide (below_alloc wr (.cells #[.string nm, .int .i64 way, .int .i64 ty, .int .i64 init] 32))
        go_wp2_with fail
        refine ⟨⟨j + 1, by omega, by go_num, hide ⟨g, u, HTK.out.symm.trans HQ1.out, HP.out.of HO.out, ga, gc, rfl, HLI.out.below HO.out, hgc, hgm⟩, hide (hwr.out.trans (KM.of HO.out))⟩, by simp [intOf]; omega⟩
    · have HJ : Hid (j = ds.length) := (by omega : j = ds.length)
      have HE : Hid (u = takeS ds gl vs) := by show _ = _; rw [← HQ1.out, HJ.out, List.drop_length, takeS]
      go_wp2_with fail
      go_end0
      rw [← HE.out]
      exact ⟨rfl, HP.out, hwr.out⟩
end Go.Proofs.YtiimnnancblbkaaDoor
