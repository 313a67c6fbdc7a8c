/-
  CONTRACT of the reference's Depth: depths in a map.
-/
import Derived.Test.YtjomaepncibjpaaDoorLMem
import Derived.Maps.RangeWalk
import Derived.Maps.OwnSet
import Derived.Maps.Ext
set_option linter.unusedSimpArgs false
set_option linter.unusedVariables false
namespace Go.Proofs.YtjomaepncibjpaaDoor
open Go.RowKit Go.Maps

theorem lawI : Keyed Tryd.prog 3 := int_keyed Tryd.underlying3
/-- a map of the first k tables' depths -/
structure DepD (f : Nat) (ls : List Lt) (k : Nat) (D : DataW Unit) : Prop where
  at' : ∀ s : Nat, D.atKey (.int .i64 (s : Int)) (.lit (.int .i64 0)) = .lit (.int .i64 (depS f (dpsTo f ls k) s : Nat))
theorem DepD.empty (f : Nat) (ls : List Lt) : DepD f ls 0 (.map []) := ⟨fun s => by
  have : depS f (dpsTo f ls 0) s = 0 := by unfold depS; split <;> simp [dpsTo]
  rw [this]; rfl⟩
theorem DepD.put {f : Nat} {ls : List Lt} {k : Nat} {D : DataW Unit} (h : DepD f ls k D) (hm : IsMap D) (v : Nat) (hv : v = 1 + behd f (dpsTo f ls k) (ltAt ls k).ins) : DepD f ls (k + 1) (D.put (.int .i64 ((f + k : Nat) : Int)) (.lit (.int .i64 (v : Int)))) := by
  subst hv
  refine ⟨fun s => ?_⟩
  by_cases e : s = f + k
  · subst e
    have hkl : WideAt.IsKeyLit (.int .i64 ((f + k : Nat) : Int)) := trivial
    rw [atKey_put_same hm hkl]
    have : depS f (dpsTo f ls (k + 1)) (f + k) = 1 + behd f (dpsTo f ls k) (ltAt ls k).ins := by
      unfold depS
      rw [if_neg (by omega), show f + k - f = k by omega]
      simp only [dpsTo]
      rw [List.getElem?_append_right (by rw [dpsTo_len]; omega), dpsTo_len, Nat.sub_self]; rfl
    rw [this]
  · have hne : (Lit.int .i64 (s : Int)) ≠ .int .i64 ((f + k : Nat) : Int) := fun h => by injection h with h1 h2; omega
    rw [atKey_put_other hne, h.at']
    have : depS f (dpsTo f ls (k + 1)) s = depS f (dpsTo f ls k) s := by
      unfold depS
      split
      · rfl
      · simp only [dpsTo]
        by_cases h : s - f < k
        · rw [List.getElem?_append_left (by rw [dpsTo_len]; exact h)]
        · rw [List.getElem?_eq_none (show (dpsTo f ls k).length ≤ s - f by rw [dpsTo_len]; omega), List.getElem?_eq_none (by rw [List.length_append, dpsTo_len]; simp; omega)]
    rw [this]
theorem plainElem_int_inv {P : Program} {e : TypeId} (he : P.underlying e = some (.int .i64)) {v : Value} {z : DataW Unit × List MemPlace} (h : plainElem P e v = some z) : ∃ b, v = .int .i64 b ∧ z = (.lit (.int .i64 b), []) := by
  unfold plainElem at h
  rw [he] at h
  cases v <;> simp at h
  rename_i k b
  obtain ⟨⟨rfl, h1⟩, h2⟩ := h
  exact ⟨_, rfl, h2.symm⟩
theorem zeroI (w : World) : (zeroValue 3).run Tryd.prog w = .ok (.int .i64 0) w := by kernel_rfl
theorem wf_natD {k : Nat} (h : k ≤ 1000000) : (Lit.int .i64 (k : Int)).wf = true := WalkArith.wf_i64 (by omega)

theorem DepD.look {f : Nat} {ls : List Lt} {k B m : Nat} {D : DataW Unit} {w : World} (h : DepD f ls k D) (hown : w.ownsMap Tryd.prog 3 (plainElem Tryd.prog 3) B m D) (s : Nat) (h6 : s ≤ 1000000) :
    (Instr.lookup 69 (.map (some B)) (.int .i64 (s : Int)) false).run Tryd.prog w = .ok (.int .i64 (depS f (dpsTo f ls k) s : Nat)) w := by
  obtain ⟨v, ps, hrun, hv⟩ := hown.lookup lawI Tryd.underlying69 (zeroI w) (plainElem_int Tryd.underlying3 (wf_natD (k := 0) (by omega))) (keyOf_int_mk Tryd.underlying3 (wf_natD h6))
  obtain ⟨b, rfl, hb⟩ := plainElem_int_inv Tryd.underlying3 hv
  have h0 := h.at' s
  have h0' : D.atKey (.int .i64 (s : Int)) (.lit (.int .i64 ((0 : Nat) : Int))) = .lit (.int .i64 (depS f (dpsTo f ls k) s : Nat)) := h0
  first | rw [h0'] at hb | rw [h0] at hb
  simp only [Prod.mk.injEq, DataW.lit.injEq, Lit.int.injEq] at hb
  rw [hb.1.2]; exact hrun

set_option maxRecDepth 100000 in
set_option maxHeartbeats 6400000 in
theorem rdepth_at {S : Nat → Prop} (gn : Nat) (rs : List Rg) (ls : List Lt) (os : List Int) (rc lc oc : Nat) (ra la oa : Option Addr) (A : Nat → Option Addr) (C : Nat → Nat) (w : World) (hl : LutsAt S w la A C ls) (hr : RightT gn rs ls os) :
    Calls Tryd.prog 10 #[.agg #[.int .i64 gn, .slice ra rs.length rc, .slice la ls.length lc, .slice oa os.length oc]] w fun e w' => e = .returned (.int .i64 (depthP (gn + rs.length) ls)) ∧ Below w.heap.size w w' := by
  have hg1 := hr.g1
  have hr1 := hr.r1
  have hl1 := hr.l1
  have hmm := @run_makeMap Tryd.prog
  have HN1 := hide (blk_new w (.cells #[.int .i64 gn, .slice ra rs.length rc, .slice la ls.length lc, .slice oa os.length oc] 32))
  have HB1 := hide (below_alloc w (.cells #[.int .i64 gn, .slice ra rs.length rc, .slice la ls.length lc, .slice oa os.length oc] 32))
  have HB2 : Hid (Below w.heap.size w ((w.alloc (.cells #[.int .i64 gn, .slice ra rs.length rc, .slice la ls.length lc, .slice oa os.length oc] 32)).alloc (.map #[] 0))) := hide ((below_alloc _ _).alloc (by simp) _)
  have HME := hide (Below.blk (below_alloc (w.alloc (.cells #[.int .i64 gn, .slice ra rs.length rc, .slice la ls.length lc, .slice oa os.length oc] 32)) (.map #[] 0)) HN1.out)
  have HO0 : Hid (((w.alloc (.cells #[.int .i64 gn, .slice ra rs.length rc, .slice la ls.length lc, .slice oa os.length oc] 32)).alloc (.map #[] 0)).ownsMap Tryd.prog 3 (plainElem Tryd.prog 3) (w.heap.size + 1) 0 (.map [] : DataW Unit)) := hide (by
    have h := World.ownsMap_made (w.alloc (.cells #[.int .i64 gn, .slice ra rs.length rc, .slice la ls.length lc, .slice oa os.length oc] 32)) Tryd.prog 3 (plainElem (H := Unit) Tryd.prog 3)
    rwa [show (w.alloc (.cells #[.int .i64 gn, .slice ra rs.length rc, .slice la ls.length lc, .slice oa os.length oc] 32)).heap.size = w.heap.size + 1 by simp] at h)
  have HL := hide hl
  have HR := hide hr.luts
  clear hl hr
  go_enter Tryd.func10, Tryd.ntmps10
  go_wp2_with fail
  clear hmm
  generalize (w.alloc (.cells #[.int .i64 gn, .slice ra rs.length rc, .slice la ls.length lc, .slice oa os.length oc] 32)).alloc (.map #[] 0) = w2 at *
  have HQ : Hid (∀ W : World, (∀ k, k < w2.heap.size → k ≠ w.heap.size + 1 → W.heap[k]? = w2.heap[k]?) → W.heap[w.heap.size]? = some (.cells #[.int .i64 gn, .slice ra rs.length rc, .slice la ls.length lc, .slice oa os.length oc] 32 (0, 0))) := hide fun W hW => (hW _ (blk_lt HME.out) (by omega)).trans HME.out
  go_loopw [4, 14] (fun v i wr => ∃ (k : Nat) (D : DataW Unit), k ≤ ls.length ∧ i = .int .i64 k ∧ v = .int .i64 (deepTo (gn + rs.length) ls k) ∧ Hid (wr.ownsMap Tryd.prog 3 (plainElem Tryd.prog 3) (w.heap.size + 1) k D) ∧ Hid (DepD (gn + rs.length) ls k D) ∧ Hid (Below w.heap.size w wr) ∧ Hid (w2.heap.size ≤ wr.heap.size ∧ ∀ k, k < w2.heap.size → k ≠ w.heap.size + 1 → wr.heap[k]? = w2.heap[k]?)) (fun _ i _ => ls.length - (intOf i).toNat)
  case atStart => exact ⟨0, .map [], Nat.zero_le _, rfl, rfl, HO0, hide (DepD.empty _ _), HB2, hide ⟨Nat.le_refl _, fun _ _ _ => rfl⟩⟩
  case round =>
    obtain ⟨k, D, hk, rfl, rfl, hown, hrd, hb, hsm⟩ := hrel
    by_cases hlt : k < ls.length
    · have hki : (k : Int) < (ls.length : Int) := by omega
      obtain ⟨b, off, ha, _, hbl, n0, n1⟩ := (HL.out.below hb.out).row.pair hlt
      have HINS := hide ((HL.out.below hb.out).ins k hlt)
      simp only [lutF, lutG] at n0 n1
      have HA := hide ha
      rw [HA.out]
      have hRL := rightL_iff.1 (HR.out k hlt)
      have HIR := hide hRL.ins
      have h4 := hRL.n4
      have HB5 : Hid (Below wr.heap.size wr (wr.alloc (.cells #[.slice (A k) (ltAt ls k).ins.length (C k), .int .i64 (ltAt ls k).table] 57))) := hide (below_alloc _ _)
      have x0 : (wr.alloc (.cells #[.slice (A k) (ltAt ls k).ins.length (C k), .int .i64 (ltAt ls k).table] 57)).cell? ⟨wr.heap.size, 0, none⟩ = some (.slice (A k) (ltAt ls k).ins.length (C k)) := by rw [blk_cell (blk_new _ _)]; rfl
      have HO1 : Hid ((wr.alloc (.cells #[.slice (A k) (ltAt ls k).ins.length (C k), .int .i64 (ltAt ls k).table] 57)).ownsMap Tryd.prog 3 (plainElem Tryd.prog 3) (w.heap.size + 1) k D) := hide (hown.out.alloc _)
      have HBS := hide (Below.step hb.out HB5.out)
      have HMS : Hid (w2.heap.size ≤ (wr.alloc (.cells #[.slice (A k) (ltAt ls k).ins.length (C k), .int .i64 (ltAt ls k).table] 57)).heap.size ∧ ∀ k', k' < w2.heap.size → k' ≠ w.heap.size + 1 → (wr.alloc (.cells #[.slice (A k) (ltAt ls k).ins.length (C k), .int .i64 (ltAt ls k).table] 57)).heap[k']? = w2.heap[k']?) := hide ⟨Nat.le_trans hsm.out.1 HB5.out.size, fun k' h1 h2 => (HB5.out.block k' (Nat.lt_of_lt_of_le h1 hsm.out.1)).trans (hsm.out.2 k' h1 h2)⟩
      have HI5 := hide (HINS.out.below HB5.out)
      have hme := HQ.out _ HMS.out.2
      have HCELL := hide (And.intro (blk_cell hme 0) (blk_cell hme 1))
      have HDP : Hid (∀ v : Nat, v = 1 + behd (gn + rs.length) (dpsTo (gn + rs.length) ls k) (ltAt ls k).ins → DepD (gn + rs.length) ls (k + 1) (D.put (.int .i64 ((gn + rs.length + k : Nat) : Int)) (.lit (.int .i64 (v : Int)))) ∧ (deepTo (gn + rs.length) ls (k + 1) : Nat) = max (deepTo (gn + rs.length) ls k) v) := hide fun v hv => ⟨hrd.out.put hown.out.isMap v hv, by rw [hv]; rfl⟩
      have HBL := hide (behTo_le2 (gn + rs.length) ls k (ltAt ls k).ins)
      have HDL := hide (deepTo_le (gn + rs.length) ls k)
      have HBE : Hid (behd (gn + rs.length) (dpsTo (gn + rs.length) ls k) (ltAt ls k).ins = behTo (gn + rs.length) (dpsTo (gn + rs.length) ls k) (ltAt ls k).ins (ltAt ls k).ins.length) := hide rfl
      clear ha hbl hRL hme
      generalize ltAt ls k = lt at *
      obtain ⟨ins, tb⟩ := lt
      simp only at n0 n1 x0 h4 HI5 HIR HBL HDP HBE
      go_wp2_with fail
      clear n0 n1 x0
      generalize wr.alloc (.cells #[.slice (A k) ins.length (C k), .int .i64 tb] 57) = W5 at *
      go_loop [7, 22] (fun v i => ∃ q : Nat, q ≤ ins.length ∧ i = .int .i64 q ∧ v = .int .i64 (1 + behTo (gn + rs.length) (dpsTo (gn + rs.length) ls k) ins q : Nat)) (fun _ i => ins.length - (intOf i).toNat)
      case atStart => exact ⟨0, Nat.zero_le _, rfl, rfl⟩
      case round =>
        obtain ⟨q, hq, rfl, rfl⟩ := hrel
        have hbl := HBL.out q
        by_cases hlq : q < ins.length
        · have hqi : (q : Int) < (ins.length : Int) := by omega
          obtain ⟨b2, off2, ha2, _, _, v0⟩ := HI5.out.ints hlq
          have HA2 := hide ha2
          rw [HA2.out]
          obtain ⟨sg, hsg⟩ := Int.eq_ofNat_of_zero_le (inR_iff.1 (HIR.out q hlq)).1
          have hsl := (inR_iff.1 (HIR.out q hlq)).2
          rw [hsg] at v0 hsl
          have hlk := hrd.out.look HO1.out sg (by omega)
          have HSTEP : Hid (behTo (gn + rs.length) (dpsTo (gn + rs.length) ls k) ins (q + 1) = max (behTo (gn + rs.length) (dpsTo (gn + rs.length) ls k) ins q) (depS (gn + rs.length) (dpsTo (gn + rs.length) ls k) sg)) := hide (by simp only [behTo]; rw [hsg, Int.toNat_natCast])
          have hdl := dps_le (gn + rs.length) ls k sg
          generalize depS (gn + rs.length) (dpsTo (gn + rs.length) ls k) sg = dv at *
          generalize hbq : behTo (gn + rs.length) (dpsTo (gn + rs.length) ls k) ins q = bq at *
          clear ha2 hsg hbq
          by_cases hge : 1 + bq ≤ dv
          · have hge2 : ((1 + bq : Nat) : Int) ≤ (dv : Int) := by omega
            have HS2 : Hid (1 + behTo (gn + rs.length) (dpsTo (gn + rs.length) ls k) ins (q + 1) = dv + 1) := hide (by rw [HSTEP.out]; omega)
            clear HSTEP
            go_wp2_with fail
            exact ⟨⟨q + 1, by omega, by go_num, by rw [HS2.out]; go_num⟩, by simp [intOf]; omega⟩
          · have hge2 : ¬ ((1 + bq : Nat) : Int) ≤ (dv : Int) := by omega
            have HS2 : Hid (1 + behTo (gn + rs.length) (dpsTo (gn + rs.length) ls k) ins (q + 1) = 1 + bq) := hide (by rw [HSTEP.out]; omega)
            clear HSTEP
            go_wp2_with fail
            exact ⟨⟨q + 1, by omega, by go_num, by rw [HS2.out]⟩, by simp [intOf]; omega⟩
        · have HK : Hid (q = ins.length) := hide (by omega)
          obtain ⟨HDN, HMX⟩ := HDP.out (1 + behTo (gn + rs.length) (dpsTo (gn + rs.length) ls k) ins q) (by rw [HBE.out, HK.out])
          have HDN := hide HDN
          have HMX := hide HMX
          have x0 : W5.cell? ⟨w.heap.size, 0, none⟩ = some (.int .i64 gn) := by rw [HCELL.out.1]; rfl
          have x1 : W5.cell? ⟨w.heap.size, 1, none⟩ = some (.slice ra rs.length rc) := by rw [HCELL.out.2]; rfl
          have HKC : Hid (((gn + rs.length + k : Nat) : Int) = (gn : Int) + rs.length + k) := hide (by omega)
          have HKL : Hid (keyOf Tryd.prog 3 (.int .i64 ((gn : Int) + rs.length + k)) = some (.int .i64 ((gn : Int) + rs.length + k))) := hide (by
            have := keyOf_int_mk (P := Tryd.prog) Tryd.underlying3 (wf_natD (k := gn + rs.length + k) (by omega))
            rwa [HKC.out] at this)
          rw [HKC.out] at HDN
          have hdl := HDL.out
          clear HDP HBE HBL HDL HCELL HIR HI5
          have hv6 : 1 + behTo (gn + rs.length) (dpsTo (gn + rs.length) ls k) ins q ≤ 1000000 := by omega
          generalize 1 + behTo (gn + rs.length) (dpsTo (gn + rs.length) ls k) ins q = v at *
          generalize hdm : deepTo (gn + rs.length) ls k = dm at *
          clear hdm
          by_cases hgt : (dm : Int) < (v : Int)
          · have HM2 : Hid (deepTo (gn + rs.length) ls (k + 1) = v) := hide (by rw [HMX.out]; omega)
            clear HMX
            go_wp2_with (first | (at_mapUpdate; refine wpList_mapUpdate_own _ rfl _ _ _ 69 rfl 3 3 lawI Tryd.underlying69 _ (w.heap.size + 1) k D rfl HO1.out (by unfold maxLen; omega) _ _ _ rfl rfl HKL.out _ [] (plainElem_int Tryd.underlying3 (wf_natD hv6)) ?_; intro w1 hown1 hg1; go_frame) | go_in)
            exact ⟨⟨k + 1, _, by omega, by go_num, by rw [HM2.out], hide hown1, hide HDN.out, hide (HBS.out.grown hg1 HBS.out.size (fun j hj => by cases hj; exact Nat.le_succ _)), hide ⟨Nat.le_trans HMS.out.1 hg1.size, fun k' h1 h2 => (hg1.block k' (Nat.lt_of_lt_of_le h1 HMS.out.1) (fun e => by cases e; exact h2 rfl)).trans (HMS.out.2 k' h1 h2)⟩⟩, by simp [intOf]; omega⟩
          · have HM2 : Hid (deepTo (gn + rs.length) ls (k + 1) = dm) := hide (by rw [HMX.out]; omega)
            clear HMX
            go_wp2_with (first | (at_mapUpdate; refine wpList_mapUpdate_own _ rfl _ _ _ 69 rfl 3 3 lawI Tryd.underlying69 _ (w.heap.size + 1) k D rfl HO1.out (by unfold maxLen; omega) _ _ _ rfl rfl HKL.out _ [] (plainElem_int Tryd.underlying3 (wf_natD hv6)) ?_; intro w1 hown1 hg1; go_frame) | go_in)
            exact ⟨⟨k + 1, _, by omega, by go_num, by rw [HM2.out], hide hown1, hide HDN.out, hide (HBS.out.grown hg1 HBS.out.size (fun j hj => by cases hj; exact Nat.le_succ _)), hide ⟨Nat.le_trans HMS.out.1 hg1.size, fun k' h1 h2 => (hg1.block k' (Nat.lt_of_lt_of_le h1 HMS.out.1) (fun e => by cases e; exact h2 rfl)).trans (HMS.out.2 k' h1 h2)⟩⟩, by simp [intOf]; omega⟩
    · have HK : Hid (k = ls.length) := hide (by omega)
      go_wp2_with fail
      go_ret
      exact ⟨ret_int (by rw [HK.out]; rfl), hb.out⟩
end Go.Proofs.YtjomaepncibjpaaDoor
