/-
  THE LAW DeviceSteps, its walk.
-/
import Derived.Test.YtndpehjbepfbkaaGreatDoorDRl
import Derived.Test.YtndpehjbepfbkaaGreatDoorLErr
import Derived.Test.YtndpehjbepfbkaaGreatDoorRSm
set_option linter.unusedSimpArgs false
set_option linter.unusedVariables false
namespace Go.Proofs.YtndpehjbepfbkaaGreatDoor
open Go.RowKit

/-- rows of numbers that came in -/
def rowI (gs : List (List Int)) (r : Nat) : List Int := gs[r]?.getD []
def GridI (w : World) (ga : Option Addr) (A : Nat → Option Addr) (C : Nat → Nat) (gs : List (List Int)) : Prop :=
  ∀ r, r < gs.length → (∃ b off, ga = some ⟨b, off, none⟩ ∧ w.cell? ⟨b, off + r, none⟩ = some (.slice (A r) (rowI gs r).length (C r))) ∧ Lies AnyB w (A r) (intsC (rowI gs r)) ∧ (rowI gs r).length ≤ maxLen
theorem GridI.below {w w' : World} {ga : Option Addr} {A : Nat → Option Addr} {C : Nat → Nat} {gs : List (List Int)} (h : GridI w ga A C gs) (hb : Below w.heap.size w w') : GridI w' ga A C gs := fun r hr => by
  obtain ⟨⟨b, off, h1, h2⟩, h3, h4⟩ := h r hr
  exact ⟨⟨b, off, h1, (hb.cell (cell_lt h2)).trans h2⟩, h3.below hb, h4⟩

/-- where the reference reads an image the code reads it -/
theorem agreeD1 {l : List UInt8} {gn : Nat} {rs : List Rg} {ls : List Lt} {os ins outs : List Int} (hR : RightT gn rs ls os) (hb : netB gn rs ls os = l) {B : Nat} {e : Ending} {w : World} (hi : NewI l ins outs B e w) : NewOf gn rs ls os ins outs B e w := by
  obtain ⟨g1, rs1, ls1, os1, l1, h1, c1⟩ := hi
  have h3 : NetRd (netB gn rs ls os ++ []) g1 rs1 ls1 os1 l1 := by rw [List.append_nil, hb]; exact h1
  obtain ⟨rfl, rfl, rfl, rfl, _⟩ := netRd_code hR h3
  rcases c1 with ⟨_, _, hq⟩ | ⟨hn, _⟩
  · exact hq
  · exfalso
    rcases hn with hn | hn
    · rw [rightT_iff.2 hR] at hn; cases hn
    · exact hn hb
/-- where it reads none the code reads none -/
theorem agreeD2 {l : List UInt8} {gn : Nat} {rs : List Rg} {ls : List Lt} {os ins outs : List Int} {t : Tk} (hq : NetQd l gn rs ls os t) (hn : t ≠ ([], false) ∨ rightT gn rs ls os = false ∨ netB gn rs ls os ≠ l) {B : Nat} {e : Ending} {w : World} (hi : NewI l ins outs B e w) : e = .returned (.tuple #[.pointer none, .iface 25 (.int .i64 3)]) := by
  obtain ⟨g1, rs1, ls1, os1, l1, h1, c1⟩ := hi
  rcases c1 with ⟨hR, hb, _⟩ | ⟨_, he⟩
  · exfalso
    rw [← hb] at hq
    obtain ⟨rfl, rfl, rfl, rfl, rfl⟩ := netQd_code hR hq
    rcases hn with hn | hn | hn
    · exact hn rfl
    · rw [rightT_iff.2 hR] at hn; cases hn
    · exact hn hb
  · exact he

def EType (w : World) : Prop := w.cell? ⟨0, 0, none⟩ = some (.iface 171 (.agg #[.pointer (some ⟨4, 30, none⟩)]))
theorem EType.below {w w' : World} (h : EType w) (hb : Below w.heap.size w w') : EType w' := (hb.cell (cell_lt h)).trans h
theorem bare_v (e : Int) (w : World) (hg : EType w) : Calls Tryz.prog 6 #[errV e, .int .i64 e] w fun e w' => e = .returned (.bool true) ∧ Below w.heap.size w w' := by
  unfold errV
  by_cases h : e = 0
  · subst h; exact bare_nil w
  · rw [if_neg h]; exact bare_e e w hg

/-- both devices hold the same -/
structure Both (R D : Nat) (s : NetQ) (B : Nat) (w : World) (gn : Nat) (rs : List Rg) (ls : List Lt) (os : List Int) (held : List Bool) (ins outs : List Int) : Prop where
  ref : RefAt R (fun b => b ≠ R ∧ b ≠ D ∧ b ≠ s.p) w gn rs ls os held ins outs
  dev : DevAt D s (DevS B s.p D) w gn rs ls os held ins outs
  RB : R < B
  DB : B ≤ D
  sB : B ≤ s.p
theorem Both.below {R D : Nat} {s : NetQ} {B : Nat} {w w' : World} {gn : Nat} {rs : List Rg} {ls : List Lt} {os : List Int} {held : List Bool} {ins outs : List Int} (h : Both R D s B w gn rs ls os held ins outs) (hb : Below w.heap.size w w') : Both R D s B w' gn rs ls os held ins outs := ⟨h.ref.below hb, h.dev.below hb, h.RB, h.DB, h.sB⟩
theorem Both.rs {R D : Nat} {s : NetQ} {B : Nat} {w : World} {gn : Nat} {rs : List Rg} {ls : List Lt} {os : List Int} {held : List Bool} {ins outs : List Int} (h : Both R D s B w gn rs ls os held ins outs) : ∀ b, w.heap.size ≤ b → b ≠ R ∧ b ≠ D ∧ b ≠ s.p := fun b hb => by
  have h1 := h.ref.lt
  have h2 := h.dev.lt
  have h3 := h.dev.sim.lt
  exact ⟨by omega, by omega, by omega⟩
theorem Both.ds {R D : Nat} {s : NetQ} {B : Nat} {w : World} {gn : Nat} {rs : List Rg} {ls : List Lt} {os : List Int} {held : List Bool} {ins outs : List Int} (h : Both R D s B w gn rs ls os held ins outs) : ∀ b, w.heap.size ≤ b → DevS B s.p D b := fun b hb => by
  have h2 := h.dev.lt
  have h3 := h.dev.sim.lt
  have h4 := h.DB
  exact ⟨by omega, by omega, by omega⟩
/-- the device goes, the reference's stays -/
theorem Both.refStays {R D : Nat} {s : NetQ} {B : Nat} {w w' : World} {gn : Nat} {rs : List Rg} {ls : List Lt} {os : List Int} {held : List Bool} {ins outs : List Int} (h : Both R D s B w gn rs ls os held ins outs) (hk : Kept s.p w w') : RefAt R (fun b => b ≠ R ∧ b ≠ D ∧ b ≠ s.p) w' gn rs ls os held ins outs :=
  h.ref.other hk (by have := h.RB; have := h.sB; omega) (fun hh => hh.2.2 rfl)
theorem Both.devStays {R D : Nat} {s : NetQ} {B : Nat} {w w' : World} {gn : Nat} {rs : List Rg} {ls : List Lt} {os : List Int} {held held' : List Bool} {ins outs : List Int} (h : Both R D s B w gn rs ls os held ins outs) {w1 : World} (hd : DevAt D s (DevS B s.p D) w1 gn rs ls os held' ins outs) (hk : Kept R w1 w') : DevAt D s (DevS B s.p D) w' gn rs ls os held' ins outs :=
  hd.other hk (by have := h.RB; have := h.DB; omega) (by have := h.RB; have := h.sB; omega) (fun hh => by have := h.RB; have := hh.1; omega)

set_option maxRecDepth 100000 in
set_option maxHeartbeats 3200000 in
theorem ds_big (l ld : ByteArray) (ia oa ga : Option Addr) (il ic ol oc gl gc : Nat) (w : World) (h : (500 : Int) < (l.size : Int) ∨ (20 : Int) < (il : Int) ∨ (20 : Int) < (ol : Int) ∨ (30 : Int) < (gl : Int) ∨ (100 : Int) < (ld.size : Int)) :
    Calls Tryz.prog 3 #[.string l, .slice ia il ic, .slice oa ol oc, .slice ga gl gc, .string ld] w fun e w' => e = .returned (.bool true) ∧ Below w.heap.size w w' := by
  by_cases h1 : (500 : Int) < (l.size : Int)
  · clear h
    go_enter Tryz.func3, Tryz.ntmps3
    go_wp2_with fail
    go_ret
    exact ⟨rfl, Below.refl _ _⟩
  · by_cases h2 : (20 : Int) < (il : Int)
    · clear h
      go_enter Tryz.func3, Tryz.ntmps3
      go_wp2_with fail
      go_ret
      exact ⟨rfl, Below.refl _ _⟩
    · by_cases h3 : (20 : Int) < (ol : Int)
      · clear h
        go_enter Tryz.func3, Tryz.ntmps3
        go_wp2_with fail
        go_ret
        exact ⟨rfl, Below.refl _ _⟩
      · by_cases h4 : (30 : Int) < (gl : Int)
        · clear h
          go_enter Tryz.func3, Tryz.ntmps3
          go_wp2_with fail
          go_ret
          exact ⟨rfl, Below.refl _ _⟩
        · have h5 : (100 : Int) < (ld.size : Int) := by omega
          clear h
          go_enter Tryz.func3, Tryz.ntmps3
          go_wp2_with fail
          go_ret
          exact ⟨rfl, Below.refl _ _⟩

set_option maxRecDepth 100000 in
set_option maxHeartbeats 12800000 in
theorem ds_at (l ld : List UInt8) (ins outs : List Int) (ia oa ga : Option Addr) (ic oc gc : Nat) (A : Nat → Option Addr) (C : Nat → Nat) (gs : List (List Int)) (w : World) (hi : Lies AnyB w ia (intsC ins)) (ho : Lies AnyB w oa (intsC outs)) (hgr : GridI w ga A C gs) (hdl : EType w) (hl : (l.length : Int) ≤ 500) (hil : (ins.length : Int) ≤ 20) (hol : (outs.length : Int) ≤ 20) (hgl : (gs.length : Int) ≤ 30) (hld : (ld.length : Int) ≤ 100) :
    Calls Tryz.prog 3 #[.string ⟨l.toArray⟩, .slice ia ins.length ic, .slice oa outs.length oc, .slice ga gs.length gc, .string ⟨ld.toArray⟩] w fun e w' => e = .returned (.bool true) ∧ Below w.heap.size w w' := by
  have hsz : (⟨l.toArray⟩ : ByteArray).size = l.length := str_size l
  have hsz2 : (⟨ld.toArray⟩ : ByteArray).size = ld.length := str_size ld
  have HRN := hide (rdnew_at l ins outs ia oa ic oc w hi ho (by omega) (by omega) (by omega))
  have HI := hide hi
  have HO := hide ho
  have HGR := hide hgr
  have HDL := hide hdl
  have hqe : ∀ (v : Value) (w : World), (binOp .eql 30 (.iface 25 v) .nilIface).run Tryz.prog w = .ok (.bool false) w := fun _ _ => rfl
  clear hi ho hgr hdl
  go_enter Tryz.func3, Tryz.ntmps3
  go_wp2_with fail
  refine HRN.out.mono ?_
  rintro e w1 ⟨hc, hb1⟩
  have HB1 := hide hb1
  have HD1 := hide (HDL.out.below hb1)
  clear hb1 HRN
  rcases hc with ⟨hno, rfl⟩ | ⟨hyes, gn, rs, ls, os, t, hrd, hcase⟩
  · have HDN := hide (dnew_no ⟨l.toArray⟩ ins outs ia oa ic oc w1 (HI.out.below HB1.out) (HO.out.below HB1.out) (by omega) (by omega) hno)
    clear hno
    go_wp2_with fail
    refine HDN.out.mono ?_
    rintro e w2 ⟨rfl, hb2⟩
    have HB2 := hide (Below.step HB1.out hb2)
    have HBE := hide (bare_e 1 w2 (HD1.out.below hb2))
    have HDD := hide (HD1.out.below hb2)
    clear hb2 HDN
    go_wp2_with fail
    refine HBE.out.mono ?_
    rintro e w3 ⟨rfl, hb3⟩
    have HB3 := hide (Below.step HB2.out hb3)
    have HBE2 := hide (bare_e 1 w3 (HDD.out.below hb3))
    clear hb3 HBE
    go_wp2_with fail
    refine HBE2.out.mono ?_
    rintro e w4 ⟨rfl, hb4⟩
    have HB4 := hide (Below.step HB3.out hb4)
    clear hb4 HBE2
    go_wp2_with fail
    go_ret
    exact ⟨rfl, HB4.out⟩
  · have hk := Bool.and_eq_true_iff.1 hyes
    have HDN := hide (dnew_at l ins outs ia oa ic oc w1 (HI.out.below HB1.out) (HO.out.below HB1.out) (by omega) (by omega) (by omega) hk.1 hk.2)
    clear hk hyes
    rcases hcase with ⟨hR, hN, hof⟩ | ⟨hn, rfl⟩
    · have HAG : Hid (∀ (B : Nat) (e : Ending) (W : World), NewI l ins outs B e W → NewOf gn rs ls os ins outs B e W) := hide fun B e W hi => agreeD1 hR hN hi
      have HR := hide hR
      clear hN hrd
      rcases hof with ⟨hgi, hoo, R, rfl, href, hRB⟩ | ⟨hne, rfl⟩
      · have HRF := hide href
        have HRB := hide hRB
        have HOO := hide hoo
        have hr20 := hR.r1
        have HGI := hide hgi
        clear href hRB hgi hoo hR
        go_wp2_with fail
        refine HDN.out.mono ?_
        rintro e w2 ⟨hnew, hb2⟩
        rcases HAG.out _ _ _ hnew with ⟨_, _, D, s, rfl, hdev, hDB, hsB⟩ | ⟨hne, rfl⟩
        · have HBT : Hid (Both R D s w1.heap.size w2 gn rs ls os (initL rs) ins outs) := hide ⟨(HRF.out.imp (fun b hl hb => ⟨hb, by omega, by omega⟩) (fun hh => hh.1 rfl)).below hb2, hdev, HRF.out.lt, hDB, hsB⟩
          have HB2 := hide (Below.step HB1.out hb2)
          have HD2 := hide (HD1.out.below hb2)
          have HWB : Hid (w.heap.size ≤ w1.heap.size) := hide HB1.out.size
          clear hnew hb2 hdev hDB hsB HDN HAG HRF
          have HBN := hide (bare_nil w2)
          go_wp2_with fail
          refine HBN.out.mono ?_
          rintro e w3 ⟨rfl, hb3⟩
          have HBT3 := hide (HBT.out.below hb3)
          have HB3 := hide (Below.step HB2.out hb3)
          clear hb3 HBN HBT HD2 HD1
          go_wp2_with fail
          go_loopw [15] (fun i wr => ∃ (k : Nat) (held : List Bool), k ≤ gs.length ∧ i = .int .i64 k ∧ Hid (Both R D s w1.heap.size wr gn rs ls os held ins outs) ∧ Hid (Below w.heap.size w wr)) (fun i _ => gs.length - (intOf i).toNat)
          case atStart => exact ⟨0, initL rs, Nat.zero_le _, rfl, HBT3, HB3⟩
          case round =>
            clear HBT3 HB3 HB2
            obtain ⟨k, held, hk, rfl, hbt, hbw⟩ := hrel
            by_cases hlt : k < gs.length
            · have hki : (k : Int) < (gs.length : Int) := by omega
              obtain ⟨⟨gb, goff, hga, q0⟩, hgv, hgm⟩ := (HGR.out.below hbw.out) k hlt
              have HA := hide hga
              rw [HA.out]
              have hgbl : gb < w.heap.size := by
                obtain ⟨⟨gb2, goff2, hga2, q2⟩, _⟩ := HGR.out k hlt
                rw [hga] at hga2
                cases hga2
                exact cell_lt q2
              have HSW : Hid (∀ W, Below w.heap.size w W → W.cell? ⟨gb, goff + k, none⟩ = some (.slice (A k) (rowI gs k).length (C k))) := hide fun W hW => by
                obtain ⟨⟨gb2, goff2, hga2, q2⟩, _⟩ := (HGR.out.below hW) k hlt
                rw [hga] at hga2
                cases hga2
                exact q2
              have HGV : Hid (∀ W, Below w.heap.size w W → Lies AnyB W (A k) (intsC (rowI gs k))) := hide fun W hW => ((HGR.out.below hW) k hlt).2.1
              generalize rowI gs k = gv at *
              clear hga hgv
              by_cases h30 : (30 : Int) < (gv.length : Int)
              · go_wp2_with fail
                go_quiet (fail)
                go_wp2_with fail
                go_ret
                exact ⟨rfl, Below.drewNs hbw.out _⟩
              · have HBY : Hid (Below w.heap.size w wr.drew) := hide (Below.step hbw.out (Below.refl _ _).drew)
                have HBTY := hide (hbt.out.below (Below.refl _ _).drew)
                have HOO2 := hide HOO.out
                clear hbt hbw
                go_wp2_with fail
                refine wp_region_held_drew (S := fun W => W.cell? ⟨gb, goff + k, none⟩ = some (.slice (A k) gv.length (C k))) (by kernel_rfl) (HSW.out _ HBY.out) (fun _ => ?_)
                generalize wr.drew = y0 at *
                refine wpAnyH_take (i := 0) (oi := ⟨some 74, _, _, _, _, _⟩) (v := (.slice (some ⟨gb, goff, none⟩) gs.length gc)) rfl (by kernel_rfl) (by kernel_rfl) (by kernel_rfl) (fun _ _ _ h => h) (Or.inl ⟨by rfl, fun W hS => by (have s0 := hS; go_simp)⟩) (HSW.out _ HBY.out) ?_
                simp only [Act.put, List.setIfInBounds_toArray, List.set_cons_zero, List.set_cons_succ]
                refine wpAnyH_take (i := 1) (oi := ⟨some 75, _, _, _, _, _⟩) (v := (.int .i64 k)) rfl (by kernel_rfl) (by kernel_rfl) (by kernel_rfl) (fun _ _ _ h => h) (Or.inl ⟨by rfl, fun W hS => by (have s0 := hS; go_simp)⟩) (HSW.out _ HBY.out) ?_
                simp only [Act.put, List.setIfInBounds_toArray, List.set_cons_zero, List.set_cons_succ]
                refine wpAnyH_take (i := 2) (oi := ⟨some 76, _, _, _, _, _⟩) (v := (.pointer (some ⟨gb, goff + k, none⟩))) rfl (by kernel_rfl) (by kernel_rfl) (by kernel_rfl) (fun _ _ _ h => h) (Or.inl ⟨by rfl, fun W hS => by (have s0 := hS; go_simp)⟩) (HSW.out _ HBY.out) ?_
                simp only [Act.put, List.setIfInBounds_toArray, List.set_cons_zero, List.set_cons_succ]
                refine wpAnyH_take (i := 3) (oi := ⟨some 77, _, _, _, _, _⟩) (v := (.slice (A k) gv.length (C k))) rfl (by kernel_rfl) (by kernel_rfl) (by kernel_rfl) (fun _ _ _ h => h) (Or.inl ⟨by rfl, fun W hS => by (have s0 := hS; go_simp)⟩) (HSW.out _ HBY.out) ?_
                simp only [Act.put, List.setIfInBounds_toArray, List.set_cons_zero, List.set_cons_succ]
                refine wpAnyH_take (i := 4) (oi := ⟨some 78, _, _, _, _, _⟩) (v := (.int .i64 gv.length)) rfl (by kernel_rfl) (by kernel_rfl) (by kernel_rfl) (fun _ _ _ h => h) (Or.inl ⟨by rfl, fun W hS => by (have s0 := hS; go_simp)⟩) (HSW.out _ HBY.out) ?_
                simp only [Act.put, List.setIfInBounds_toArray, List.set_cons_zero, List.set_cons_succ]
                refine wpAnyH_take (i := 5) (oi := ⟨some 79, _, _, _, _, _⟩) (v := (.bool false)) rfl (by kernel_rfl) (by kernel_rfl) (by kernel_rfl) (fun _ _ _ h => h) (Or.inl ⟨by rfl, fun W hS => by (have s0 := hS; go_simp)⟩) (HSW.out _ HBY.out) ?_
                simp only [Act.put, List.setIfInBounds_toArray, List.set_cons_zero, List.set_cons_succ]
                refine wpAnyH_take (i := 6) (oi := ⟨some 80, _, _, _, _, _⟩) (v := (.bool false)) rfl (by kernel_rfl) (by kernel_rfl) (by kernel_rfl) (fun _ _ _ h => h) (Or.inl ⟨by rfl, fun W hS => by (have s0 := hS; go_simp)⟩) (HSW.out _ HBY.out) ?_
                simp only [Act.put, List.setIfInBounds_toArray, List.set_cons_zero, List.set_cons_succ]
                refine wpAnyH_take (i := 7) (oi := ⟨some 81, _, _, _, _, _⟩) (v := (.pointer (some ⟨D, 0, none⟩))) rfl (by kernel_rfl) (by kernel_rfl) (by kernel_rfl) (fun _ _ _ h => h) (Or.inl ⟨by rfl, fun W hS => by (have s0 := hS; go_simp)⟩) (HSW.out _ HBY.out) ?_
                simp only [Act.put, List.setIfInBounds_toArray, List.set_cons_zero, List.set_cons_succ]
                refine wpAnyH_take (i := 8) (oi := ⟨some 82, _, _, _, _, _⟩) (v := (.slice (some ⟨gb, goff, none⟩) gs.length gc)) rfl (by kernel_rfl) (by kernel_rfl) (by kernel_rfl) (fun _ _ _ h => h) (Or.inl ⟨by rfl, fun W hS => by (have s0 := hS; go_simp)⟩) (HSW.out _ HBY.out) ?_
                simp only [Act.put, List.setIfInBounds_toArray, List.set_cons_zero, List.set_cons_succ]
                refine wpAnyH_take (i := 9) (oi := ⟨some 83, _, _, _, _, _⟩) (v := (.int .i64 k)) rfl (by kernel_rfl) (by kernel_rfl) (by kernel_rfl) (fun _ _ _ h => h) (Or.inl ⟨by rfl, fun W hS => by (have s0 := hS; go_simp)⟩) (HSW.out _ HBY.out) ?_
                simp only [Act.put, List.setIfInBounds_toArray, List.set_cons_zero, List.set_cons_succ]
                refine wpAnyH_take (i := 13) (oi := ⟨some 87, _, _, _, _, _⟩) (v := (.pointer (some ⟨R, 0, none⟩))) rfl (by kernel_rfl) (by kernel_rfl) (by kernel_rfl) (fun _ _ _ h => h) (Or.inl ⟨by rfl, fun W hS => by (have s0 := hS; go_simp)⟩) (HSW.out _ HBY.out) ?_
                simp only [Act.put, List.setIfInBounds_toArray, List.set_cons_zero, List.set_cons_succ]
                refine wpAnyH_take (i := 14) (oi := ⟨some 88, _, _, _, _, _⟩) (v := (.slice (some ⟨gb, goff, none⟩) gs.length gc)) rfl (by kernel_rfl) (by kernel_rfl) (by kernel_rfl) (fun _ _ _ h => h) (Or.inl ⟨by rfl, fun W hS => by (have s0 := hS; go_simp)⟩) (HSW.out _ HBY.out) ?_
                simp only [Act.put, List.setIfInBounds_toArray, List.set_cons_zero, List.set_cons_succ]
                refine wpAnyH_take (i := 15) (oi := ⟨some 89, _, _, _, _, _⟩) (v := (.int .i64 k)) rfl (by kernel_rfl) (by kernel_rfl) (by kernel_rfl) (fun _ _ _ h => h) (Or.inl ⟨by rfl, fun W hS => by (have s0 := hS; go_simp)⟩) (HSW.out _ HBY.out) ?_
                simp only [Act.put, List.setIfInBounds_toArray, List.set_cons_zero, List.set_cons_succ]
                refine wpAnyH_take (i := 10) (oi := ⟨some 84, _, _, _, _, _⟩) (v := (.pointer (some ⟨gb, goff + k, none⟩))) rfl (by kernel_rfl) (by kernel_rfl) (by kernel_rfl) (fun _ _ _ h => h) (Or.inl ⟨by rfl, fun W hS => by (have s0 := hS; go_simp)⟩) (HSW.out _ HBY.out) ?_
                simp only [Act.put, List.setIfInBounds_toArray, List.set_cons_zero, List.set_cons_succ]
                refine wpAnyH_take (i := 16) (oi := ⟨some 90, _, _, _, _, _⟩) (v := (.pointer (some ⟨gb, goff + k, none⟩))) rfl (by kernel_rfl) (by kernel_rfl) (by kernel_rfl) (fun _ _ _ h => h) (Or.inl ⟨by rfl, fun W hS => by (have s0 := hS; go_simp)⟩) (HSW.out _ HBY.out) ?_
                simp only [Act.put, List.setIfInBounds_toArray, List.set_cons_zero, List.set_cons_succ]
                refine wpAnyH_take (i := 11) (oi := ⟨some 85, _, _, _, _, _⟩) (v := (.slice (A k) gv.length (C k))) rfl (by kernel_rfl) (by kernel_rfl) (by kernel_rfl) (fun _ _ _ h => h) (Or.inl ⟨by rfl, fun W hS => by (have s0 := hS; go_simp)⟩) (HSW.out _ HBY.out) ?_
                simp only [Act.put, List.setIfInBounds_toArray, List.set_cons_zero, List.set_cons_succ]
                refine wpAnyH_take (i := 17) (oi := ⟨some 91, _, _, _, _, _⟩) (v := (.slice (A k) gv.length (C k))) rfl (by kernel_rfl) (by kernel_rfl) (by kernel_rfl) (fun _ _ _ h => h) (Or.inl ⟨by rfl, fun W hS => by (have s0 := hS; go_simp)⟩) (HSW.out _ HBY.out) ?_
                simp only [Act.put, List.setIfInBounds_toArray, List.set_cons_zero, List.set_cons_succ]
                refine wpAnyH_ready (rs := [12]) (by kernel_rfl) (by simp) ?_
                refine AllReadyH.cons rfl (fun K hK => ?_) AllReadyH.nil
                go_simp
                refine (dstep_at HBTY.out.dev HR.out gv (A k) (C k) (HGV.out _ HBY.out) (by omega) (by omega) (by omega) HOO.out HBTY.out.ds).mono ?_
                rintro e y1 ⟨⟨O, rfl, hO, hOb⟩, hdev, hk1⟩
                have HREF1 := hide (HBTY.out.refStays hk1)
                have HDEV1 := hide hdev
                have HOB1 := hide hOb
                have HSP := hide (Nat.le_trans HWB.out HBTY.out.sB)
                have HRBB := hide HRB.out
                have HB1Y : Hid (Below w.heap.size w y1) := hide (by
                  have h1 := HBY.out
                  have h2 := HSP.out
                  exact ⟨hk1.os.trans h1.os, hk1.tape.trans h1.tape, hk1.output.trans h1.output, Nat.le_trans h1.size hk1.size, fun x hx => (hk1.block x (Nat.lt_of_lt_of_le hx h1.size) (by omega)).trans (h1.block x hx)⟩)
                have HRO : Hid (R ≠ O) := hide (by have := HBTY.out.ref.lt; omega)
                have HOL : Hid (O < y1.heap.size) := hide (blk_lt hOb)
                have HY01 := hide hk1.size
                clear hO hOb hdev hk1
                refine hK.out _ _ (HSW.out _ HB1Y.out) (fun _ => ?_)
                clear hK K
                refine wpAnyH_ready (rs := [18]) (by kernel_rfl) (by simp) ?_
                refine AllReadyH.cons rfl (fun K hK => ?_) AllReadyH.nil
                go_simp
                refine (rdstep_at HREF1.out HR.out gv (A k) (C k) (HGV.out _ HB1Y.out) (by omega) (by omega) (by omega) HOO.out (fun b hb => HBTY.out.rs b (Nat.le_trans HY01.out hb))).mono ?_
                rintro e y2 ⟨⟨va, vc, rfl, hva⟩, href2, hk2⟩
                have HBT2 : Hid (Both R D s w1.heap.size y2 gn rs ls os (nextL (lookL gn (givenTo ins gv ins.length) held ls) rs) ins outs) := hide ⟨href2, HBTY.out.devStays HDEV1.out hk2, HBTY.out.RB, HBTY.out.DB, HBTY.out.sB⟩
                have HVA := hide hva
                have HOB2 := hide (hk2.blk HOB1.out (fun e => HRO.out e.symm))
                have HB2Y : Hid (Below w.heap.size w y2) := hide (by
                  have h1 := HB1Y.out
                  have h2 := HRBB.out
                  exact ⟨hk2.os.trans h1.os, hk2.tape.trans h1.tape, hk2.output.trans h1.output, Nat.le_trans h1.size hk2.size, fun x hx => (hk2.block x (Nat.lt_of_lt_of_le hx h1.size) (by omega)).trans (h1.block x hx)⟩)
                clear href2 hk2 hva
                refine hK.out _ _ (HSW.out _ HB2Y.out) (fun _ => ?_)
                clear hK K
                have HNL := hide (nums_len outs (outsL (lookL gn (givenTo ins gv ins.length) held ls) os))
                generalize nums outs (outsL (lookL gn (givenTo ins gv ins.length) held ls) os) = nl at *
                generalize nextL (lookL gn (givenTo ins gv ins.length) held ls) rs = held2 at *
                clear HREF1 HDEV1 HOB1 HBTY
                refine wpAnyH_ready (rs := [19]) (by kernel_rfl) (by simp) ?_
                refine AllReadyH.cons rfl (fun K hK => ?_) AllReadyH.nil
                go_simp
                have HSI := hide (sameI_at nl (some ⟨O, 0, none⟩) va outs.length vc y2 (Lies.blk (S := AnyB) HOB2.out trivial) HVA.out (by rw [HNL.out]; omega))
                rw [HNL.out] at HSI
                refine HSI.out.mono ?_
                rintro e y3 ⟨rfl, hb3⟩
                have HBT3 := hide (HBT2.out.below hb3)
                have HB3Y := hide (Below.step HB2Y.out hb3)
                clear hb3 HSI
                refine hK.out _ _ (HSW.out _ HB3Y.out) (fun _ => ?_)
                clear hK K
                refine wpAnyH_take (i := 20) (oi := ⟨some 94, _, _, _, _, _⟩) (v := (.bool false)) rfl (by kernel_rfl) (by kernel_rfl) (by kernel_rfl) (fun _ _ _ h => h) (Or.inl ⟨by rfl, fun W hS => by (have s0 := hS; go_simp)⟩) (HSW.out _ HB3Y.out) ?_
                simp only [Act.put, List.setIfInBounds_toArray, List.set_cons_zero, List.set_cons_succ]
                refine wpAnyH_take (i := 21) (oi := ⟨some 95, _, _, _, _, _⟩) (v := (.bool false)) rfl (by kernel_rfl) (by kernel_rfl) (by kernel_rfl) (fun _ _ _ h => h) (Or.inl ⟨by rfl, fun W hS => by (have s0 := hS; go_simp)⟩) (HSW.out _ HB3Y.out) ?_
                simp only [Act.put, List.setIfInBounds_toArray, List.set_cons_zero, List.set_cons_succ]
                refine wpAnyH_take (i := 22) (oi := ⟨some 96, _, _, _, _, _⟩) (v := (.bool false)) rfl (by kernel_rfl) (by kernel_rfl) (by kernel_rfl) (fun _ _ _ h => h) (Or.inl ⟨by rfl, fun W hS => by (have s0 := hS; go_simp)⟩) (HSW.out _ HB3Y.out) ?_
                simp only [Act.put, List.setIfInBounds_toArray, List.set_cons_zero, List.set_cons_succ]
                refine wpAnyH_take (i := 23) (oi := ⟨some 97, _, _, _, _, _⟩) (v := (.pointer (some ⟨D, 0, none⟩))) rfl (by kernel_rfl) (by kernel_rfl) (by kernel_rfl) (fun _ _ _ h => h) (Or.inl ⟨by rfl, fun W hS => by (have s0 := hS; go_simp)⟩) (HSW.out _ HB3Y.out) ?_
                simp only [Act.put, List.setIfInBounds_toArray, List.set_cons_zero, List.set_cons_succ]
                refine wpAnyH_take (i := 25) (oi := ⟨some 99, _, _, _, _, _⟩) (v := (.pointer (some ⟨R, 0, none⟩))) rfl (by kernel_rfl) (by kernel_rfl) (by kernel_rfl) (fun _ _ _ h => h) (Or.inl ⟨by rfl, fun W hS => by (have s0 := hS; go_simp)⟩) (HSW.out _ HB3Y.out) ?_
                simp only [Act.put, List.setIfInBounds_toArray, List.set_cons_zero, List.set_cons_succ]
                refine wpAnyH_ready (rs := [24]) (by kernel_rfl) (by simp) ?_
                refine AllReadyH.cons rfl (fun K hK => ?_) AllReadyH.nil
                go_simp
                refine (dsave_at HBT3.out.dev hr20).mono ?_
                rintro e y4 ⟨rfl, hb4⟩
                have HBT4 := hide (HBT3.out.below hb4)
                have HB4Y := hide (Below.step HB3Y.out hb4)
                clear hb4
                refine hK.out _ _ (HSW.out _ HB4Y.out) (fun _ => ?_)
                clear hK K
                refine wpAnyH_ready (rs := [26]) (by kernel_rfl) (by simp) ?_
                refine AllReadyH.cons rfl (fun K hK => ?_) AllReadyH.nil
                go_simp
                refine (rdsave_at HBT4.out.ref hr20).mono ?_
                rintro e y5 ⟨rfl, hb5⟩
                have HBT5 := hide (HBT4.out.below hb5)
                have HB5Y := hide (Below.step HB4Y.out hb5)
                clear hb5
                refine hK.out _ _ (HSW.out _ HB5Y.out) (fun _ => ?_)
                clear hK K
                generalize (⟨(saveB held2).toArray⟩ : ByteArray) = sv at *
                refine wpAnyH_take (i := 27) (oi := ⟨some 101, _, _, _, _, _⟩) (v := (.bool false)) rfl (by kernel_rfl) (by kernel_rfl) (by kernel_rfl) (fun _ _ _ h => h) (Or.inl ⟨by rfl, fun W hS => by (have s0 := hS; go_simp)⟩) (HSW.out _ HB5Y.out) ?_
                simp only [Act.put, List.setIfInBounds_toArray, List.set_cons_zero, List.set_cons_succ]
                refine wpAnyH_take (i := 28) (oi := ⟨some 102, _, _, _, _, _⟩) (v := (.bool false)) rfl (by kernel_rfl) (by kernel_rfl) (by kernel_rfl) (fun _ _ _ h => h) (Or.inl ⟨by rfl, fun W hS => by (have s0 := hS; go_simp)⟩) (HSW.out _ HB5Y.out) ?_
                simp only [Act.put, List.setIfInBounds_toArray, List.set_cons_zero, List.set_cons_succ]
                refine wpAnyH_done (by kernel_rfl) ?_ _
                clear HBT2 HBT3 HBT4 HB3Y HB4Y HB2Y HB1Y q0
                by_cases h2 : k = 2
                · subst h2
                  have HLD := hide (dload_at HBT5.out.dev ld (by omega) hr20 HBT5.out.ds)
                  go_wp2_with fail
                  refine HLD.out.mono ?_
                  rintro e y6 ⟨rfl, hdev6, hk6⟩
                  have HREF6 := hide (HBT5.out.refStays hk6)
                  have HDEV6 := hide hdev6
                  have HB6Y : Hid (Below w.heap.size w y6) := hide (by
                    have h1 := HB5Y.out
                    have h2 := HSP.out
                    exact ⟨hk6.os.trans h1.os, hk6.tape.trans h1.tape, hk6.output.trans h1.output, Nat.le_trans h1.size hk6.size, fun x hx => (hk6.block x (Nat.lt_of_lt_of_le hx h1.size) (by omega)).trans (h1.block x hx)⟩)
                  have HY56 := hide hk6.size
                  clear hdev6 hk6 HLD
                  have HRL := hide (rdload_at HREF6.out ld (by omega) (fun b hb => HBT5.out.rs b (Nat.le_trans HY56.out hb)))
                  generalize hle : LoadD ld rs.length = le at *
                  clear hle
                  go_wp2_with fail
                  refine HRL.out.mono ?_
                  rintro e y7 ⟨rfl, href7, hk7⟩
                  have HBT7 : Hid (Both R D s w1.heap.size y7 gn rs ls os (heldB ld held2 le) ins outs) := hide ⟨href7, HBT5.out.devStays HDEV6.out hk7, HBT5.out.RB, HBT5.out.DB, HBT5.out.sB⟩
                  have HB7Y : Hid (Below w.heap.size w y7) := hide (by
                    have h1 := HB6Y.out
                    have h2 := HRBB.out
                    exact ⟨hk7.os.trans h1.os, hk7.tape.trans h1.tape, hk7.output.trans h1.output, Nat.le_trans h1.size hk7.size, fun x hx => (hk7.block x (Nat.lt_of_lt_of_le hx h1.size) (by omega)).trans (h1.block x hx)⟩)
                  clear href7 hk7 HRL
                  have HBV := hide (bare_v le y7 (HDL.out.below HB7Y.out))
                  go_wp2_with fail
                  refine HBV.out.mono ?_
                  rintro e y8 ⟨rfl, hb8⟩
                  have HBT8 := hide (HBT7.out.below hb8)
                  have HB8Y := hide (Below.step HB7Y.out hb8)
                  clear hb8 HBV
                  go_wp2_with fail
                  exact ⟨⟨3, _, by omega, rfl, HBT8, HB8Y⟩, by simp [intOf]; omega⟩
                · have h2i : ((k : Int) == 2) = false := by simp; omega
                  go_wp2_with fail
                  exact ⟨⟨k + 1, held2, by omega, by go_num, HBT5, HB5Y⟩, by simp [intOf]; omega⟩
            · have HSV := hide (dsave_at hbt.out.dev hr20)
              go_wp2_with fail
              refine HSV.out.mono ?_
              rintro e y1 ⟨rfl, hb1⟩
              have HBT1 := hide (hbt.out.below hb1)
              have HBW1 := hide (Below.step hbw.out hb1)
              clear hb1 HSV
              have HSV := hide (rdsave_at HBT1.out.ref hr20)
              go_wp2_with fail
              refine HSV.out.mono ?_
              rintro e y2 ⟨rfl, hb2⟩
              have HBW2 := hide (Below.step HBW1.out hb2)
              clear hb2 HSV
              generalize (⟨(saveB held).toArray⟩ : ByteArray) = sv at *
              go_wp2_with fail
              go_ret
              exact ⟨rfl, HBW2.out⟩
        · exact absurd ⟨HGI.out, HOO.out⟩ hne
      · have HNE := hide hne
        clear hne hR
        go_wp2_with fail
        refine HDN.out.mono ?_
        rintro e w2 ⟨hnew, hb2⟩
        rcases HAG.out _ _ _ hnew with ⟨h1, h2, _⟩ | ⟨_, rfl⟩
        · exact absurd ⟨h1, h2⟩ HNE.out
        · have HB2 := hide (Below.step HB1.out hb2)
          have HBE := hide (bare_e 2 w2 (HD1.out.below hb2))
          have HDD := hide (HD1.out.below hb2)
          clear hb2 HDN hnew
          go_wp2_with fail
          refine HBE.out.mono ?_
          rintro e w3 ⟨rfl, hb3⟩
          have HB3 := hide (Below.step HB2.out hb3)
          have HBE2 := hide (bare_e 2 w3 (HDD.out.below hb3))
          clear hb3 HBE
          go_wp2_with fail
          refine HBE2.out.mono ?_
          rintro e w4 ⟨rfl, hb4⟩
          have HB4 := hide (Below.step HB3.out hb4)
          clear hb4 HBE2
          go_wp2_with fail
          go_ret
          exact ⟨rfl, HB4.out⟩
    · have HAG : Hid (∀ (B : Nat) (e : Ending) (W : World), NewI l ins outs B e W → e = .returned (.tuple #[.pointer none, .iface 25 (.int .i64 3)])) := hide fun B e W hi => agreeD2 hrd hn hi
      clear hrd hn
      go_wp2_with fail
      refine HDN.out.mono ?_
      rintro e w2 ⟨hnew, hb2⟩
      obtain rfl := HAG.out _ _ _ hnew
      have HB2 := hide (Below.step HB1.out hb2)
      have HBE := hide (bare_e 3 w2 (HD1.out.below hb2))
      have HDD := hide (HD1.out.below hb2)
      clear hb2 HDN hnew
      go_wp2_with fail
      refine HBE.out.mono ?_
      rintro e w3 ⟨rfl, hb3⟩
      have HB3 := hide (Below.step HB2.out hb3)
      have HBE2 := hide (bare_e 3 w3 (HDD.out.below hb3))
      clear hb3 HBE
      go_wp2_with fail
      refine HBE2.out.mono ?_
      rintro e w4 ⟨rfl, hb4⟩
      have HB4 := hide (Below.step HB3.out hb4)
      clear hb4 HBE2
      go_wp2_with fail
      go_ret
      exact ⟨rfl, HB4.out⟩
end Go.Proofs.YtndpehjbepfbkaaGreatDoor
