/-
  THE LAW CheckTurns, its walk.
-/
import Derived.Deep.RegionHeld3
import Derived.Test.YtgncgbngjdcpgaaGreatDoorTurns1
set_option linter.unusedSimpArgs false
set_option linter.unusedVariables false
namespace Go.Proofs.YtgncgbngjdcpgaaGreatDoor
open Go.RowKit

set_option maxRecDepth 100000 in
set_option maxHeartbeats 6400000 in
theorem turns_at (s : ByteArray) (y : Int) (w : World) (hv : Vars w) (hh : Hdl w) (h14 : 8 ≤ w.heap.size) (hgood : s.size ≤ 1200 → ∀ p k, parse2 s = .ok p k → p.1.length ≤ 20 ∧ depL p.2 ≤ 8 ∧ p.2.length ≤ 1000000 ∧ SmL p.2) : Calls Tryz.prog 6 #[.string s, .int .i64 y] w fun e w' => e = .returned (.bool true) ∧ Below w.heap.size w w' := by
  have HC := hide (checked_at w hv hh h14)
  have HR := hide fun (W : World) (hb : Below w.heap.size w W) => (show Calls Tryz.prog 26 #[.string s] W (Rightd W s) from if h : s.size ≤ 1200 then right_at s W h (hv.below hb) (Nat.le_trans h14 hb.size) (hgood h) else right_big s W (by omega))
  have HG := hide hgood
  have HH := hide hh
  clear hv hh hgood
  go_enter Tryz.func6, Tryz.ntmps6
  go_wp2_with fail
  refine HC.out.mono ?_
  rintro e w1 ⟨rfl, hb1⟩
  have HB1 := hide hb1
  clear hb1 HC
  go_wp2_with fail
  refine (HR.out _ HB1.out).mono ?_
  rintro e w2 ⟨hb2, h2⟩
  have HB2 := hide (Below.step HB1.out hb2)
  clear hb2 HR
  rcases h2 with ⟨hs, p, k, v, hpar, hck, rfl, hrep⟩ | ⟨a, b, m, n, i, j, rfl⟩
  · obtain ⟨aa, ac, ba, bc, rfl, hd, hs1⟩ := prRep_two hrep
    obtain ⟨g1, g2, g3, g4⟩ := HG.out hs p k hpar
    have HD := hide hd
    have HS1 := hide hs1
    have HCK := hide hck
    have HG1 := hide g1
    have HCH := hide fun (ds : List De) (hl : ds.length ≤ 30) => check_at (ds, p.2) hl g2 g3 g4
    clear HG hpar hck hrep hd hs1 g1 g2 g3 g4 hs
    by_cases hz : p.1.length = 0
    · rw [hz]
      go_wp2_with fail
      go_ret
      exact ⟨rfl, Below.step HB2.out (below_alloc _ _)⟩
    · have hz1 : 0 < p.1.length := by omega
      have hzi : (p.1.length : Int) ≠ 0 := by omega
      have HPK := hide (fun W => pick_n y p.1.length hz1 (by have := HG1.out; omega) W)
      obtain ⟨g, ac', hv, hSg⟩ := de_addr HD.out hz1
      obtain ⟨rfl, rfl⟩ : aa = some ⟨g, 0, none⟩ ∧ ac = ac' := by cases hv; exact ⟨rfl, rfl⟩
      clear hv
      have HO := hide (below_alloc w2 (.cells #[.slice (some ⟨g, 0, none⟩) p.1.length ac, .slice ba p.2.length bc] 25))
      have HN3 := hide (blk_new w2 (.cells #[.slice (some ⟨g, 0, none⟩) p.1.length ac, .slice ba p.2.length bc] 25))
      have HB3 := hide (Below.step HB2.out HO.out)
      have HD3 : Hid (IsDes (From w1.heap.size) (w2.alloc (.cells #[.slice (some ⟨g, 0, none⟩) p.1.length ac, .slice ba p.2.length bc] 25)) p.1 (.slice (some ⟨g, 0, none⟩) p.1.length ac)) := hide (IsRow.same HD.out fun c _ h => HO.out.block c h)
      have HS3 := hide (HS1.out.same fun c _ h => HO.out.block c h)
      have HLG : Hid (g < w2.heap.size) := hide (HD.out.1.lt g rfl).2
      clear HO HD HS1
      go_wp2_with fail
      generalize (w2.alloc (.cells #[.slice (some ⟨g, 0, none⟩) p.1.length ac, .slice ba p.2.length bc] 25)) = w3 at *
      refine (HPK.out _).mono ?_
      rintro e w3' ⟨⟨kk, hkk, rfl⟩, hw⟩
      subst hw
      clear HPK
      obtain ⟨hac, hacm⟩ := des_cap HD3.out
      have hsl := slice_from g p.1.length ac kk hkk hac hacm
      have hst := slice_to g p.1.length ac kk hkk hac hacm
      have HKK := hide hkk
      have hkc : (kk : Int) < (p.1.length : Int) := by omega
      clear hac hacm hkk
      go_wp2_with fail
      have HS : Hid (w3'.drew.cell? ⟨w2.heap.size, 0, none⟩ = some (.slice (some ⟨g, 0, none⟩) p.1.length ac)) := hide (by show w3'.cell? _ = _; rw [blk_cell HN3.out]; rfl)
      refine wp_region_held_drew (S := fun W => W.cell? ⟨w2.heap.size, 0, none⟩ = some (.slice (some ⟨g, 0, none⟩) p.1.length ac)) (by kernel_rfl) HS.out (fun _ => ?_)
      refine wpAnyH_take (i := 1) (oi := ⟨some 34, _, _, _, _, _⟩) (v := .pointer (some ⟨w2.heap.size, 0, none⟩)) rfl (by kernel_rfl) (by kernel_rfl) (by kernel_rfl) (fun _ _ _ h => h) (Or.inl ⟨by rfl, fun W hS => by have hS' := hS; go_simp⟩) HS.out ?_
      simp only [Act.put, List.setIfInBounds_toArray, List.set_cons_zero, List.set_cons_succ]
      refine wpAnyH_take (i := 2) (oi := ⟨some 35, _, _, _, _, _⟩) (v := .slice (some ⟨g, 0, none⟩) p.1.length ac) rfl (by kernel_rfl) (by kernel_rfl) (by kernel_rfl) (fun _ _ _ h => h) (Or.inl ⟨by rfl, fun W hS => by have hS' := hS; go_simp⟩) HS.out ?_
      simp only [Act.put, List.setIfInBounds_toArray, List.set_cons_zero, List.set_cons_succ]
      refine wpAnyH_take (i := 3) (oi := ⟨some 36, _, _, _, _, _⟩) (v := .int .i64 kk) rfl (by kernel_rfl) (by kernel_rfl) (by kernel_rfl) (fun _ _ _ h => h) (Or.inl ⟨by rfl, fun W hS => by have hS' := hS; go_simp⟩) HS.out ?_
      simp only [Act.put, List.setIfInBounds_toArray, List.set_cons_zero, List.set_cons_succ]
      refine wpAnyH_take (i := 4) (oi := ⟨some 37, _, _, _, _, _⟩) (v := .slice (some ⟨g, kk * 4, none⟩) (p.1.length - kk) (ac - kk)) rfl (by kernel_rfl) (by kernel_rfl) (by kernel_rfl) (fun _ _ _ h => h) (Or.inl ⟨by rfl, fun W hS => by have hS' := hS; go_simp⟩) HS.out ?_
      simp only [Act.put, List.setIfInBounds_toArray, List.set_cons_zero, List.set_cons_succ]
      refine wpAnyH_take (i := 6) (oi := ⟨some 39, _, _, _, _, _⟩) (v := .pointer (some ⟨w2.heap.size, 0, none⟩)) rfl (by kernel_rfl) (by kernel_rfl) (by kernel_rfl) (fun _ _ _ h => h) (Or.inl ⟨by rfl, fun W hS => by have hS' := hS; go_simp⟩) HS.out ?_
      simp only [Act.put, List.setIfInBounds_toArray, List.set_cons_zero, List.set_cons_succ]
      refine wpAnyH_take (i := 7) (oi := ⟨some 40, _, _, _, _, _⟩) (v := .slice (some ⟨g, 0, none⟩) p.1.length ac) rfl (by kernel_rfl) (by kernel_rfl) (by kernel_rfl) (fun _ _ _ h => h) (Or.inl ⟨by rfl, fun W hS => by have hS' := hS; go_simp⟩) HS.out ?_
      simp only [Act.put, List.setIfInBounds_toArray, List.set_cons_zero, List.set_cons_succ]
      refine wpAnyH_take (i := 8) (oi := ⟨some 41, _, _, _, _, _⟩) (v := .int .i64 kk) rfl (by kernel_rfl) (by kernel_rfl) (by kernel_rfl) (fun _ _ _ h => h) (Or.inl ⟨by rfl, fun W hS => by have hS' := hS; go_simp⟩) HS.out ?_
      simp only [Act.put, List.setIfInBounds_toArray, List.set_cons_zero, List.set_cons_succ]
      refine wpAnyH_take (i := 9) (oi := ⟨some 42, _, _, _, _, _⟩) (v := .slice (some ⟨g, 0, none⟩) kk ac) rfl (by kernel_rfl) (by kernel_rfl) (by kernel_rfl) (fun _ _ _ h => h) (Or.inl ⟨by rfl, fun W hS => by have hS' := hS; go_simp⟩) HS.out ?_
      simp only [Act.put, List.setIfInBounds_toArray, List.set_cons_zero, List.set_cons_succ]
      refine wpAnyH_ready (rs := [0]) (by kernel_rfl) (by simp) ?_
      refine AllReadyH.cons rfl (fun K hK => ?_) AllReadyH.nil
      go_simp
      have HB4 : Hid (Below w3'.heap.size w3' (w3'.alloc (.cells #[] 60)).drew) := hide (below_alloc w3' _).drew
      have HN4 : Hid ((w3'.alloc (.cells #[] 60)).drew.heap[w3'.heap.size]? = some (.cells #[] 60 (0, 0))) := hide (blk_new w3' _)
      refine hK.out _ _ ((HB4.out.cell (cell_lt HS.out)).trans HS.out) (fun _ => ?_)
      clear hK K
      generalize (w3'.alloc (.cells #[] 60)).drew = w4 at *
      have HO4 : Hid (IsDes (From w3'.heap.size) w4 [] (.slice (some ⟨w3'.heap.size, 0, none⟩) 0 0)) := hide ⟨⟨rfl, .inr ⟨_, 0, #[], rfl, Nat.zero_le _, HN4.out, by decide, by decide, rfl, rfl⟩⟩, fun b hb => by simp [Value.ownBlock] at hb; subst hb; exact Nat.le_refl _⟩
      have HD4 : Hid (IsDes (From w1.heap.size) w4 p.1 (.slice (some ⟨g, 0, none⟩) p.1.length ac)) := hide (IsRow.same HD3.out fun c _ h => HB4.out.block c h)
      obtain ⟨g5, cap5, w5, happ, hb5, hz5, hd5, _⟩ := des_app (c := ac - kk) (n' := p.1.length - kk) (m := p.1.length - kk) HB4.out HB4.out.size HO4.out rfl (new := p.1.drop kk) (by simp) (by omega) (des_part HD4.out kk ⟨[], by simp⟩ (Nat.le_of_lt HKK.out)) (by have := HG1.out; omega)
      have HB5 := hide hb5
      have HZ5 := hide hz5
      have HD5 := hide hd5
      clear hb5 hz5 hd5
      refine wpAnyH_ready (rs := [5]) (by kernel_rfl) (by simp) ?_
      refine AllReadyH.cons rfl (fun K hK => ?_) AllReadyH.nil
      refine (if_pos (by kernel_rfl)).mpr ?_
      refine wp_append_run happ _ _ rfl rfl rfl ?_
      simp only [Act.put, List.setIfInBounds_toArray, List.set_cons_zero, List.set_cons_succ]
      refine hK.out _ _ ((HB5.out.cell (cell_lt HS.out)).trans HS.out) (fun _ => ?_)
      clear hK K happ
      have HP5 : Hid (IsDes (From w1.heap.size) w5 p.1 (.slice (some ⟨g, 0, none⟩) p.1.length ac)) := hide (IsRow.same HD3.out fun c _ h => HB5.out.block c h)
      obtain ⟨g6, cap6, w6, happ, hb6, hz6, hd6, hc6, hm6⟩ := des_app (c := ac) (n' := p.1.length) (m := kk) HB5.out HZ5.out HD5.out (by simp) (new := p.1.take kk) (by simp; have := HKK.out; omega) (by have := HKK.out; omega) (by have h := des_part HP5.out 0 (m := p.1.take kk) ⟨p.1.drop kk, by simp⟩ (Nat.zero_le _); rw [Nat.zero_mul] at h; exact h) (by have := HG1.out; omega)
      have HB6 := hide hb6
      have HZ6 := hide hz6
      have HD6 : Hid (IsDes (From w3'.heap.size) w6 (turnD p.1 kk) (.slice (some ⟨g6, 0, none⟩) p.1.length cap6)) := hide hd6
      clear hb6 hz6 hd6
      refine wpAnyH_ready (rs := [10]) (by kernel_rfl) (by simp) ?_
      refine AllReadyH.cons rfl (fun K hK => ?_) AllReadyH.nil
      refine (if_pos (by kernel_rfl)).mpr ?_
      refine wp_append_run happ _ _ rfl rfl rfl ?_
      simp only [Act.put, List.setIfInBounds_toArray, List.set_cons_zero, List.set_cons_succ]
      have HS6 := hide ((HB6.out.cell (cell_lt HS.out)).trans HS.out)
      refine hK.out _ _ HS6.out (fun _ => ?_)
      clear hK K happ HB4 HN4 HO4 HD4 HB5 HZ5 HD5 HP5 hsl hst
      refine wpAnyH_take (i := 11) (oi := ⟨some 8, _, _, _, _, _⟩) (v := .slice (some ⟨g6, 0, none⟩) p.1.length cap6) rfl (by kernel_rfl) (by kernel_rfl) (by kernel_rfl) (fun _ _ _ h => h) (Or.inl ⟨by rfl, fun W hS => by have hS' := hS; go_simp⟩) HS6.out ?_
      simp only [Act.put, List.setIfInBounds_toArray, List.set_cons_zero, List.set_cons_succ]
      refine wpAnyH_done (by kernel_rfl) ?_ _
      have HN6 := hide ((HB6.out.block _ (blk_lt HN3.out)).trans HN3.out)
      have y0 : w6.cell? ⟨w2.heap.size, 0, none⟩ = some (.slice (some ⟨g, 0, none⟩) p.1.length ac) := HS6.out
      have y1 : w6.cell? ⟨w2.heap.size, 1, none⟩ = some (.slice ba p.2.length bc) := by rw [blk_cell HN6.out]; rfl
      have HC0 := hide (show checkC (p.1, p.2) = .ok () from HCK.out)
      have HW13 : Hid (w1.heap.size ≤ w3'.heap.size) := hide (by have h1 := HD3.out.2 g rfl; have h2 := HLG.out; have h3 := blk_lt HN3.out; have h4 : w1.heap.size ≤ g := h1; omega)
      have HLT : Hid ((turnD p.1 kk).length = p.1.length) := hide (by simp [turnD]; have := HKK.out; omega)
      go_wp2_with fail
      refine (HCH.out (turnD p.1 kk) (by rw [HLT.out]; have := HG1.out; omega) (From w1.heap.size) w6 _ _ (IsRow.imp HD6.out fun b _ h => Nat.le_trans HW13.out h) (HS3.out.same fun c _ h => HB6.out.block c h)).mono ?_
      rintro e w7 ⟨hb7, h7⟩
      rw [check_turn HC0.out kk] at h7
      have h7 : e = .returned .nilIface := h7
      subst h7
      have HB7 : Hid (Below w3'.heap.size w3' w7) := hide (Below.step HB6.out hb7)
      have HZ7 : Hid (w3'.heap.size ≤ w7.heap.size) := hide HB7.out.size
      have HD7 : Hid (IsDes (From w3'.heap.size) w7 (turnD p.1 kk) (.slice (some ⟨g6, 0, none⟩) p.1.length cap6)) := hide (IsRow.same HD6.out fun c _ h => hb7.block c h)
      have HP7 : Hid (IsDes (From w1.heap.size) w7 p.1 (.slice (some ⟨g, 0, none⟩) p.1.length ac)) := hide (IsRow.same HD3.out fun c _ h => HB7.out.block c h)
      have HN7 := hide ((HB7.out.block _ (blk_lt HN3.out)).trans HN3.out)
      clear hb7 y0 y1 HB6 HZ6 HD6 HS6 HN6
      have y0 : w7.cell? ⟨w2.heap.size, 0, none⟩ = some (.slice (some ⟨g, 0, none⟩) p.1.length ac) := by rw [blk_cell HN7.out]; rfl
      have y1 : w7.cell? ⟨w2.heap.size, 1, none⟩ = some (.slice ba p.2.length bc) := by rw [blk_cell HN7.out]; rfl
      have r0 : w7.cell? ⟨g, kk * 4, none⟩ = some (.string p.1[kk].name) := de_cell HP7.out rfl HKK.out (k := 0) rfl (by decide)
      have r1 : w7.cell? ⟨g, kk * 4 + 1, none⟩ = some (.int .i64 p.1[kk].way) := de_cell HP7.out rfl HKK.out (k := 1) rfl (by decide)
      have r2 : w7.cell? ⟨g, kk * 4 + 2, none⟩ = some (.int .i64 p.1[kk].ty) := de_cell HP7.out rfl HKK.out (k := 2) rfl (by decide)
      have r3 : w7.cell? ⟨g, kk * 4 + 3, none⟩ = some (.int .i64 p.1[kk].init) := de_cell HP7.out rfl HKK.out (k := 3) rfl (by decide)
      have HMD : Hid (p.1[kk]'HKK.out ∈ p.1) := hide (List.getElem_mem _)
      generalize p.1[kk]'HKK.out = d at *
      have HB8 := hide (below_alloc w7 (.cells #[.string d.name, .int .i64 d.way, .int .i64 d.ty, .int .i64 d.init] 60))
      have HN8 := hide (blk_new w7 (.cells #[.string d.name, .int .i64 d.way, .int .i64 d.ty, .int .i64 d.init] 60))
      obtain ⟨g9, cap9, w9, happ, hb9, hz9, hd9, hc9, hm9⟩ := des_app (c := 1) (n' := p.1.length + 1) (m := 1) (Below.step HB7.out HB8.out) (Nat.le_trans HZ7.out HB8.out.size) (IsRow.same HD7.out fun c _ h => HB8.out.block c h) HLT.out (new := [d]) rfl rfl (ad := ⟨w7.heap.size, 0, none⟩) (fun j u hj => by rw [add0, blk_cell HN8.out]; simpa [deCells] using hj) (by have := HG1.out; omega)
      have HB9 := hide hb9
      have HZ9 := hide hz9
      have HD9 := hide hd9
      have HC9 := hide hc9
      have HM9 := hide hm9
      clear hb9 hz9 hd9 hc9 hm9
      have HN9 := hide ((HB9.out.block _ (blk_lt HN3.out)).trans HN3.out)
      have z0 : w9.cell? ⟨w2.heap.size, 0, none⟩ = some (.slice (some ⟨g, 0, none⟩) p.1.length ac) := by rw [blk_cell HN9.out]; rfl
      have z1 : w9.cell? ⟨w2.heap.size, 1, none⟩ = some (.slice ba p.2.length bc) := by rw [blk_cell HN9.out]; rfl
      clear HN7 HP7 HD7 HZ7 HB7 HB8 HN8
      go_wp2_with (at_builtin; (refine wpl_append_run happ rfl _ _ rfl rfl rfl ?_))
      clear happ y0 y1 r0 r1 r2 r3
      have HLT9 : Hid ((turnD p.1 kk ++ [d]).length = p.1.length + 1) := hide (by rw [List.length_append, HLT.out]; rfl)
      refine (HCH.out (turnD p.1 kk ++ [d]) (by rw [HLT9.out]; have := HG1.out; omega) (From w1.heap.size) w9 _ _ (IsRow.imp HD9.out fun b _ h => Nat.le_trans HW13.out h) (HS3.out.same fun c _ h => HB9.out.block c h)).mono ?_
      rintro e w10 ⟨hb10, h10⟩
      rw [check_twice HC0.out HMD.out kk] at h10
      obtain ⟨A, rfl, hA⟩ := h10
      have HB10 := hide (Below.step HB9.out hb10)
      have HD10 : Hid (IsDes (From w3'.heap.size) w10 (turnD p.1 kk ++ [d]) (.slice (some ⟨g9, 0, none⟩) (p.1.length + 1) cap9)) := hide (IsRow.same HD9.out fun c _ h => hb10.block c h)
      have HTL := hide (tell_at A p.1.length 9 w10 (HH.out.below (Below.step HB3.out HB10.out)) hA)
      clear hb10 hA z0 z1
      go_wp2_with fail
      refine HTL.out.mono ?_
      rintro e w11 ⟨rfl, hb11⟩
      have HB11 := hide (Below.step HB10.out hb11)
      have HD11 : Hid (IsDes (From w3'.heap.size) w11 (turnD p.1 kk ++ [d]) (.slice (some ⟨g9, 0, none⟩) (p.1.length + 1) cap9)) := hide (IsRow.same HD10.out fun c _ h => hb11.block c h)
      clear hb11 HTL HB10 HD10 HB9 HZ9 HD9 HN9
      go_wp2_with fail
      clear HMD HC9
      go_loopw [11, 12] (fun i _ wr => ∃ j : Nat, j ≤ 26 ∧ i = .int .u8 ((97 + j : Nat) : Int) ∧ Hid (Below w3'.heap.size w3' wr) ∧ Hid (IsDes (From w3'.heap.size) wr (turnD p.1 kk ++ [d]) (.slice (some ⟨g9, 0, none⟩) (p.1.length + 1) cap9)) ∧ Hid (∀ c ∈ az.take j, ∃ e ∈ p.1, e.name.toList = [122, c])) (fun i _ _ => 123 - (intOf i).toNat)
      case atStart => exact ⟨0, by decide, rfl, HB11, HD11, hide (by intro c hc; simp at hc)⟩
      case round =>
        obtain ⟨j, hj, rfl, hb, hd, hall⟩ := hrel
        by_cases hlt : j < 26
        · have hji : ((97 + j : Nat) : Int) ≤ 122 := by omega
          have hjn : 97 + j ≤ 122 := by omega
          have hmf : ∀ (fn : Fn) (first cap : Array Value) (w : World), (Instr.makeFunc fn first cap).run Tryz.prog w = .ok (.func fn first cap) w := fun _ _ _ _ => rfl
          have HNr := hide ((hb.out.block _ (blk_lt HN3.out)).trans HN3.out)
          have x0 : wr.cell? ⟨w2.heap.size, 0, none⟩ = some (.slice (some ⟨g, 0, none⟩) p.1.length ac) := by rw [blk_cell HNr.out]; rfl
          have HLr : Hid (w2.heap.size < wr.heap.size) := hide (blk_lt HNr.out)
          obtain ⟨c, HCc⟩ : ∃ c, Hid (c = UInt8.ofNat (97 + j)) := ⟨_, hide rfl⟩
          have q0 := fun o o' => cell_alloc (cell_alloc x0 o) o'
          have hcv := conv_one j hlt (blk_new wr (.cells #[.int .u8 (97 + (j : Int))] 5))
          rw [← HCc.out] at hcv
          have HA : Hid (Below wr.heap.size wr ((wr.alloc (.cells #[.int .u8 (97 + (j : Int))] 5)).alloc (.cells #[.string (⟨#[122]⟩ ++ ⟨#[c]⟩)] 9))) := hide ((below_alloc wr _).alloc (by simp) _)
          have HNA : Hid (((wr.alloc (.cells #[.int .u8 (97 + (j : Int))] 5)).alloc (.cells #[.string (⟨#[122]⟩ ++ ⟨#[c]⟩)] 9)).heap[wr.heap.size + 1]? = some (.cells #[.string (⟨#[122]⟩ ++ ⟨#[c]⟩)] 9 (0, 0))) := hide (by
            have h := blk_new (wr.alloc (.cells #[.int .u8 (97 + (j : Int))] 5)) (.cells #[.string (⟨#[122]⟩ ++ ⟨#[c]⟩)] 9)
            rw [show (wr.alloc (.cells #[.int .u8 (97 + (j : Int))] 5)).heap.size = wr.heap.size + 1 by simp] at h
            exact h)
          go_wp2_with fail
          clear hcv q0 x0
          generalize ((wr.alloc (.cells #[.int .u8 (97 + (j : Int))] 5)).alloc (.cells #[.string (⟨#[122]⟩ ++ ⟨#[c]⟩)] 9)) = w12 at *
          have HB12 := hide (Below.step hb.out HA.out)
          have HD12 : Hid (IsDes (From w3'.heap.size) w12 (turnD p.1 kk ++ [d]) (.slice (some ⟨g9, 0, none⟩) (p.1.length + 1) cap9)) := hide (IsRow.same hd.out fun c _ h => HA.out.block c h)
          refine (contains_at p.1 (by have := HG1.out; omega) (From w1.heap.size) _ _ w12 _ (IsRow.same HD3.out fun c _ h => HB12.out.block c h) HNA.out).mono ?_
          rintro e w13 ⟨rfl, hb13⟩
          have HB13 := hide (Below.step HB12.out hb13)
          have HD13 : Hid (IsDes (From w3'.heap.size) w13 (turnD p.1 kk ++ [d]) (.slice (some ⟨g9, 0, none⟩) (p.1.length + 1) cap9)) := hide (IsRow.same HD12.out fun c _ h => hb13.block c h)
          have HN13 := hide (Below.blk hb13 HNA.out)
          clear hb13 HB12 HD12 HNA HA HNr HLr
          have HNL : Hid (((⟨#[122]⟩ : ByteArray) ++ ⟨#[c]⟩).toList = [122, c]) := hide (by kernel_rfl)
          cases hany : (p.1.any fun d => d.name.toList == ((⟨#[122]⟩ : ByteArray) ++ ⟨#[c]⟩).toList) with
          | true =>
            have HAL : Hid (∀ c ∈ az.take (j + 1), ∃ e ∈ p.1, e.name.toList = [122, c]) := hide (by
              intro c' hc'
              have haz : az[j]? = some (UInt8.ofNat (97 + j)) := by
                have : ∀ j, j < 26 → az[j]? = some (UInt8.ofNat (97 + j)) := by decide
                exact this j hlt
              rw [List.take_add_one, haz] at hc'
              rcases List.mem_append.1 hc' with h | h
              · exact hall.out c' h
              · simp at h
                obtain ⟨e, he, hp⟩ := List.any_eq_true.1 hany
                rw [HNL.out] at hp
                refine ⟨e, he, ?_⟩
                have := eq_of_beq hp
                rw [this, HCc.out, h]
                simp)
            clear hany
            have hwr : IntKind.wrap .u8 (97 + (j : Int) + 1) = 97 + (j : Int) + 1 := by rw [IntKind.wrap_u8]; omega
            go_wp2_with fail
            exact ⟨⟨j + 1, by omega, by rw [show ((97 + (j + 1) : Nat) : Int) = 97 + (j : Int) + 1 by omega], HB13, HD13, HAL⟩, by simp [intOf]; omega⟩
          | false =>
            have HNE : Hid (∀ e ∈ p.1, e.name.toList ≠ ((⟨#[122]⟩ : ByteArray) ++ ⟨#[c]⟩).toList) := hide (fun e he h => by
              have := List.any_eq_false.1 hany e he
              exact this (beq_iff_eq.2 h))
            obtain ⟨d', HDD⟩ : ∃ d' : De, Hid (d' = { d with name := (⟨#[122]⟩ : ByteArray) ++ ⟨#[c]⟩ }) := ⟨_, hide rfl⟩
            have HND : Hid (checkC (turnD p.1 kk ++ [d'], p.2) = .ok ()) := hide (by rw [HDD.out]; exact check_added HC0.out HNE.out kk)
            have HL' : Hid ((turnD p.1 kk ++ [d']).length ≤ 30) := hide (by rw [List.length_append, HLT.out]; have := HG1.out; simp; omega)
            clear hany
            obtain ⟨hfr, hdl⟩ := des_last HD13.out ((⟨#[122]⟩ : ByteArray) ++ ⟨#[c]⟩)
            rw [HLT.out] at hfr hdl
            have HDL : Hid (IsDes (From w3'.heap.size) (w13.setCell ⟨g9, p.1.length * 4, none⟩ (.string ((⟨#[122]⟩ : ByteArray) ++ ⟨#[c]⟩))) (turnD p.1 kk ++ [d']) (.slice (some ⟨g9, 0, none⟩) (p.1.length + 1) cap9)) := hide (by rw [HDD.out]; exact hdl)
            have HG9 : Hid (w3'.heap.size ≤ g9) := hide (HD13.out.2 g9 rfl)
            have c0 : w13.cell? ⟨g9, p.1.length * 4, none⟩ = some (.string d.name) := by
              have h := de_cell HD13.out rfl (j := p.1.length) (by rw [HLT9.out]; omega) (k := 0) (u := .string d.name) (by
                have e : (turnD p.1 kk ++ [d])[p.1.length]'(by rw [HLT9.out]; omega) = d := by
                  rw [List.getElem_append_right (by rw [HLT.out]; exact Nat.le_refl _)]
                  simp [HLT.out]
                rw [e]; rfl) (by decide)
              exact h
            have c1 : w13.cell? ⟨wr.heap.size + 1, 0, none⟩ = some (.string ((⟨#[122]⟩ : ByteArray) ++ ⟨#[c]⟩)) := by rw [blk_cell HN13.out]; rfl
            have HB14 : Hid (Below w3'.heap.size w3' (w13.setCell ⟨g9, p.1.length * 4, none⟩ (.string ((⟨#[122]⟩ : ByteArray) ++ ⟨#[c]⟩)))) := hide (HB13.out.setCell HG9.out _)
            have HN14 := hide ((HB14.out.block _ (blk_lt HN3.out)).trans HN3.out)
            have y1 : (w13.setCell ⟨g9, p.1.length * 4, none⟩ (.string ((⟨#[122]⟩ : ByteArray) ++ ⟨#[c]⟩))).cell? ⟨w2.heap.size, 1, none⟩ = some (.slice ba p.2.length bc) := by rw [blk_cell HN14.out]; rfl
            have hn1 : (((p.1.length + 1 : Nat) : Int) - 1) = (p.1.length : Int) := by omega
            have hn2 : (p.1.length : Int) < (p.1.length : Int) + 1 := by omega
            have hn3 : wrap64 (p.1.length : Int) = (p.1.length : Int) := by have := HG1.out; unfold wrap64; omega
            clear hdl
            go_wp2_with fail
            have HCC := hide (HCH.out (turnD p.1 kk ++ [d']) HL'.out (From w1.heap.size) _ _ _ (IsRow.imp HDL.out fun b _ h => Nat.le_trans HW13.out h) (HS3.out.same fun c _ h => HB14.out.block c h))
            generalize (w13.setCell ⟨g9, p.1.length * 4, none⟩ (.string ((⟨#[122]⟩ : ByteArray) ++ ⟨#[c]⟩))) = w14 at *
            refine HCC.out.mono ?_
            rintro e w15 ⟨hb15, h15⟩
            rw [HND.out] at h15
            have h15 : e = .returned .nilIface := h15
            subst h15
            have HB15 := hide (Below.step HB3.out (Below.step HB14.out hb15))
            clear hb15
            go_wp2_with fail
            go_ret
            exact ⟨rfl, HB15.out⟩
        · exfalso
          have e : j = 26 := by omega
          subst e
          exact free_name p.1 HG1.out (fun c hc => hall.out c (by simpa [az] using hc))
  · clear HG
    go_wp2_with fail
    go_ret
    exact ⟨rfl, Below.step HB2.out (below_alloc _ _)⟩
end Go.Proofs.YtgncgbngjdcpgaaGreatDoor
