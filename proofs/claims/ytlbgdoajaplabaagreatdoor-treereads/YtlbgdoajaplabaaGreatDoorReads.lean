/-
  THE WALK of TreeReads.
-/
import Derived.Deep.DeepCutAuto
import Derived.Test.YtlbgdoajaplabaaGreatDoorRdU
import Derived.Test.YtlbgdoajaplabaaGreatDoorJRLn
import Derived.Test.YtlbgdoajaplabaaGreatDoorJRNm
namespace Go.Proofs.YtlbgdoajaplabaaGreatDoor
open Go.RowKit
set_option linter.unusedSimpArgs false
set_option linter.unusedVariables false

theorem below_in {N : Nat} {w w' : World} {p : List De × List St} {a c : Value} (hd : IsDes (From N) w p.1 a) (hs : IsSts (From N) w p.2 c) (hb : Below w.heap.size w w') : IsDes (fun b => From N b ∧ b < w.heap.size) w' p.1 a ∧ IsSts (fun b => From N b ∧ b < w.heap.size) w' p.2 c :=
  ⟨IsRow.same (IsRow.imp (S' := fun b => From N b ∧ b < w.heap.size) hd fun b h1 h2 => ⟨h2, h1⟩) fun c h1 h2 => hb.block c h2, (hs.imp (S' := fun b => From N b ∧ b < w.heap.size) fun b h1 h2 => ⟨h2, h1⟩).same fun c h1 h2 => hb.block c h2⟩

/-- either something is wrong, somewhere, or what was read is good -/
theorem outP_cases {s : ByteArray} (hs : s.size ≤ 1500) : (0 ≤ (outP (parse2 s)).2.2.2) ∨ ((outP (parse2 s)).2.2.1 = 0 ∧ (outP (parse2 s)).2.2.2 = -1 ∧ GoodPr ((outP (parse2 s)).1, (outP (parse2 s)).2.1) ∧ (printT ((outP (parse2 s)).1, (outP (parse2 s)).2.1)).length ≤ 1000000) := by
  cases hp : parse2 s with
  | out => exact .inl (Int.le_refl _)
  | bad e p => exact .inl (Int.natCast_nonneg p)
  | ok p k =>
    obtain ⟨hg, hkl⟩ := parse_inv (by omega) hp
    have hlen := print_len hg
    exact .inr ⟨rfl, rfl, hg, by show (printT p).length ≤ 1000000; omega⟩

theorem fault_ne (a b : Int) (h : 0 ≤ b) (w : World) : (binOp .eql 28 (.agg #[.int .i64 a, .int .i64 b]) (.agg #[.int .i64 0, .int .i64 (-1)])).run Tryz.prog w = .ok (.bool false) w := by
  have : (b == -1) = false := by simp; omega
  simp [go_sem, this]
theorem fault_eq (w : World) : (binOp .eql 28 (.agg #[.int .i64 0, .int .i64 (-1)]) (.agg #[.int .i64 0, .int .i64 (-1)])).run Tryz.prog w = .ok (.bool true) w := by
  simp [go_sem]

set_option maxRecDepth 100000 in
set_option maxHeartbeats 3200000 in
theorem reads_long (s : ByteArray) (w : World) (h : 1500 < s.size) : Calls Tryz.prog 3 #[.string s] w fun e w' => e = .returned (.bool true) ∧ Below w.heap.size w w' := by
  have hi : (1500 : Int) < (s.size : Int) := by omega
  go_enter Tryz.func3, Tryz.ntmps3
  go_wp2_with fail
  go_ret
  exact ⟨rfl, Below.refl _ _⟩

set_option maxRecDepth 100000 in
set_option maxHeartbeats 12800000 in
theorem reads_at (s : ByteArray) (w : World) (h : ¬ 1500 < s.size) (henv : Env w) (ht : Tab w) :
    Calls Tryz.prog 3 #[.string s] w fun e w' => e = .returned (.bool true) ∧ Below w.heap.size w w' := by
  have hi : ¬ (1500 : Int) < (s.size : Int) := by omega
  have HE := hide henv
  have HTB := hide ht
  have HSZ : Hid (s.size ≤ 1500) := by show _ ≤ _; omega
  have HNM := hide (fun W (h : Env W) => tname_at s (by have := HSZ.out; omega) W h.vars)
  have HRN := hide (fun W (h : Env W) => rNameF_at s (by have := HSZ.out; omega) W h.rvars)
  have HNE := hide (tname_eq s)
  rw [HNE.out] at HNM
  generalize nameB s = nb at *
  have hsz : s.size ≤ 100000 := by omega
  have HRP := hide fun W h => rparse_u s W hsz h
  have HPP := hide fun W h => parse_u s W hsz h
  have HRD := hide fun W h => rdecls_u s W hsz h
  have HDD := hide fun W h => decls_u s W hsz h
  obtain ⟨hss, hdl⟩ := outP_same hsz
  have hcs := outP_cases HSZ.out
  have hdd := outD_small hsz
  generalize outP (parse2 s) = q at *
  generalize outD (decls2 s) = d at *
  obtain ⟨ds, bs, ea, eb⟩ := q
  obtain ⟨ls, fa, fb⟩ := d
  have HSS := hide hss
  have HDL : Hid (ds.length ≤ 1000) := hide hdl
  have HDD2 : Hid (ls.length ≤ 1000) := hide hdd
  have HCS : Hid (0 ≤ eb ∨ (ea = 0 ∧ eb = -1 ∧ GoodPr (ds, bs) ∧ (printT (ds, bs)).length ≤ 1000000)) := hide hcs
  clear hss hdl hdd hsz henv ht h hcs HNE
  go_enter Tryz.func3, Tryz.ntmps3
  go_wp2_with fail
  refine (HRP.out w HE.out).mono ?_
  rintro e w1 ⟨hb1, da, ba, dc, bc, he, hd1, hs1⟩
  dsimp only at he hd1 hs1
  subst he
  have hb2 := Below.step (below_alloc w1 (.cells #[.slice da ds.length dc, .slice ba bs.length bc] 25)) (below_alloc _ (.cells #[.int .i64 ea, .int .i64 eb] 28))
  have HB2 := hide (Below.step hb1 hb2)
  have HP2 := hide (Below.blk (below_alloc (w1.alloc (.cells #[.slice da ds.length dc, .slice ba bs.length bc] 25)) (.cells #[.int .i64 ea, .int .i64 eb] 28)) (blk_new w1 (.cells #[.slice da ds.length dc, .slice ba bs.length bc] 25)))
  have HF2 : Hid (((w1.alloc (.cells #[.slice da ds.length dc, .slice ba bs.length bc] 25)).alloc (.cells #[.int .i64 ea, .int .i64 eb] 28)).heap[w1.heap.size + 1]? = some (.cells #[.int .i64 ea, .int .i64 eb] 28 (0, 0))) := hide (blk_new2 w1 _ _)
  have HD2 : Hid (IsDes (From w.heap.size) ((w1.alloc (.cells #[.slice da ds.length dc, .slice ba bs.length bc] 25)).alloc (.cells #[.int .i64 ea, .int .i64 eb] 28)) ds (.slice da ds.length dc)) := hide (IsRow.same hd1 fun c _ h => hb2.block c h)
  have HS2 : Hid (IsSts (From w.heap.size) ((w1.alloc (.cells #[.slice da ds.length dc, .slice ba bs.length bc] 25)).alloc (.cells #[.int .i64 ea, .int .i64 eb] 28)) bs (.slice ba bs.length bc)) := hide (hs1.same fun c _ h => hb2.block c h)
  have HWP : Hid (w.heap.size ≤ w1.heap.size) := hide hb1.size
  clear hb1 hd1 hs1 hb2
  go_wp2_with fail
  generalize (w1.alloc (.cells #[.slice da ds.length dc, .slice ba bs.length bc] 25)).alloc (.cells #[.int .i64 ea, .int .i64 eb] 28) = w2 at *
  generalize w1.heap.size = P at *
  have HE2 := hide (HE.out.below HB2.out)
  refine (HPP.out w2 HE2.out).mono ?_
  rintro e w3 ⟨hb3, da2, ba2, dc2, bc2, ev, he, hd3, hs3, herr⟩
  dsimp only at he hd3 hs3 herr
  subst he
  have hb4 := below_alloc w3 (.cells #[.slice da2 ds.length dc2, .slice ba2 bs.length bc2] 25)
  have hb24 := Below.step hb3 hb4
  have HB4 := hide (Below.step HB2.out hb24)
  have HQ4 := hide (blk_new w3 (.cells #[.slice da2 ds.length dc2, .slice ba2 bs.length bc2] 25))
  have HP4 := hide (Below.blk hb24 HP2.out)
  have HF4 := hide (Below.blk hb24 HF2.out)
  have HD4 : Hid (IsDes (From w.heap.size) (w3.alloc (.cells #[.slice da2 ds.length dc2, .slice ba2 bs.length bc2] 25)) ds (.slice da ds.length dc)) := hide (IsRow.same HD2.out fun c _ h => hb24.block c h)
  have HS4 : Hid (IsSts (From w.heap.size) (w3.alloc (.cells #[.slice da2 ds.length dc2, .slice ba2 bs.length bc2] 25)) bs (.slice ba bs.length bc)) := hide (HS2.out.same fun c _ h => hb24.block c h)
  have HD4' : Hid (IsDes (From w2.heap.size) (w3.alloc (.cells #[.slice da2 ds.length dc2, .slice ba2 bs.length bc2] 25)) ds (.slice da2 ds.length dc2)) := hide (IsRow.same hd3 fun c _ h => hb4.block c h)
  have HS4' : Hid (IsSts (From w2.heap.size) (w3.alloc (.cells #[.slice da2 ds.length dc2, .slice ba2 bs.length bc2] 25)) bs (.slice ba2 bs.length bc2)) := hide (hs3.same fun c _ h => hb4.block c h)
  have HR4 := hide (herr.below hb4)
  clear hb3 hb4 hb24 hd3 hs3 herr HD2 HS2 HP2 HF2
  have f0 : (w3.alloc (.cells #[.slice da2 ds.length dc2, .slice ba2 bs.length bc2] 25)).cell? ⟨P + 1, 0, none⟩ = some (.int .i64 ea) := by rw [blk_cell HF4.out]; rfl
  have f1 : (w3.alloc (.cells #[.slice da2 ds.length dc2, .slice ba2 bs.length bc2] 25)).cell? ⟨P + 1, 1, none⟩ = some (.int .i64 eb) := by rw [blk_cell HF4.out]; rfl
  go_wp2_with fail
  generalize w3.alloc (.cells #[.slice da2 ds.length dc2, .slice ba2 bs.length bc2] 25) = w4 at *
  generalize w3.heap.size = Q at *
  refine (HR4.out w4 (Below.refl _ _)).mono ?_
  rintro e w5 ⟨rfl, hb5⟩
  have HB5 := hide (Below.step HB4.out hb5)
  have HP5 := hide (Below.blk hb5 HP4.out)
  have HQ5 := hide (Below.blk hb5 HQ4.out)
  have HF5 := hide (Below.blk hb5 HF4.out)
  have HD5 : Hid (IsDes (From w.heap.size) w5 ds (.slice da ds.length dc)) := hide (IsRow.same HD4.out fun c _ h => hb5.block c h)
  have HS5 : Hid (IsSts (From w.heap.size) w5 bs (.slice ba bs.length bc)) := hide (HS4.out.same fun c _ h => hb5.block c h)
  have HD5' : Hid (IsDes (From w2.heap.size) w5 ds (.slice da2 ds.length dc2)) := hide (IsRow.same HD4'.out fun c _ h => hb5.block c h)
  have HS5' : Hid (IsSts (From w2.heap.size) w5 bs (.slice ba2 bs.length bc2)) := hide (HS4'.out.same fun c _ h => hb5.block c h)
  clear hb5 f0 f1 HP4 HQ4 HF4 HD4 HS4 HD4' HS4' HR4
  have p0 : w5.cell? ⟨P, 0, none⟩ = some (.slice da ds.length dc) := by rw [blk_cell HP5.out]; rfl
  have q0 : w5.cell? ⟨Q, 0, none⟩ = some (.slice da2 ds.length dc2) := by rw [blk_cell HQ5.out]; rfl
  go_wp2_with fail
  refine (sameDecls_at ds HDL.out _ _ w5 _ _ HD5'.out HD5.out).mono ?_
  rintro e w6 ⟨rfl, hb6⟩
  have HB6 := hide (Below.step HB5.out hb6)
  have HP6 := hide (Below.blk hb6 HP5.out)
  have HQ6 := hide (Below.blk hb6 HQ5.out)
  have HF6 := hide (Below.blk hb6 HF5.out)
  have HD6 : Hid (IsDes (From w.heap.size) w6 ds (.slice da ds.length dc)) := hide (IsRow.same HD5.out fun c _ h => hb6.block c h)
  have HD6' : Hid (IsDes (From w2.heap.size) w6 ds (.slice da2 ds.length dc2)) := hide (IsRow.same HD5'.out fun c _ h => hb6.block c h)
  have HS6 : Hid (IsSts (From w.heap.size) w6 bs (.slice ba bs.length bc)) := hide (HS5.out.same fun c _ h => hb6.block c h)
  have HS6' : Hid (IsSts (From w2.heap.size) w6 bs (.slice ba2 bs.length bc2)) := hide (HS5'.out.same fun c _ h => hb6.block c h)
  clear hb6 p0 q0 HP5 HQ5 HF5 HD5 HS5 HD5' HS5'
  have p1 : w6.cell? ⟨P, 1, none⟩ = some (.slice ba bs.length bc) := by rw [blk_cell HP6.out]; rfl
  have q1 : w6.cell? ⟨Q, 1, none⟩ = some (.slice ba2 bs.length bc2) := by rw [blk_cell HQ6.out]; rfl
  go_wp2_with fail
  refine (HSS.out _ _ w6 _ _ HS6'.out HS6.out).mono ?_
  rintro e w7 ⟨rfl, hb7⟩
  have HB7 := hide (Below.step HB6.out hb7)
  have HP7 := hide (Below.blk hb7 HP6.out)
  have HQ7 := hide (Below.blk hb7 HQ6.out)
  have HF7 := hide (Below.blk hb7 HF6.out)
  have HD7 : Hid (IsDes (From w.heap.size) w7 ds (.slice da ds.length dc)) := hide (IsRow.same HD6.out fun c _ h => hb7.block c h)
  have HD7' : Hid (IsDes (From w2.heap.size) w7 ds (.slice da2 ds.length dc2)) := hide (IsRow.same HD6'.out fun c _ h => hb7.block c h)
  have HS7 : Hid (IsSts (From w.heap.size) w7 bs (.slice ba bs.length bc)) := hide (HS6.out.same fun c _ h => hb7.block c h)
  have HS7' : Hid (IsSts (From w2.heap.size) w7 bs (.slice ba2 bs.length bc2)) := hide (HS6'.out.same fun c _ h => hb7.block c h)
  clear hb7 p1 q1 HP6 HQ6 HF6 HD6 HD6' HS6 HS6'
  have HE7 := hide (HE.out.below HB7.out)
  go_wp2_with fail
  refine (HNM.out w7 HE7.out).mono ?_
  rintro e w8 ⟨rfl, hb8⟩
  have HB8 := hide (Below.step HB7.out hb8)
  have HP8 := hide (Below.blk hb8 HP7.out)
  have HQ8 := hide (Below.blk hb8 HQ7.out)
  have HF8 := hide (Below.blk hb8 HF7.out)
  have HD8 : Hid (IsDes (From w.heap.size) w8 ds (.slice da ds.length dc)) := hide (IsRow.same HD7.out fun c _ h => hb8.block c h)
  have HD8' : Hid (IsDes (From w2.heap.size) w8 ds (.slice da2 ds.length dc2)) := hide (IsRow.same HD7'.out fun c _ h => hb8.block c h)
  have HS8 : Hid (IsSts (From w.heap.size) w8 bs (.slice ba bs.length bc)) := hide (HS7.out.same fun c _ h => hb8.block c h)
  have HS8' : Hid (IsSts (From w2.heap.size) w8 bs (.slice ba2 bs.length bc2)) := hide (HS7'.out.same fun c _ h => hb8.block c h)
  clear hb8 HP7 HQ7 HF7 HD7 HD7' HS7 HS7'
  have HE8 := hide (HE.out.below HB8.out)
  have HT8 := hide (HTB.out.below HB8.out HE.out.big)
  go_wp2_with fail
  refine (HRN.out w8 HE8.out).mono ?_
  rintro e w9 ⟨rfl, hw9⟩
  obtain rfl : w8 = w9 := hw9.symm
  clear hw9
  have hnb : (nb != nb) = false := by simp
  go_wp2_with fail
  have c40 := cell_regrown (show w8.cell? ⟨P + 1, 0, none⟩ = some (.int .i64 ea) by rw [blk_cell HF8.out]; rfl)
  have c41 := cell_regrown (show w8.cell? ⟨P + 1, 1, none⟩ = some (.int .i64 eb) by rw [blk_cell HF8.out]; rfl)
  have g40 := cell_regrown (show w8.cell? ⟨0, 0, none⟩ = some (.int .i64 0) by rw [blk_cell HE8.out.rvars.fine]; rfl)
  have g41 := cell_regrown (show w8.cell? ⟨0, 1, none⟩ = some (.int .i64 (-1)) by rw [blk_cell HE8.out.rvars.fine]; rfl)
  have c50 := cell_regrown (show w8.cell? ⟨Q, 0, none⟩ = some (.slice da2 ds.length dc2) by rw [blk_cell HQ8.out]; rfl)
  have c51 := cell_regrown (show w8.cell? ⟨Q, 1, none⟩ = some (.slice ba2 bs.length bc2) by rw [blk_cell HQ8.out]; rfl)
  have c30 := cell_regrown (show w8.cell? ⟨P, 0, none⟩ = some (.slice da ds.length dc) by rw [blk_cell HP8.out]; rfl)
  have c31 := cell_regrown (show w8.cell? ⟨P, 1, none⟩ = some (.slice ba bs.length bc) by rw [blk_cell HP8.out]; rfl)
  have HWW : Hid (∀ x, Below w8.heap.size w8 x → Below w.heap.size w x ∧ x.heap[P + 1]? = some (.cells #[.int .i64 ea, .int .i64 eb] 28 (0, 0))) := fun x hx => ⟨Below.step HB8.out hx, Below.blk hx HF8.out⟩
  go_cut [58] from 49 to 58 (fun v wx => v = .bool false ∧ Hid (Below w8.heap.size w8 wx))
  case first =>
    rcases HCS.out with hneg | ⟨h1, h2, hg, hlen⟩
    · have hq : (eb == -1) = false := by simp; omega
      have hqq := fault_ne ea eb hneg
      refine wp_region_quiet_below (by kernel_rfl) (by kernel_rfl) ?_
      repeat (quiet_step (fail))
      refine wpQuiet_nil ?_
      intro _ hw'
      obtain ⟨⟨dq, osq⟩, hw''⟩ := hw'
      subst hw''
      go_wp2_with fail
      go_meet
      case rel => exact ⟨rfl, hide (below_regrown w8 dq osq)⟩
    · subst h1 h2
      have hqq := fault_eq
      have HPT : Hid (∀ d os, Calls Tryz.prog 11 #[.agg #[.slice da2 ds.length dc2, .slice ba2 bs.length bc2]] (Sort.grow (redrawn w8 d) os) fun e w'' => e = .returned (.string (bts (printT (ds, bs)))) ∧ ∃ p : Regrown, w'' = Sort.grow (redrawn w8 p.d) p.os) := fun d os => by
        have hb := below_regrown w8 d os
        have hc := below_in (p := (ds, bs)) HD8'.out HS8'.out hb
        have he := HE8.out.below hb
        exact Calls.regrown_of (print_at (ds, bs) hg hlen _ _ _ _ hc.1 hc.2 (fun c h => Nat.lt_of_lt_of_le h.2 hb.size) he.vars (HT8.out.below hb HE8.out.big) he.big)
      have HPR : Hid (∀ d os, Calls Tryz.prog 12 #[.agg #[.slice da ds.length dc, .slice ba bs.length bc]] (Sort.grow (redrawn w8 d) os) fun e w'' => e = .returned (.string (bts (printT (ds, bs)))) ∧ ∃ p : Regrown, w'' = Sort.grow (redrawn w8 p.d) p.os) := fun d os => by
        have hb := below_regrown w8 d os
        have hc := below_in (p := (ds, bs)) HD8.out HS8.out hb
        have he := HE8.out.below hb
        exact Calls.regrown_of (rprint_at (ds, bs) hg hlen _ _ _ _ hc.1 hc.2 (fun c h => Nat.lt_of_lt_of_le h.2 hb.size) he.rvars (HT8.out.below hb HE8.out.big) he.big)
      generalize bts (printT (ds, bs)) = PT at *
      clear hg hlen
      refine wp_region_quiet_below (by kernel_rfl) (by kernel_rfl) ?_
      repeat (quiet_step (first | with_reducible exact HPT.out _ _ | with_reducible exact HPR.out _ _))
      refine wpQuiet_nil ?_
      intro _ hw'
      obtain ⟨⟨dq, osq⟩, hw''⟩ := hw'
      subst hw''
      go_wp2_with fail
      go_meet
      case rel => exact ⟨rfl, hide (below_regrown w8 dq osq)⟩
  case rest =>
    obtain ⟨rfl, hbx⟩ := hcut
    have HB9 := hide (Below.step HB8.out hbx.out)
    have HF9 := hide (Below.blk hbx.out HF8.out)
    clear c40 c41 g40 g41 c50 c51 c30 c31 HP8 HQ8 HD8 HD8' HS8 HS8' HF8 HWW
    have HE9 := hide (HE.out.below HB9.out)
    go_wp2_with fail
    refine (HRD.out wc HE9.out).mono ?_
    rintro e wA ⟨hbA, la, lc, he, hlA⟩
    dsimp only at he hlA
    subst he
    have hfA := Below.blk hbA HF9.out
    have g0 : wA.cell? ⟨P + 1, 0, none⟩ = some (.int .i64 ea) := by rw [blk_cell hfA]; rfl
    have g1 : wA.cell? ⟨P + 1, 1, none⟩ = some (.int .i64 eb) := by rw [blk_cell hfA]; rfl
    have gf : ∀ i, wA.frozen? ⟨P + 1, i, none⟩ = false := blk_frozen hfA
    have hPF : w.heap.size ≤ P + 1 := by have := HWP.out; omega
    have hlt9 := blk_lt HF9.out
    have HBB : Hid (Below w.heap.size w ((wA.setCell ⟨P + 1, 0, none⟩ (.int .i64 fa)).setCell ⟨P + 1, 1, none⟩ (.int .i64 fb))) := hide (((Below.step HB9.out hbA).setCell hPF _).setCell hPF _)
    have HFB : Hid (((wA.setCell ⟨P + 1, 0, none⟩ (.int .i64 fa)).setCell ⟨P + 1, 1, none⟩ (.int .i64 fb)).heap[P + 1]? = some (.cells #[.int .i64 fa, .int .i64 fb] 28 (0, 0))) := hide (by rw [blk_set (blk_set hfA 0 _) 1 _]; rfl)
    have HLB : Hid (IsDes (From wc.heap.size) ((wA.setCell ⟨P + 1, 0, none⟩ (.int .i64 fa)).setCell ⟨P + 1, 1, none⟩ (.int .i64 fb)) ls (.slice la ls.length lc)) := hide (IsRow.same hlA fun b h1 h2 => by
      have h1 : wc.heap.size ≤ b := h1
      exact (set_other _ 1 _ (by omega)).trans (set_other _ 0 _ (by omega)))
    clear hbA hlA hfA HF9
    go_wp2_with fail
    clear g0 g1 gf
    generalize (wA.setCell ⟨P + 1, 0, none⟩ (.int .i64 fa)).setCell ⟨P + 1, 1, none⟩ (.int .i64 fb) = wB at *
    have HEB := hide (HE.out.below HBB.out)
    refine (HDD.out wB HEB.out).mono ?_
    rintro e wX ⟨hbX, la2, lc2, ev2, he, hlX, herr⟩
    dsimp only at he hlX herr
    subst he
    have HBX := hide (Below.step HBB.out hbX)
    have HFX := hide (Below.blk hbX HFB.out)
    have HLX : Hid (IsDes (From wc.heap.size) wX ls (.slice la ls.length lc)) := hide (IsRow.same HLB.out fun c _ h => hbX.block c h)
    have HLX' := hide hlX
    have HRX := hide herr
    clear hbX hlX herr HFB HLB
    have f0 : wX.cell? ⟨P + 1, 0, none⟩ = some (.int .i64 fa) := by rw [blk_cell HFX.out]; rfl
    have f1 : wX.cell? ⟨P + 1, 1, none⟩ = some (.int .i64 fb) := by rw [blk_cell HFX.out]; rfl
    go_wp2_with fail
    refine (HRX.out wX (Below.refl _ _)).mono ?_
    rintro e wY ⟨rfl, hbY⟩
    have HBY := hide (Below.step HBX.out hbY)
    have HLY : Hid (IsDes (From wc.heap.size) wY ls (.slice la ls.length lc)) := hide (IsRow.same HLX.out fun c _ h => hbY.block c h)
    have HLY' : Hid (IsDes (From wB.heap.size) wY ls (.slice la2 ls.length lc2)) := hide (IsRow.same HLX'.out fun c _ h => hbY.block c h)
    clear hbY f0 f1 HLX HLX' HFX HRX
    go_wp2_with fail
    refine (sameDecls_at ls HDD2.out _ _ wY _ _ HLY'.out HLY.out).mono ?_
    rintro e wZ ⟨rfl, hbZ⟩
    have HBZ := hide (Below.step HBY.out hbZ)
    clear hbZ
    go_wp2_with fail
    go_ret
    exact ⟨rfl, HBZ.out⟩
end Go.Proofs.YtlbgdoajaplabaaGreatDoor
