/-
  CONTRACTS of rest where it lies too deep, of stmt, and of body of the reference's reader.
  CONTRACT of body of the reference's reader.
-/
import Derived.Test.YtlbgdoajaplabaaGreatDoorRRest
namespace Go.Proofs.YtlbgdoajaplabaaGreatDoor
open Go.RowKit
set_option linter.unusedSimpArgs false
set_option linter.unusedVariables false

set_option maxRecDepth 100000 in
set_option maxHeartbeats 3200000 in
theorem rrest_deep (f : Nat) {w : World} {R T S : Nat} {ts : List Tok} {deep k pos : Nat} (h : Rr w R T ts k 0 (-1)) (hS : w.heap[S]? = some (stZero pos)) (hSR : S ≠ R) (hST : S ≠ T) (hSG : 12 ≤ S) (hd : 8 ≤ deep) (hd8 : deep ≤ 8) :
    Calls Tryz.prog 72 #[.pointer (some ⟨R, 0, none⟩), .pointer (some ⟨S, 0, none⟩), .int .i64 deep] w (Rested w R T S ts pos (restP ts (f + 1) deep k)) := by
  have HW : Hid (restP ts (f + 1) deep k = .bad 4 (tk ts k).pos) := hide (by simp only [restP, if_pos hd])
  have HR := hide h
  have HS := hide hS
  have hdi : (8 : Int) ≤ (deep : Int) := by omega
  have hwr : IntKind.i64.wrap ((deep : Int) + 1) = (deep : Int) + 1 := wrap_small (by omega) (by omega)
  clear h hS
  go_enter Tryz.func72, Tryz.ntmps72
  go_wp2_with fail
  refine (rfails_good 4 HR.out).mono ?_
  rintro e w1 ⟨rfl, hd1, hk1⟩
  have hb1 := hk1.blk HS.out hSR
  have HD1 : Hid (Rst w1 R T ts (.bad 4 (tk ts k).pos)) := hide ⟨k, hd1⟩
  have s0 : w1.cell? ⟨S, 0, none⟩ = some (.int .i64 0) := by rw [blk_cell hb1]; rfl
  have sf0 : w1.frozen? ⟨S, 0, none⟩ = false := blk_frozen hb1 0
  have HS2 : Hid ((w1.setCell ⟨S, 0, none⟩ (.int .i64 2)).heap[S]? = some (stObj 2 pos ⟨#[]⟩ (.pointer none) (.slice none 0 0) 0 (.slice none 0 0) (.slice none 0 0))) := hide (by rw [blk_set hb1 0 _]; rfl)
  have HD2 := hide (HD1.out.set (S := S) 0 (.int .i64 2) hSR hST hSG)
  have HK2 := hide (((Kept2.refl R S w).kept hk1).set 0 (.int .i64 2))
  clear hd1 hk1 hb1
  go_wp2_with fail
  generalize w1.setCell ⟨S, 0, none⟩ (.int .i64 2) = w2 at *
  refine (rok_bad HD2.out).mono ?_
  rintro e w3 ⟨rfl, hb3⟩
  have HD3 := hide (Rst.below hb3 HD2.out)
  have HK3 := hide (HK2.out.kept (Kept.of hb3))
  have HS3 := hide (Below.blk hb3 HS2.out)
  clear hb3 s0 sf0
  go_wp2_with fail
  refine (rneed_at [116, 104, 101, 110] (by decide) HD3.out).mono ?_
  rintro e w4 ⟨rfl, hs4, hk4⟩
  have HD4 : Hid (Rst w4 R T ts (.bad 4 (tk ts k).pos)) := hide hs4
  have HK4 := hide (HK3.out.kept hk4)
  have HS4 := hide (hk4.blk HS3.out hSR)
  clear hs4 hk4
  go_wp2_with fail
  rw [show ((deep : Int) + 1) = ((deep + 1 : Nat) : Int) by omega]
  refine (rbody_bad HD4.out).mono ?_
  rintro e w5 ⟨rfl, hs5, hk5⟩
  have hb5 := hk5.blk HS4.out hSR
  have s6 : w5.cell? ⟨S, 6, none⟩ = some (.slice none 0 0) := by rw [blk_cell hb5]; rfl
  have sf6 : w5.frozen? ⟨S, 6, none⟩ = false := blk_frozen hb5 6
  have HS6 : Hid ((w5.setCell ⟨S, 6, none⟩ (.slice none 0 0)).heap[S]? = some (stObj 2 pos ⟨#[]⟩ (.pointer none) (.slice none 0 0) 0 (.slice none 0 0) (.slice none 0 0))) := hide (by rw [blk_set hb5 6 _]; rfl)
  have HD6 := hide (hs5.set (S := S) 6 (.slice none 0 0) hSR hST hSG)
  have HK6 := hide ((HK4.out.kept hk5).set 6 (.slice none 0 0))
  obtain ⟨kk, hkk⟩ := HD6.out
  obtain ⟨n, c, h0, _, _, r0, _, _, c2, _, _⟩ := hkk.cells
  clear hkk hs5 hk5 hb5
  go_wp2_with fail
  generalize w5.setCell ⟨S, 6, none⟩ (.slice none 0 0) = w6 at *
  refine (rno_at (r := .bad 4 (tk ts k).pos) [101, 108, 115, 105, 102] (by decide) HD6.out rfl).mono ?_
  rintro e w8 ⟨rfl, hs8, hk8⟩
  have HD8 := hide hs8
  have HK8 := hide (HK6.out.kept hk8)
  have HS8 := hide (hk8.blk HS6.out hSR)
  clear hs8 hk8 r0 c2
  go_wp2_with fail
  refine (rno_at (r := .bad 4 (tk ts k).pos) [101, 108, 115, 101] (by decide) HD8.out rfl).mono ?_
  rintro e w9 ⟨rfl, hs9, hk9⟩
  have HD9 := hide hs9
  have HK9 := hide (HK8.out.kept hk9)
  have HS9 := hide (hk9.blk HS8.out hSR)
  clear hs9 hk9
  go_wp2_with fail
  go_end0
  rw [HW.out]
  exact ⟨rfl, HK9.out, HD9.out, _, _, _, ⟨_, rfl⟩, ⟨_, _, _, rfl⟩, ⟨_, _, _, rfl⟩, HS9.out, fun q k' e => by cases e⟩

theorem rrest_ok (f : Nat) (ihb : RBodyOK f) (ihr : RRestOK f) : RRestOK (f + 1) := by
  intro w R T S ts deep k pos h hS hSR hST hSG hd hout
  by_cases h8 : 8 ≤ deep
  · exact rrest_deep f h hS hSR hST hSG h8 hd
  · exact rrest_main f ihb ihr h hS hSR hST hSG h8 hout

set_option maxRecDepth 100000 in
set_option maxHeartbeats 3200000 in
theorem rstmt_if (f : Nat) (ihr : RRestOK f) {w : World} {R T : Nat} {ts : List Tok} {deep k : Nat} (h : Rr w R T ts k 0 (-1)) (hd : deep ≤ 8) (hif : (tx ts k == [105, 102]) = true) (hout : branchP ts f deep k ≠ .out) :
    Calls Tryz.prog 44 #[.pointer (some ⟨R, 0, none⟩), .int .i64 deep] w (Rfs w R T ts (RStRep w) isS (branchP ts f deep k)) := by
  have HW := hide (branch_rest ts f deep k)
  have HO : Hid (restP ts f deep (k + 1) ≠ .out) := hide fun e => hout (by rw [HW.out, e]; rfl)
  have HR := hide h
  have HI := hide hif
  have IHR := hide ihr
  have hlt := h.Rlt
  have htl := h.Tlt
  have hbig := h.big
  generalize branchP ts f deep k = whole at *
  obtain ⟨n, c, h0, _, _, r0, c0, c1, c2, _, _⟩ := h.cells
  obtain ⟨w1, HW1, HA, HZ, HT⟩ := st_start w (tk ts k).pos
  clear h hif hout ihr
  go_enter Tryz.func44, Tryz.ntmps44
  go_wp2_with fail
  rw [← HW1.out]
  clear HW1
  generalize (tk ts k).pos = pos at *
  generalize hBB : w.heap.size + 1 = B at *
  refine (ryes_at [105, 102] (by decide) (HR.out.below HA.out) HI.out).mono ?_
  rintro e w2 ⟨rfl, hd2, hk2⟩
  have HD2 := hide hd2
  have HK2 := hide (Kept.trans (Kept.of HA.out) hk2)
  have HT2 := hide (hk2.blk HT.out (show B ≠ R by omega))
  have HZ2 := hide (hk2.blk HZ.out (show w.heap.size ≠ R by omega))
  clear hd2 hk2
  go_wp2_with fail
  refine (IHR.out w2 R T B ts deep (k + 1) pos HD2.out HT2.out (by omega) (by omega) (by omega) hd HO.out).mono ?_
  rintro e w3 ⟨rfl, hk3, hs3, x, t, u, ⟨ox, rfl⟩, ⟨ta, tn, tc, rfl⟩, ⟨ua, un, uc, rfl⟩, hB3, hp3⟩
  have HS3 := hide hs3
  have HP3 := hide hp3
  have HB3 := hide hB3
  have HK3 := hide (HK2.out.fresh hk3 (by omega))
  have HZ3 := hide ((hk3.block w.heap.size (blk_lt HZ2.out) (by omega) (by omega)).trans HZ2.out)
  have HBL := hide (blk_lt HT2.out)
  clear hk3 hs3 hB3 hp3
  go_wp2_with fail
  refine (rneed_at [101, 110, 100] (by decide) HS3.out).mono ?_
  rintro e x1 ⟨rfl, hs1, hk1⟩
  have GS1 := hide hs1
  have GK1 := hide hk1
  clear hs1 hk1
  go_wp2_with fail
  refine (rneed_at [59] (by decide) GS1.out).mono ?_
  rintro e x2 ⟨rfl, hs2, hk2⟩
  have GS2 := hide hs2
  have GK2 := hide (GK1.out.trans hk2)
  clear hs2 hk2
  have gz2 := GK2.out.blk HZ3.out (show w.heap.size ≠ R by omega)
  obtain ⟨b0, b1, b2, b3, b4, b5, b6, b7⟩ := st_cells (GK2.out.blk HB3.out (show B ≠ R by omega))
  obtain ⟨z0, z1, z2, z3, z4, z5, z6, z7⟩ := st_cells gz2
  have zf := blk_frozen gz2
  clear gz2
  have GW := hide HK3.out
  generalize hQQ : w.heap.size = Q at *
  go_wp2_with fail
  refine bodyPost_ret (v := .agg #[.int .i64 2, .int .i64 pos, .string ⟨#[]⟩, .pointer ox, .slice none 0 0, .int .i64 0, .slice ta tn tc, .slice ua un uc]) (by simp [results, Tryz.results44, go_sem, z0, z1, z2, z3, z4, z5, z6, z7]) rfl ?_
  refine st_ret (GW.out.trans GK2.out) ?_ (by omega) (by omega) (by omega) (by omega) (by simp [Value.oneCell']) fun a k' e => ?_
  · rw [HW.out]
    show Rst x2 R T ts ((restP ts f deep (k + 1)).bind fun q k => (wantP ts [101, 110, 100] k).bind fun _ k2 => (wantP ts [59] k2).bind fun _ k3 => Res.ok (St.cond pos q.1 q.2.1 q.2.2) k3).un
    rw [un_must3]
    exact GS2.out
  · obtain ⟨q, k3, hq, rfl⟩ := must3_inv (g := fun q : Ex × List St × List St => St.cond pos q.1 q.2.1 q.2.2) (HW.out.symm.trans e)
    obtain ⟨p1, p2, p3⟩ := HP3.out q k3 hq
    have hbl := HBL.out
    have far : ∀ b, From w2.heap.size b → b < w3.heap.size → x2.heap[b]? = w3.heap[b]? := fun b h1 h2 => GK2.out.block b h2 (by have h1 : w2.heap.size ≤ b := h1; omega)
    have low : ∀ b, b < x2.heap.size → From w2.heap.size b → (Q ≤ b ∧ b ≠ Q) := fun b _ h => by have h : w2.heap.size ≤ b := h; exact ⟨by omega, by omega⟩
    obtain ⟨cs, g1, g2⟩ := p2.same far
    obtain ⟨ds, g3, g4⟩ := p3.same far
    simp only [IsSt]
    rw [hQQ]
    exact ⟨_, _, _, cs, ds, rfl, (p1.same far).imp low, g1.imp low, IsStL.imp low _ _ g2, g3.imp low, IsStL.imp low _ _ g4⟩

def RStmtOK (f : Nat) : Prop := ∀ (w : World) (R T : Nat) (ts : List Tok) (deep k : Nat), Rr w R T ts k 0 (-1) → deep ≤ 8 → stmtP ts f deep k ≠ .out →
  Calls Tryz.prog 44 #[.pointer (some ⟨R, 0, none⟩), .int .i64 deep] w (Rfs w R T ts (RStRep w) isS (stmtP ts f deep k))
theorem rstmt_ok (f : Nat) (ihr : RRestOK f) : RStmtOK f := by
  intro w R T ts deep k h hd hout
  unfold stmtP at hout ⊢
  cases hif : (tx ts k == [105, 102]) with
  | true =>
    rw [hif] at hout
    exact rstmt_if f ihr h hd hif hout
  | false =>
    rw [hif] at hout
    simp only [Bool.false_eq_true, if_false] at hout ⊢
    cases hq : seeB ts [58, 61] (nameP ts k).un with
    | false => exact rstmt_call f h hif hq fun e => hout (by rw [act_head ts f k hq, e]; rfl)
    | true =>
      cases hr : nameP ts k with
      | out => rw [hr] at hq; cases hq
      | bad er p => rw [hr] at hq; cases hq
      | ok s k1 =>
        rw [hr] at hq
        exact rstmt_set f h hif hr hq hout
end Go.Proofs.YtlbgdoajaplabaaGreatDoor
namespace Go.Proofs.YtlbgdoajaplabaaGreatDoor
open Go.RowKit
set_option linter.unusedSimpArgs false
set_option linter.unusedVariables false

/-- what the loop over statements holds to -/
def RBd (w : World) (R T : Nat) (ts : List Tok) (f deep : Nat) (whole : Res (List St)) (v : Value) (wr : World) : Prop :=
  Kept R w wr ∧ ((∃ (g : Nat) (acc : List St) (k2 : Nat), g ≤ f ∧ acc.length ≤ k2 ∧ Growing w.heap.size wr acc v ∧ Rr wr R T ts k2 0 (-1) ∧ whole = bodyP ts g deep k2 acc ∧ bodyP ts g deep k2 acc ≠ .out) ∨
    (∃ (er : Int) (p : Nat), isL v ∧ whole = .bad er p ∧ Rst wr R T ts (.bad er p)))

theorem stmtP_lt {ts : List Tok} {f deep k k' : Nat} {s : St} (h : stmtP ts f deep k = .ok s k') : k < k' := by
  unfold stmtP at h
  split at h
  · exact branch_lt h
  · exact act_lt h

set_option maxRecDepth 100000 in
set_option maxHeartbeats 6400000 in
theorem rbody_ok (f : Nat) (ih : ∀ g, g < f → RStmtOK g) : RBodyOK f := by
  intro w R T ts deep k h hdp hout
  obtain ⟨i0, hi, hz0, hz1, hz2⟩ := info_st
  have hnot : ∀ (x : Bool) (w : World), (Op.unary .not (.bool x)).run Tryz.prog w = .ok (.bool (!x)) w := fun _ _ => rfl
  have HR := hide h
  have hlt := h.Rlt
  have htl := h.Tlt
  have hbig := h.big
  have IH := hide ih
  have HL : Hid (RBd w R T ts f deep (bodyP ts f deep k []) (.slice none 0 0) w) := hide ⟨Kept.refl R w, .inl ⟨f, [], k, Nat.le_refl _, Nat.zero_le _, Growing.nil .., h, rfl, hout⟩⟩
  generalize bodyP ts f deep k [] = whole at *
  clear h hout ih
  go_enter Tryz.func18, Tryz.ntmps18
  go_wp2_with fail
  go_loopw [5] (fun v wr => Hid (RBd w R T ts f deep whole v wr)) (fun _ wr => msr R wr)
  case atStart => exact HL
  case round =>
    clear HL
    obtain ⟨hkr, ⟨g, acc, k2, hg, hac, hy, hd2, he2, ho2⟩ | ⟨er, q, ⟨va, vn, vc, rfl⟩, hwh, hst⟩⟩ := hrel.out
    · obtain ⟨va, vc, hv⟩ := hy.val
      subst hv
      have HKR := hide hkr
      have HY := hide hy
      have HD := hide hd2
      have HE := hide he2
      have HO := hide ho2
      have HG := hide hg
      have HAC := hide hac
      have HMS := hide (msr_good hd2)
      have hk8 : k2 < 801 := by have := hd2.fit.fit.len; have := hd2.lt; omega
      have hk2l := hd2.lt
      clear hrel hkr hy hd2 he2 ho2 hg hac
      cases g with
      | zero => exact absurd (show bodyP ts 0 deep k2 acc = .out by simp only [bodyP, stmtsP, Res.bind]) HO.out
      | succ g =>
      have HST := hide (body_step ts g deep k2 acc)
      go_wp2_with fail
      refine (rok_good HD.out).mono ?_
      rintro e w3 ⟨rfl, hb3⟩
      have HB3 := hide hb3
      have HD3 := hide (HD.out.below hb3)
      clear hb3
      go_wp2_with fail
      refine (rsees_at (r := .ok () k2) [101, 110, 100] (by decide) HD3.out).mono ?_
      rintro e w4 ⟨rfl, hb4⟩
      have HB4 := hide (Below.step HB3.out hb4)
      have HD4 := hide (HD3.out.below hb4)
      clear hb4
      cases he1 : (tx ts k2 == [101, 110, 100]) with
      | true =>
        have HW : Hid (whole = .ok acc k2) := hide (by rw [HE.out, HST.out, if_pos (by simp only [endsB, he1, Bool.true_or])])
        have hs1 : seeB ts [101, 110, 100] (.ok () k2) = true := he1
        rw [hs1]
        go_wp2_with fail
        go_ret
        exact Rfs.ok HW.out (HKR.out.below HB4.out) HD4.out ⟨_, _, _, rfl⟩ (HY.out.same fun b _ h2 => HB4.out.block b h2).done
      | false =>
      have hs1 : seeB ts [101, 110, 100] (.ok () k2) = false := he1
      rw [hs1]
      go_wp2_with fail
      refine (rsees_at (r := .ok () k2) [101, 108, 115, 101] (by decide) HD4.out).mono ?_
      rintro e w5 ⟨rfl, hb5⟩
      have HB5 := hide (Below.step HB4.out hb5)
      have HD5 := hide (HD4.out.below hb5)
      clear hb5
      cases he2 : (tx ts k2 == [101, 108, 115, 101]) with
      | true =>
        have HW : Hid (whole = .ok acc k2) := hide (by rw [HE.out, HST.out, if_pos (by simp only [endsB, he2, Bool.or_true, Bool.true_or])])
        have hs2 : seeB ts [101, 108, 115, 101] (.ok () k2) = true := he2
        rw [hs2]
        go_wp2_with fail
        go_ret
        exact Rfs.ok HW.out (HKR.out.below HB5.out) HD5.out ⟨_, _, _, rfl⟩ (HY.out.same fun b _ h2 => HB5.out.block b h2).done
      | false =>
      have hs2 : seeB ts [101, 108, 115, 101] (.ok () k2) = false := he2
      rw [hs2]
      go_wp2_with fail
      refine (rsees_at (r := .ok () k2) [101, 108, 115, 105, 102] (by decide) HD5.out).mono ?_
      rintro e w6 ⟨rfl, hb6⟩
      have HB6 := hide (Below.step HB5.out hb6)
      have HD6 := hide (HD5.out.below hb6)
      clear hb6
      cases he3 : (tx ts k2 == [101, 108, 115, 105, 102]) with
      | true =>
        have HW : Hid (whole = .ok acc k2) := hide (by rw [HE.out, HST.out, if_pos (by simp only [endsB, he3, Bool.or_true])])
        have hs3 : seeB ts [101, 108, 115, 105, 102] (.ok () k2) = true := he3
        rw [hs3]
        go_wp2_with fail
        go_ret
        exact Rfs.ok HW.out (HKR.out.below HB6.out) HD6.out ⟨_, _, _, rfl⟩ (HY.out.same fun b _ h2 => HB6.out.block b h2).done
      | false =>
      have hs3 : seeB ts [101, 108, 115, 105, 102] (.ok () k2) = false := he3
      rw [hs3]
      have HE2 : Hid (whole = (stmtP ts g deep k2).bind fun s k' => bodyP ts g deep k' (acc ++ [s])) := hide (by rw [HE.out, HST.out, if_neg (by simp only [endsB, he1, he2, he3]; decide)])
      have HO2 : Hid (stmtP ts g deep k2 ≠ .out) := hide fun e => HO.out (by rw [HST.out, if_neg (by simp only [endsB, he1, he2, he3]; decide), e]; rfl)
      have HO3 : Hid (∀ s k', stmtP ts g deep k2 = .ok s k' → bodyP ts g deep k' (acc ++ [s]) ≠ .out) := hide fun s k' e e2 => HO.out (by rw [HST.out, if_neg (by simp only [endsB, he1, he2, he3]; decide), e]; exact e2)
      have HK6 := hide (HKR.out.below HB6.out)
      have HY6 := hide (HY.out.same fun b _ h2 => HB6.out.block b h2)
      clear HST he1 he2 he3 hs1 hs2 hs3 HB3 HB4 HB5 HB6 HD3 HD4 HD5 HE HO
      go_wp2_with fail
      refine (IH.out g (by have := HG.out; omega) w6 R T ts deep k2 HD6.out hdp HO2.out).mono ?_
      rintro e w7 ⟨hk7, hs7, v7, rfl, hv7, hp7⟩
      obtain ⟨c, rfl, hc8, hone⟩ := hv7
      obtain ⟨c0, c1, c2, c3, c4, c5, c6, c7, rfl⟩ := eight c hc8
      have HS7 := hide hs7
      have HP7 := hide hp7
      have HONE := hide hone
      have HK7 := hide (HK6.out.trans hk7)
      have HY7 := hide (HY6.out.same fun b h1 h2 => hk7.block b h2 (by omega))
      have HV6 := hide (show ∀ b, (Value.slice va acc.length vc).ownBlock = some b → b < w6.heap.size from by obtain ⟨cs, hr, _⟩ := HY6.out; exact fun b hb => (hr.1.lt b hb).2)
      have H67 := hide hk7.size
      have HK6S := hide HK6.out.size
      clear hk7 hs7 hp7 hc8 hone
      obtain ⟨cs, hrow, hall⟩ := HY7.out
      have HROW := hide hrow
      have HALL := hide hall
      clear hrow hall
      have HOWN := hide ((HROW.out.1).alloc (.cells #[c0, c1, c2, c3, c4, c5, c6, c7] 68))
      go_wp2_with (at_builtin; (refine append_new rfl (.tmp 23) (.tmp 27) 23 rfl 68 i0 (.agg #[.int .i64 0, .int .i64 0, .string ⟨#[]⟩, .pointer none, .slice none 0 0, .int .i64 0, .slice none 0 0, .slice none 0 0]) 8 120 Tryz.underlying23 hi hz0 hz1 hz2 rfl (by decide) _ acc.length cs.flatten rfl HOWN.out ⟨w7.heap.size, 0, none⟩ 1 [c0, c1, c2, c3, c4, c5, c6, c7] rfl rfl ?c1 ?c2 ?c3 (by decide) ?_))
      case c1 => exact row_new _ _ _
      case c2 => exact HONE.out
      case c3 => have := HAC.out; omega
      · intro v8 w8 hown8 hg8 hb8
        obtain ⟨va8, vc8, hv8⟩ : ∃ (a : Option Addr) (c : Nat), v8 = .slice a (acc.length + 1) c := (IsRow.val (S := fun _ => True) ⟨hown8, fun _ _ => trivial⟩)
        subst hv8
        have HLOW : Hid (∀ b, b < w.heap.size → b < w7.heap.size → w8.heap[b]? = w7.heap[b]?) := hide fun b h1 h2 => (hg8.block b (Nat.lt_of_lt_of_le h2 (by simp)) (fun e => by have h3 : w.heap.size ≤ b := HROW.out.2 b e.symm; omega)).trans (Below.heap_alloc w7 _ b h2)
        have HS8 := hide (HS7.out.low HLOW.out hlt htl (by omega))
        have HK8 : Hid (Kept R w w8) := hide (grown_kept hg8 (fun b h => HROW.out.2 b h) (HK7.out.alloc (.cells #[c0, c1, c2, c3, c4, c5, c6, c7] 68)) (Nat.le_refl _))
        have HOWN8 := hide hown8
        have HG8 := hide hg8
        have HB8 := hide hb8
        clear hown8 hg8 hb8
        go_wp2_with fail
        cases hr : stmtP ts g deep k2 with
        | out => exact absurd hr HO2.out
        | bad er q =>
          rw [hr] at HS8 HE2
          refine ⟨⟨HK8.out, .inr ⟨er, q, ⟨_, _, _, rfl⟩, HE2.out, HS8.out⟩⟩, ?_⟩
          rw [msr_bad HS8.out, HMS.out]
          omega
        | ok s k' =>
          rw [hr] at HS8 HE2
          obtain ⟨c', hc', hst⟩ := HP7.out s k' hr
          have hcc : c' = [c0, c1, c2, c3, c4, c5, c6, c7] := by
            injection hc' with hc'
            have := congrArg Array.toList hc'
            simpa using this.symm
          subst hcc
          have hx := sts_snoc (.cells #[c0, c1, c2, c3, c4, c5, c6, c7] 68) rfl HK6S.out H67.out HK7.out HV6.out HROW.out HALL.out hst HOWN8.out HG8.out HB8.out
          have hlt2 := stmtP_lt hr
          refine ⟨⟨HK8.out, .inl ⟨g, acc ++ [s], k', by have := HG.out; omega, by have := HAC.out; simp; omega, hx.1, HS8.out, HE2.out, HO3.out s k' hr⟩⟩, ?_⟩
          rw [msr_good HS8.out, HMS.out]
          have := (show Rr w8 R T ts k' 0 (-1) from HS8.out).lt
          omega
    · have HKR := hide hkr
      have HW := hide hwh
      have HST := hide hst
      clear hrel hkr hwh hst
      go_wp2_with fail
      refine (rok_bad HST.out).mono ?_
      rintro e w1 ⟨rfl, hb⟩
      have HB := hide hb
      clear hb
      go_wp2_with fail
      go_ret
      exact Rfs.bad HW.out (HKR.out.below HB.out) (Rst.below HB.out HST.out) ⟨_, _, _, rfl⟩

theorem rrest_all : ∀ n, ∀ f, f ≤ n → RRestOK f
  | 0, f, hf => by
    have : f = 0 := by omega
    subst this
    intro w R T S ts deep k pos h hS hSR hST hSG hd hout
    exact absurd (by simp only [restP]) hout
  | n + 1, f, hf => by
    have ih := rrest_all n
    by_cases hfn : f ≤ n
    · exact ih f hfn
    · have : f = n + 1 := by omega
      subst this
      exact rrest_ok n (rbody_ok n fun g hg => rstmt_ok g (ih g (by omega))) (ih n (Nat.le_refl _))
theorem rbody_at (f : Nat) : RBodyOK f := rbody_ok f fun g hg => rstmt_ok g (rrest_all f g (by omega))
end Go.Proofs.YtlbgdoajaplabaaGreatDoor
