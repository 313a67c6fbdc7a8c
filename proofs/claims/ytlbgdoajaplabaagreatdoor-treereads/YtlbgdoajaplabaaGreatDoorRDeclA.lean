/-
  CONTRACT of Decls of the reference: it is what the code's own Decls is.
-/
import Derived.Test.YtlbgdoajaplabaaGreatDoorRWhole
import Derived.Test.YtlbgdoajaplabaaGreatDoorWholeD
namespace Go.Proofs.YtlbgdoajaplabaaGreatDoor
open Go.RowKit
set_option linter.unusedSimpArgs false
set_option linter.unusedVariables false

/-- what Decls of the reference comes to -/
def RDParsed (w : World) (r : Res (List De)) (e : Ending) (w' : World) : Prop :=
  Below w.heap.size w w' ∧ match r with
  | .out => False
  | .bad er p => e = .returned (.tuple #[.slice none 0 0, .agg #[.int .i64 er, .int .i64 p]])
  | .ok l _ => ∃ v : Value, e = .returned (.tuple #[v, .agg #[.int .i64 0, .int .i64 (-1)]]) ∧ IsDes (From w.heap.size) w' l v

set_option maxRecDepth 100000 in
set_option maxHeartbeats 6400000 in
theorem rdeclsA_of (s : ByteArray) (w : World) (hs : s.size ≤ 1000000) (hv : RVars w) (h14 : 12 ≤ w.heap.size)
    (htok : ∀ W, RVars W → Calls Tryz.prog 15 #[.string s] W (RCut W (tokens s))) :
    Calls Tryz.prog 13 #[.string s] w (RDParsed w (decls2 s)) := by
  have HV := hide hv
  have HT := hide htok
  have HPA : Hid (decls2 s = (tokens s).bind fun ts _ => wholeP ts (declsP ts (fuel2 ts) 0 [])) := hide rfl
  have HNE : Hid (∀ ts k, tokens s = .ok ts k → 0 < ts.length) := hide fun ts k e => toks_ne s _ _ _ ts k e
  have he := flt_eq
  have HB0 := hide (below_alloc w (.cells #[.int .i64 0, .int .i64 0] 28))
  have HF0 := hide (blk_new w (.cells #[.int .i64 0, .int .i64 0] 28))
  generalize decls2 s = whole at *
  generalize tokens s = tks at *
  clear hv htok
  go_enter Tryz.func13, Tryz.ntmps13
  go_wp2_with fail
  generalize w.alloc (.cells #[.int .i64 0, .int .i64 0] 28) = w0 at *
  refine (HT.out w0 (HV.out.below HB0.out)).mono ?_
  rintro e w1 ⟨hb1, h1⟩
  have HB1 := hide (Below.step HB0.out hb1)
  have HF1 := hide (Below.blk hb1 HF0.out)
  have facts : ∀ o : Obj, (w1.alloc o).cell? ⟨0, 0, none⟩ = some (.int .i64 0) ∧ (w1.alloc o).cell? ⟨0, 1, none⟩ = some (.int .i64 (-1)) ∧ (w1.alloc o).cell? ⟨w.heap.size, 0, none⟩ = some (.int .i64 0) ∧ (w1.alloc o).cell? ⟨w.heap.size, 1, none⟩ = some (.int .i64 0) ∧ (∀ i, (w1.alloc o).frozen? ⟨w.heap.size, i, none⟩ = false) := fun o => by
    have hb := below_alloc w1 o
    have hf := (HV.out.below (Below.step HB1.out hb)).fine
    have hq := Below.blk hb HF1.out
    exact ⟨by rw [blk_cell hf]; rfl, by rw [blk_cell hf]; rfl, by rw [blk_cell hq]; rfl, by rw [blk_cell hq]; rfl, blk_frozen hq⟩
  cases tks with
  | out => exact h1.elim
  | bad er q =>
    have h1 : e = .returned (.tuple #[.slice none 0 0, .agg #[.int .i64 er, .int .i64 q]]) := h1
    subst h1
    have HW : Hid (whole = .bad er q) := HPA
    have hq1 : (er == 0 && (q : Int) == -1) = false := by
      have : ((q : Int) == -1) = false := by rw [beq_eq_false_iff_ne]; omega
      rw [this, Bool.and_false]
    obtain ⟨g0, g1, q0, q1, qf⟩ := facts (.cells #[.int .i64 er, .int .i64 q] 28)
    have hb2 := below_alloc w1 (.cells #[.int .i64 er, .int .i64 q] 28)
    have HB2 := hide (Below.step HB1.out hb2)
    have hn2 := blk_new w1 (.cells #[.int .i64 er, .int .i64 q] 28)
    have n0 : (w1.alloc (.cells #[.int .i64 er, .int .i64 q] 28)).cell? ⟨w1.heap.size, 0, none⟩ = some (.int .i64 er) := by rw [blk_cell hn2]; rfl
    have n1 : (w1.alloc (.cells #[.int .i64 er, .int .i64 q] 28)).cell? ⟨w1.heap.size, 1, none⟩ = some (.int .i64 q) := by rw [blk_cell hn2]; rfl
    have hz1 : w1.heap.size ≠ w.heap.size := by have := blk_lt HF1.out; omega
    clear hb1 HPA facts hb2 hn2
    generalize hw2 : w1.alloc (.cells #[.int .i64 er, .int .i64 q] 28) = w2 at *
    have n0d : w2.drew.cell? ⟨w1.heap.size, 0, none⟩ = some (.int .i64 er) := n0
    have n1d : w2.drew.cell? ⟨w1.heap.size, 1, none⟩ = some (.int .i64 q) := n1
    have q0d : w2.drew.cell? ⟨w.heap.size, 0, none⟩ = some (.int .i64 0) := q0
    have q1d : w2.drew.cell? ⟨w.heap.size, 1, none⟩ = some (.int .i64 0) := q1
    have qfd : ∀ i, w2.drew.frozen? ⟨w.heap.size, i, none⟩ = false := qf
    go_wp2_with fail
    clear hw2
    generalize w1.heap.size = X at *
    generalize hP : w.heap.size = P at *
    go_region
    go_wp2_with fail
    refine bodyPost_ret (v := .tuple #[.slice none 0 0, .agg #[.int .i64 er, .int .i64 q]]) (by simp [results, Tryz.results13, go_sem, q0, q1]) rfl ?_
    rw [HW.out]
    refine ⟨?_, rfl⟩
    rw [hP]
    exact (HB2.out.drew.setCell (Nat.le_refl _) _).setCell (Nat.le_refl _) _
  | ok ts u =>
    obtain ⟨T, cap, rfl, hrow, hT, hcap, hfit⟩ := h1
    have HW : Hid (whole = wholeP ts (declsP ts (fuel2 ts) 0 [])) := HPA
    obtain ⟨g0, g1, q0, q1, qf⟩ := facts (.cells #[.int .i64 0, .int .i64 (-1)] 28)
    have hb2 := below_alloc w1 (.cells #[.int .i64 0, .int .i64 (-1)] 28)
    have HB2 := hide (Below.step HB1.out hb2)
    have HF2 := hide (Below.blk hb2 HF1.out)
    have HROW : Hid (RRow (w1.alloc (.cells #[.int .i64 0, .int .i64 (-1)] 28)) T ts) := hide fun i hi => ⟨cell_alloc (hrow i hi).1 _, cell_alloc (hrow i hi).2.1 _, cell_alloc (hrow i hi).2.2 _⟩
    have HFIT := hide hfit
    have hpos : 0 < ts.length := HNE.out ts u rfl
    have hT0 := cell_lt (hrow 0 hpos).1
    have hn2 := blk_new w1 (.cells #[.int .i64 0, .int .i64 (-1)] 28)
    have n0 : (w1.alloc (.cells #[.int .i64 0, .int .i64 (-1)] 28)).cell? ⟨w1.heap.size, 0, none⟩ = some (.int .i64 0) := by rw [blk_cell hn2]; rfl
    have n1 : (w1.alloc (.cells #[.int .i64 0, .int .i64 (-1)] 28)).cell? ⟨w1.heap.size, 1, none⟩ = some (.int .i64 (-1)) := by rw [blk_cell hn2]; rfl
    have hTw : T < w1.heap.size := hT0
    have hPw := blk_lt HF1.out
    have hs2 : Hid ((w1.alloc (.cells #[.int .i64 0, .int .i64 (-1)] 28)).heap.size = w1.heap.size + 1) := hide (by simp)
    clear hb1 HPA facts hb2 hrow hfit hn2
    generalize hw2 : w1.alloc (.cells #[.int .i64 0, .int .i64 (-1)] 28) = w2 at *
    have hb3 := below_alloc w2 (.cells #[.slice (some ⟨T, 0, none⟩) ts.length cap, .int .i64 0, .int .i64 (-1)] 49)
    have HB3 := hide (Below.step HB2.out hb3)
    have HF3 := hide (Below.blk hb3 HF2.out)
    have hm3 := blk_new w2 (.cells #[.slice (some ⟨T, 0, none⟩) ts.length cap, .int .i64 0, .int .i64 (-1)] 49)
    have HR3 : Hid (Rr (w2.alloc (.cells #[.slice (some ⟨T, 0, none⟩) ts.length cap, .int .i64 0, .int .i64 (-1)] 49)) w2.heap.size T ts 0 0 (-1)) := hide ⟨⟨ts.length, cap, by omega, hcap, by simpa using hm3⟩, fun i hi => ⟨cell_alloc (HROW.out i hi).1 _, cell_alloc (HROW.out i hi).2.1 _, cell_alloc (HROW.out i hi).2.2 _⟩, by have := hs2.out; omega, by have := hs2.out; omega, HV.out.below HB3.out, hpos, HFIT.out⟩
    have HPW : Hid (w.heap.size < w2.heap.size ∧ T < w2.heap.size) := hide (by have := hs2.out; omega)
    have HO1 := hide (declsA_out ts)
    generalize fuel2 ts = F at *
    clear hb3 hm3
    go_wp2_with fail
    clear hw2 n0 n1 g0 g1 q0 q1 qf HF2 HB2 HROW hs2 hT0 hTw hPw
    have HSZ : Hid (w2.heap.size < (w2.alloc (.cells #[.slice (some ⟨T, 0, none⟩) ts.length cap, .int .i64 0, .int .i64 (-1)] 49)).heap.size) := hide (by simp)
    generalize w2.alloc (.cells #[.slice (some ⟨T, 0, none⟩) ts.length cap, .int .i64 0, .int .i64 (-1)] 49) = w3 at *
    generalize w2.heap.size = R at *
    have hpw := HPW.out
    have hsz := HSZ.out
    refine (rdecls_at F HR3.out HO1.out).mono ?_
    rintro e w4 ⟨hk4, hs4, v4, rfl, ⟨da, dn, dc, rfl⟩, hp4⟩
    have HS4 := hide hs4
    have HP4 := hide hp4
    have HF4 := hide (hk4.blk HF3.out (show w.heap.size ≠ R by omega))
    have HB4 : Hid (Below w.heap.size w w4) := hide ⟨hk4.os.trans HB3.out.os, hk4.tape.trans HB3.out.tape, hk4.output.trans HB3.out.output, Nat.le_trans HB3.out.size hk4.size, fun b hb => (hk4.block b (Nat.lt_of_lt_of_le hb HB3.out.size) (by omega)).trans (HB3.out.block b hb)⟩
    clear hk4 hs4 hp4
    have tailBad : ∀ (er : Int) (q : Nat) (wA : World), Rst wA R T ts (.bad er q) → Below w.heap.size w wA → wA.heap[w.heap.size]? = some (.cells #[.int .i64 0, .int .i64 0] 28 (0, 0)) → True := fun _ _ _ _ _ _ => trivial
    clear tailBad
    cases hr : declsP ts F 0 [] with
    | out => exact absurd hr HO1.out
    | bad er q =>
      rw [hr] at HS4
      have HW2 : Hid (whole = .bad er q) := hide (by rw [HW.out, hr]; rfl)
      obtain ⟨kk, hkk⟩ := HS4.out
      obtain ⟨n, c, h0, _, _, r0, c0, _, _, _, hm⟩ := hkk.cells
      have hend := rk_end hkk.fit kk
      clear hm hkk hr HP4
      cases hkd : ((tk ts kk).kind == 0) with
      | true =>
        have hk4 : (((rk (tk ts kk) : Nat) : Int) != 4) = false := by rw [bne, hend, hkd]; rfl
        clear hend hkd
        go_wp2_with fail
        refine (rok_bad HS4.out).mono ?_
        rintro e wB ⟨rfl, hbB⟩
        have HBB := hide (Below.step HB4.out hbB)
        have HFB := hide (Below.blk hbB HF4.out)
        obtain ⟨kb, hkb⟩ := Rst.below hbB HS4.out
        obtain ⟨nb, cb, _, _, _, _, _, _, _, _, hmb⟩ := hkb.cells
        have n0d : wB.drew.cell? ⟨R, 1, none⟩ = some (.int .i64 er) := by show wB.cell? _ = _; rw [blk_cell hmb]; rfl
        have n1d : wB.drew.cell? ⟨R, 2, none⟩ = some (.int .i64 q) := by show wB.cell? _ = _; rw [blk_cell hmb]; rfl
        have n0p : wB.cell? ⟨R, 1, none⟩ = some (.int .i64 er) := n0d
        have n1p : wB.cell? ⟨R, 2, none⟩ = some (.int .i64 q) := n1d
        have q0 : wB.drew.cell? ⟨w.heap.size, 0, none⟩ = some (.int .i64 0) := by show wB.cell? _ = _; rw [blk_cell HFB.out]; rfl
        have q1 : wB.drew.cell? ⟨w.heap.size, 1, none⟩ = some (.int .i64 0) := by show wB.cell? _ = _; rw [blk_cell HFB.out]; rfl
        have qf : ∀ i, wB.drew.frozen? ⟨w.heap.size, i, none⟩ = false := blk_frozen HFB.out
        have q0' : wB.cell? ⟨w.heap.size, 0, none⟩ = some (.int .i64 0) := q0
        have q1' : wB.cell? ⟨w.heap.size, 1, none⟩ = some (.int .i64 0) := q1
        have qf' : ∀ i, wB.frozen? ⟨w.heap.size, i, none⟩ = false := qf
        have hz1 : R ≠ w.heap.size := by omega
        clear hbB hkb hmb r0 c0
        go_wp2_with fail
        generalize hP : w.heap.size = P at *
        go_region
        go_wp2_with fail
        refine bodyPost_ret (v := .tuple #[.slice none 0 0, .agg #[.int .i64 er, .int .i64 q]]) (by simp [results, Tryz.results13, go_sem, q0', q1']) rfl ?_
        rw [HW2.out]
        refine ⟨?_, rfl⟩
        rw [hP]
        exact (HBB.out.drew.setCell (Nat.le_refl _) _).setCell (Nat.le_refl _) _
      | false =>
        have hk4 : (((rk (tk ts kk) : Nat) : Int) != 4) = true := by rw [bne, hend, hkd]; rfl
        clear hend hkd
        go_wp2_with fail
        refine (rfails_bad 3 (r := .bad er q) HS4.out rfl).mono ?_
        rintro e wA ⟨rfl, hbA⟩
        have HSA := hide (Rst.below hbA HS4.out)
        have HBA := hide (Below.step HB4.out hbA)
        have HFA := hide (Below.blk hbA HF4.out)
        clear hbA r0 c0
        go_wp2_with fail
        refine (rok_bad HSA.out).mono ?_
        rintro e wB ⟨rfl, hbB⟩
        have HBB := hide (Below.step HBA.out hbB)
        have HFB := hide (Below.blk hbB HFA.out)
        obtain ⟨kb, hkb⟩ := Rst.below hbB HSA.out
        obtain ⟨nb, cb, _, _, _, _, _, _, _, _, hmb⟩ := hkb.cells
        have n0d : wB.drew.cell? ⟨R, 1, none⟩ = some (.int .i64 er) := by show wB.cell? _ = _; rw [blk_cell hmb]; rfl
        have n1d : wB.drew.cell? ⟨R, 2, none⟩ = some (.int .i64 q) := by show wB.cell? _ = _; rw [blk_cell hmb]; rfl
        have n0p : wB.cell? ⟨R, 1, none⟩ = some (.int .i64 er) := n0d
        have n1p : wB.cell? ⟨R, 2, none⟩ = some (.int .i64 q) := n1d
        have q0 : wB.drew.cell? ⟨w.heap.size, 0, none⟩ = some (.int .i64 0) := by show wB.cell? _ = _; rw [blk_cell HFB.out]; rfl
        have q1 : wB.drew.cell? ⟨w.heap.size, 1, none⟩ = some (.int .i64 0) := by show wB.cell? _ = _; rw [blk_cell HFB.out]; rfl
        have qf : ∀ i, wB.drew.frozen? ⟨w.heap.size, i, none⟩ = false := blk_frozen HFB.out
        have q0' : wB.cell? ⟨w.heap.size, 0, none⟩ = some (.int .i64 0) := q0
        have q1' : wB.cell? ⟨w.heap.size, 1, none⟩ = some (.int .i64 0) := q1
        have qf' : ∀ i, wB.frozen? ⟨w.heap.size, i, none⟩ = false := qf
        have hz1 : R ≠ w.heap.size := by omega
        clear hbB hkb hmb
        go_wp2_with fail
        generalize hP : w.heap.size = P at *
        go_region
        go_wp2_with fail
        refine bodyPost_ret (v := .tuple #[.slice none 0 0, .agg #[.int .i64 er, .int .i64 q]]) (by simp [results, Tryz.results13, go_sem, q0', q1']) rfl ?_
        rw [HW2.out]
        refine ⟨?_, rfl⟩
        rw [hP]
        exact (HBB.out.drew.setCell (Nat.le_refl _) _).setCell (Nat.le_refl _) _
    | ok ds k4 =>
      have HDS := hide (HP4.out ds k4 hr)
      rw [hr] at HS4
      have HS5 : Hid (Rst w4 R T ts (.ok () k4)) := HS4
      obtain ⟨n, c, h0, _, _, r0, c0, _, _, _, _⟩ := HS5.out.good.cells
      have hend := rk_end HFIT.out k4
      clear HP4 HS4
      cases hkd : ((tk ts k4).kind == 0) with
      | false =>
        have hk4 : (((rk (tk ts k4) : Nat) : Int) != 4) = true := by rw [bne, hend, hkd]; rfl
        have HW2 : Hid (whole = .bad 3 (tk ts k4).pos) := hide (by
          have hkn : ¬ (tk ts k4).kind = 0 := by simpa using hkd
          rw [HW.out, hr]
          simp only [wholeP, Res.bind_ok, if_neg hkn])
        clear hend hkd hr
        go_wp2_with fail
        refine (rfails_good 3 HS5.out.good).mono ?_
        rintro e wA ⟨rfl, hdA, hkA⟩
        have HSA : Hid (Rst wA R T ts (.bad 3 (tk ts k4).pos)) := hide ⟨k4, hdA⟩
        have HFA := hide (hkA.blk HF4.out (show w.heap.size ≠ R by omega))
        have HBA : Hid (Below w.heap.size w wA) := hide ⟨hkA.os.trans HB4.out.os, hkA.tape.trans HB4.out.tape, hkA.output.trans HB4.out.output, Nat.le_trans HB4.out.size hkA.size, fun b hb => (hkA.block b (Nat.lt_of_lt_of_le hb HB4.out.size) (by omega)).trans (HB4.out.block b hb)⟩
        clear hdA hkA r0 c0
        generalize (tk ts k4).pos = pz at *
        go_wp2_with fail
        refine (rok_bad HSA.out).mono ?_
        rintro e wB ⟨rfl, hbB⟩
        have HBB := hide (Below.step HBA.out hbB)
        have HFB := hide (Below.blk hbB HFA.out)
        obtain ⟨kb, hkb⟩ := Rst.below hbB HSA.out
        obtain ⟨nb, cb, _, _, _, _, _, _, _, _, hmb⟩ := hkb.cells
        have n0d : wB.drew.cell? ⟨R, 1, none⟩ = some (.int .i64 3) := by show wB.cell? _ = _; rw [blk_cell hmb]; rfl
        have n1d : wB.drew.cell? ⟨R, 2, none⟩ = some (.int .i64 pz) := by show wB.cell? _ = _; rw [blk_cell hmb]; rfl
        have n0p : wB.cell? ⟨R, 1, none⟩ = some (.int .i64 3) := n0d
        have n1p : wB.cell? ⟨R, 2, none⟩ = some (.int .i64 pz) := n1d
        have q0 : wB.drew.cell? ⟨w.heap.size, 0, none⟩ = some (.int .i64 0) := by show wB.cell? _ = _; rw [blk_cell HFB.out]; rfl
        have q1 : wB.drew.cell? ⟨w.heap.size, 1, none⟩ = some (.int .i64 0) := by show wB.cell? _ = _; rw [blk_cell HFB.out]; rfl
        have qf : ∀ i, wB.drew.frozen? ⟨w.heap.size, i, none⟩ = false := blk_frozen HFB.out
        have q0' : wB.cell? ⟨w.heap.size, 0, none⟩ = some (.int .i64 0) := q0
        have q1' : wB.cell? ⟨w.heap.size, 1, none⟩ = some (.int .i64 0) := q1
        have qf' : ∀ i, wB.frozen? ⟨w.heap.size, i, none⟩ = false := qf
        have hz1 : R ≠ w.heap.size := by omega
        clear hbB hkb hmb
        go_wp2_with fail
        generalize hP : w.heap.size = P at *
        go_region
        go_wp2_with fail
        refine bodyPost_ret (v := .tuple #[.slice none 0 0, .agg #[.int .i64 3, .int .i64 pz]]) (by simp [results, Tryz.results13, go_sem, q0', q1']) rfl ?_
        rw [HW2.out]
        refine ⟨?_, rfl⟩
        rw [hP]
        exact (HBB.out.drew.setCell (Nat.le_refl _) _).setCell (Nat.le_refl _) _
      | true =>
        have hk4 : (((rk (tk ts k4) : Nat) : Int) != 4) = false := by rw [bne, hend, hkd]; rfl
        have HW2 : Hid (whole = .ok ds k4) := hide (by
          have hkn : (tk ts k4).kind = 0 := by simpa using hkd
          rw [HW.out, hr]
          simp only [wholeP, Res.bind_ok, if_pos hkn])
        clear hend hkd hr
        go_wp2_with fail
        refine (rok_good HS5.out.good).mono ?_
        rintro e wB ⟨rfl, hbB⟩
        have HBB := hide (Below.step HB4.out hbB)
        have HFB := hide (Below.blk hbB HF4.out)
        have HDB := hide (IsRow.same HDS.out fun b _ h2 => hbB.block b h2)
        have gf := (HV.out.below HBB.out.drew).fine
        have g0 : wB.drew.cell? ⟨0, 0, none⟩ = some (.int .i64 0) := by rw [blk_cell gf]; rfl
        have g1 : wB.drew.cell? ⟨0, 1, none⟩ = some (.int .i64 (-1)) := by rw [blk_cell gf]; rfl
        have g0p : wB.cell? ⟨0, 0, none⟩ = some (.int .i64 0) := g0
        have g1p : wB.cell? ⟨0, 1, none⟩ = some (.int .i64 (-1)) := g1
        have q0 : wB.drew.cell? ⟨w.heap.size, 0, none⟩ = some (.int .i64 0) := by show wB.cell? _ = _; rw [blk_cell HFB.out]; rfl
        have q1 : wB.drew.cell? ⟨w.heap.size, 1, none⟩ = some (.int .i64 0) := by show wB.cell? _ = _; rw [blk_cell HFB.out]; rfl
        have qf : ∀ i, wB.drew.frozen? ⟨w.heap.size, i, none⟩ = false := blk_frozen HFB.out
        have q0' : wB.cell? ⟨w.heap.size, 0, none⟩ = some (.int .i64 0) := q0
        have q1' : wB.cell? ⟨w.heap.size, 1, none⟩ = some (.int .i64 0) := q1
        have qf' : ∀ i, wB.frozen? ⟨w.heap.size, i, none⟩ = false := qf
        have hg1 : 0 ≠ w.heap.size := by omega
        clear hbB gf r0 c0
        go_wp2_with fail
        generalize hP : w.heap.size = P at *
        go_region
        go_wp2_with fail
        refine bodyPost_ret (v := .tuple #[.slice da dn dc, .agg #[.int .i64 0, .int .i64 (-1)]]) (by simp [results, Tryz.results13, go_sem, q0', q1']) rfl ?_
        rw [HW2.out]
        refine ⟨?_, _, rfl, ?_⟩
        · rw [hP]
          exact (HBB.out.drew.setCell (Nat.le_refl _) _).setCell (Nat.le_refl _) _
        · refine IsRow.imp (IsRow.same HDB.out fun b h1 h2 => ?_) fun b _ h => ?_
          · have h1 : w3.heap.size ≤ b := h1
            exact (set_other _ 1 _ (by omega)).trans (set_other _ 0 _ (by omega))
          · have h : w3.heap.size ≤ b := h
            show w.heap.size ≤ b
            omega

theorem rdeclsA_at (s : ByteArray) (w : World) (hs : s.size ≤ 1000000) (hv : RVars w) (h14 : 12 ≤ w.heap.size) :
    Calls Tryz.prog 13 #[.string s] w (RDParsed w (decls2 s)) :=
  rdeclsA_of s w hs hv h14 fun W hv => rtokens_at s W hs hv
end Go.Proofs.YtlbgdoajaplabaaGreatDoor
