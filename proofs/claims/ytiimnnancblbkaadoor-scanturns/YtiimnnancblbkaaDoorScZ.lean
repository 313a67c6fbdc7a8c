/-
  THE WALK of ScanTurns.
-/
import Derived.Test.YtiimnnancblbkaaDoorScY
import Derived.Test.YtiimnnancblbkaaDoorRight
set_option linter.unusedSimpArgs false
set_option linter.unusedVariables false
namespace Go.Proofs.YtiimnnancblbkaaDoor
open Go.RowKit

/-- rows of numbers that came in -/
def rowI (gs : List (List Int)) (r : Nat) : List Int := gs[r]?.getD []
def GridI (w : World) (ga : Option Addr) (A : Nat → Option Addr) (C : Nat → Nat) (gs : List (List Int)) : Prop :=
  ∀ r, r < gs.length → (∃ b off, ga = some ⟨b, off, none⟩ ∧ w.cell? ⟨b, off + r, none⟩ = some (.slice (A r) (rowI gs r).length (C r))) ∧ Lies (fun c => c < w.heap.size) w (A r) (intsC (rowI gs r)) ∧ (rowI gs r).length ≤ C r ∧ C r ≤ maxLen
theorem Plt.km {w w' : World} {P V B V' B' : Nat} {dv bv : Value} {vs : Vs} {ks : Ks} (h : Plt w P V B dv bv vs ks) (hk : KM V' B' w w') (h1 : P ≠ V' ∧ P ≠ B') (h2 : V ≠ V' ∧ V ≠ B') (h3 : B ≠ V' ∧ B ≠ B') : Plt w' P V B dv bv vs ks :=
  ⟨hk.blk h.me h1.1 h1.2, hk.blk (show w.heap[V]? = some _ from h.vals) h2.1 h2.2, hk.blk (show w.heap[B]? = some _ from h.blks) h3.1 h3.2, h.ne⟩
theorem app_de {B : Nat} {w : World} {v : Value} {l : List De} {d : De} {n n' c : Nat} {ao : Option Addr} (h : Mine 32 4 B w v n (l.flatMap deCells)) (hn : l.length = n) (hn' : n' = n + 1) (hnew : Lies AnyB w ao (deCells d)) (hB : B ≤ w.heap.size) (hbig : n' ≤ 100000) :
    Apped 24 32 4 B w v 1 ao c n' ((l ++ [d]).flatMap deCells) := by
  obtain ⟨i, hi, hz, hs, hby⟩ := info_de
  subst hn hn'
  obtain ⟨ao', cap', w', hr, h2, h3, h4⟩ := app_own (P := Tryd.prog) (w := w) 24 24 32 i _ 4 40 (by kernel_rfl) hi hz hs hby rfl (by decide) v l.length _ h.own ao 1 c (deCells d) rfl hnew (by simp [Value.oneCell']) (by omega) (by decide)
  exact ⟨ao', cap', w', hr, ⟨by simpa using h2, fun b hb => (h4 b hb).elim (h.new b) (Nat.le_trans hB)⟩, h3, h4⟩
/-- a program under way, whose declarations are laid one by one -/
def QAt (w : World) (T : Nat) (bv : Value) (L : List De) (qa : Option Addr) (qc : Nat) : Prop :=
  w.heap[T]? = some (.cells #[.slice qa L.length qc, bv] 27 (0, 0)) ∧ Mine 32 4 (T + 1) w (.slice qa L.length qc) L.length (L.flatMap deCells)
theorem QAt.drewQ {x : World} {T : Nat} {bv : Value} {L : List De} {qa : Option Addr} {qc : Nat} (h : QAt x T bv L qa qc) : QAt x.drew T bv L qa qc := ⟨h.1, h.2.same fun _ _ _ => rfl⟩
theorem QAt.add {x : World} {T : Nat} {bv : Value} {L : List De} {qa : Option Addr} {qc : Nat} (d : De) (h : QAt x T bv L qa qc) (hL : L.length ≤ 1000) :
    ∃ (qa' : Option Addr) (qc' : Nat) (x3 : World), (Builtin.append_ #[24, 24] 24 #[.slice qa L.length qc, .slice (some ⟨x.heap.size, 0, none⟩) 1 1]).run Tryd.prog (x.alloc (.cells #[.string d.name, .int .i64 d.way, .int .i64 d.ty, .int .i64 d.init] 32)) = .ok (.slice qa' (L.length + 1) qc') x3 ∧
      x3.heap[T]? = some (.cells #[.slice qa L.length qc, bv] 27 (0, 0)) ∧ QAt (x3.setCell ⟨T, 0, none⟩ (.slice qa' (L.length + 1) qc')) T bv (L ++ [d]) qa' qc' ∧ Below T x (x3.setCell ⟨T, 0, none⟩ (.slice qa' (L.length + 1) qc')) ∧ Below T x x3 := by
  obtain ⟨h1, h2⟩ := h
  have hT := blk_lt h1
  have hb := below_alloc x (.cells #[.string d.name, .int .i64 d.way, .int .i64 d.ty, .int .i64 d.init] 32)
  have hn := blk_new x (.cells #[.string d.name, .int .i64 d.way, .int .i64 d.ty, .int .i64 d.init] 32)
  obtain ⟨qa', qc', x3, hr, hm, hg, hnb⟩ := app_de (d := d) (c := 1) (h2.below hb) rfl rfl (ao := some ⟨x.heap.size, 0, none⟩) (.inr ⟨x.heap.size, 0, rfl, trivial, fun i u hu => by rw [blk_cell hn]; simpa using hu⟩) (Nat.le_trans hT hb.size) (by omega)
  have hne : ∀ b, (Value.slice qa L.length qc).ownBlock = some b → T < b := fun b hb => h2.new b hb
  have h3T : x3.heap[T]? = some (.cells #[.slice qa L.length qc, bv] 27 (0, 0)) := (hg.block T (Nat.lt_of_lt_of_le hT hb.size) fun e => by have := hne T e.symm; omega).trans (Below.blk hb h1)
  have hb3 : Below T x x3 := Below.grownOn (hb.mono (Nat.le_of_lt hT)) hg (fun b hb => Nat.le_of_lt (hne b hb)) (Nat.le_trans (Nat.le_of_lt hT) hb.size)
  refine ⟨qa', qc', x3, hr, h3T, ⟨?_, ?_⟩, hb3.setCell (Nat.le_refl _) _, hb3⟩
  · rw [blk_set h3T]
    simp
  · have : (L ++ [d]).length = L.length + 1 := by simp
    rw [this]
    exact hm.same fun b hb _ => set_other _ 0 _ (by have := hm.new b hb; omega)
/-- the variables that come first -/
def firstD (l : List De) : List De := (l.filter fun d => d.way == 3).reverse
def restD (l : List De) : List De := l.filter fun d => !(d.way == 3)
theorem firstD_yes (ds : List De) (n : Nat) (h : n < ds.length) (hw : ds[n].way = 3) : firstD (ds.drop n) = firstD (ds.drop (n + 1)) ++ [ds[n]] := by
  unfold firstD
  rw [List.drop_eq_getElem_cons h, List.filter_cons, hw]
  simp
theorem firstD_no (ds : List De) (n : Nat) (h : n < ds.length) (hw : ¬ ds[n].way = 3) : firstD (ds.drop n) = firstD (ds.drop (n + 1)) := by
  unfold firstD
  rw [List.drop_eq_getElem_cons h, List.filter_cons]
  simp [hw]
theorem restD_no (ds : List De) (n : Nat) (h : n < ds.length) (hw : ds[n].way = 3) : restD (ds.take (n + 1)) = restD (ds.take n) := by
  unfold restD
  rw [List.take_succ_eq_append_getElem h, List.filter_append]
  simp [hw]
theorem restD_yes (ds : List De) (n : Nat) (h : n < ds.length) (hw : ¬ ds[n].way = 3) : restD (ds.take (n + 1)) = restD (ds.take n) ++ [ds[n]] := by
  unfold restD
  rw [List.take_succ_eq_append_getElem h, List.filter_append]
  simp [hw]
theorem firstD_le (l : List De) : (firstD l).length ≤ l.length := by unfold firstD; rw [List.length_reverse]; exact List.length_filter_le _ _
theorem restD_le (l : List De) : (restD l).length ≤ l.length := List.length_filter_le _ _

set_option maxRecDepth 100000 in
set_option maxHeartbeats 3200000 in
theorem turns_many (s : ByteArray) (ga : Option Addr) (n gc : Nat) (w : World) (h : 30 < n) : Calls Tryd.prog 3 #[.string s, .slice ga n gc] w fun e w' => e = .returned (.bool true) ∧ Below w.heap.size w w' := by
  have hi : (30 : Int) < (n : Int) := by omega
  go_enter Tryd.func3, Tryd.ntmps3
  go_wp2_with fail
  go_ret
  exact ⟨rfl, Below.refl _ _⟩

set_option maxRecDepth 100000 in
set_option maxHeartbeats 12800000 in
theorem turns_at (s : ByteArray) (ga : Option Addr) (gc : Nat) (A : Nat → Option Addr) (C : Nat → Nat) (gs : List (List Int)) (w : World) (h30 : ¬ 30 < gs.length) (hgr : GridI w ga A C gs) (hv : Vars w) (h14 : 5 ≤ w.heap.size) :
    Calls Tryd.prog 3 #[.string s, .slice ga gs.length gc] w fun e w' => e = .returned (.bool true) ∧ Below w.heap.size w w' := by
  have hi : ¬ (30 : Int) < (gs.length : Int) := by omega
  have HV := hide hv
  have HGR := hide hgr
  have HTM := hide (timed_at w hv h14)
  clear hv hgr
  go_enter Tryd.func3, Tryd.ntmps3
  go_wp2_with fail
  refine HTM.out.mono ?_
  rintro e w1 ⟨rfl, hb1⟩
  have HB1 := hide hb1
  have HV1 := hide (HV.out.below hb1)
  have H141 := hide (Nat.le_trans h14 hb1.size)
  have HRI : Hid (Calls Tryd.prog 5 #[.string s] w1 (Rightd w1 s)) := by
    by_cases hbig : 1200 < s.size
    · exact right_big s w1 hbig
    · exact right_at s w1 (by omega) HV1.out H141.out fun p k hp => by
        obtain ⟨hg, hkl⟩ := parse_inv (by omega) hp
        have hk : (stsK p.2).length ≤ 1000000 := by
          have : (stsK p.2).length ≤ (printK p).length := by simp only [printK, List.length_append]; omega
          omega
        have h2 := qstsK_ge p.2
        exact ⟨hg.many, hg.deep, by omega, sm_sts p.2 hk⟩
  clear hb1 HTM
  go_wp2_with fail
  refine HRI.out.mono ?_
  rintro e w2 ⟨hb2, hcase⟩
  rcases hcase with ⟨hs12, p, k, v, hpar, hchk, rfl, hrep⟩ | ⟨a, b, m, n, i, j, rfl⟩
  · have hfine := fine_of (by omega) hpar hchk
    obtain ⟨aa, ac, ba, bc, rfl, hd, hs⟩ := prRep_2 hrep
    obtain ⟨ds, body⟩ := p
    simp only at hd hs
    have HF := hide hfine
    have HB2 := hide (Below.step HB1.out hb2)
    have HO := hide (below_alloc w2 (.cells #[.slice aa ds.length ac, .slice ba body.length bc] 27))
    have HN := hide (blk_new w2 (.cells #[.slice aa ds.length ac, .slice ba body.length bc] 27))
    have HD3 : Hid (IsDes (fun c => c < w2.heap.size) (w2.alloc (.cells #[.slice aa ds.length ac, .slice ba body.length bc] 27)) ds (.slice aa ds.length ac)) := IsRow.same (IsRow.imp (S' := fun c => c < w2.heap.size) hd fun b h1 _ => h1) fun c _ h2 => HO.out.block c h2
    have HS3 : Hid (IsSts (fun c => c < w2.heap.size) (w2.alloc (.cells #[.slice aa ds.length ac, .slice ba body.length bc] 27)) body (.slice ba body.length bc)) := (hs.imp (S' := fun c => c < w2.heap.size) fun b h1 _ => h1).same fun c _ h2 => HO.out.block c h2
    have HTU := hide (turned_all 8 body hfine.deep hfine.sm (fun c => c < w2.heap.size) (w2.alloc (.cells #[.slice aa ds.length ac, .slice ba body.length bc] 27)) (.slice ba body.length bc) HS3.out (fun c h => Nat.lt_of_lt_of_le h HO.out.size) hfine.size)
    clear hb2 hd hs hrep hfine hpar hchk hs12 HRI HV1 H141
    go_wp2_with fail
    generalize (w2.alloc (.cells #[.slice aa ds.length ac, .slice ba body.length bc] 27)) = w3 at *
    refine HTU.out.mono ?_
    rintro e w4 ⟨ta, tc, rfl, hts, hb4⟩
    have HB4 := hide (Below.step HO.out hb4)
    have HN4 := hide (Below.blk hb4 HN.out)
    have HTL := hide hts
    have HD4 : Hid (IsDes (fun c => c < w2.heap.size) w4 ds (.slice aa ds.length ac)) := IsRow.same HD3.out fun c _ h2 => hb4.block c h2
    have HS4 : Hid (IsSts (fun c => c < w2.heap.size) w4 body (.slice ba body.length bc)) := HS3.out.same fun c _ h2 => hb4.block c h2
    clear hb4 hts HD3 HS3 HTU HO HN
    have HO5 := hide (below_alloc w4 (.cells #[.slice none 0 0, .slice ta body.length tc] 27))
    have HQ5 : Hid (QAt (w4.alloc (.cells #[.slice none 0 0, .slice ta body.length tc] 27)) w4.heap.size (.slice ta body.length tc) (firstD (ds.drop ds.length)) none 0) := by
      show QAt _ _ _ _ _ _
      rw [List.drop_length]
      exact ⟨blk_new w4 _, Mine.none _⟩
    have HN5 := hide (Below.blk HO5.out HN4.out)
    have n0 : (w4.alloc (.cells #[.slice none 0 0, .slice ta body.length tc] 27)).cell? ⟨w2.heap.size, 0, none⟩ = some (.slice aa ds.length ac) := by rw [blk_cell HN5.out]; rfl
    have HT7 : Hid (w2.heap.size < w4.heap.size) := blk_lt HN4.out
    have hmany : ds.length ≤ 20 := HF.out.many
    go_wp2_with fail
    clear n0
    generalize (w4.alloc (.cells #[.slice none 0 0, .slice ta body.length tc] 27)) = w5 at *
    go_loopw [8] (fun i wr => ∃ (n : Nat) (z : Int) (qa : Option Addr) (qc : Nat), n ≤ ds.length ∧ i = .int .i64 z ∧ Hid (z = (n : Int) - 1) ∧ Hid (QAt wr w4.heap.size (.slice ta body.length tc) (firstD (ds.drop n)) qa qc) ∧ Hid (Below w4.heap.size w4 wr)) (fun i _ => (intOf i + 1).toNat)
    case atStart => exact ⟨ds.length, _, none, 0, Nat.le_refl _, rfl, hide (by go_num), HQ5, HO5⟩
    case round =>
      obtain ⟨n, z, qa, qc, hn, rfl, hz, hq, hbw⟩ := hrel
      cases n with
      | succ m =>
        obtain rfl : z = (m : Int) := by have := hz.out; omega
        have hml : m < ds.length := by omega
        clear hz
        have HNW := hide (hbw.out.block _ HT7.out |>.trans HN4.out)
        have p0 : wr.cell? ⟨w2.heap.size, 0, none⟩ = some (.slice aa ds.length ac) := by rw [blk_cell HNW.out]; rfl
        have HDW : Hid (IsDes (fun c => c < w2.heap.size) wr ds (.slice aa ds.length ac)) := IsRow.same HD4.out fun c h1 h2 => hbw.out.block c (Nat.lt_trans h1 HT7.out)
        obtain ⟨g, cap', hv, hSg⟩ := de_addr HDW.out (by omega)
        obtain ⟨rfl, rfl⟩ : aa = some ⟨g, 0, none⟩ ∧ ac = cap' := by cases hv; exact ⟨rfl, rfl⟩
        clear hv
        have HCD : Hid (∀ W, Below w4.heap.size w4 W → W.cell? ⟨w2.heap.size, 0, none⟩ = some (.slice (some ⟨g, 0, none⟩) ds.length ac) ∧ W.cell? ⟨g, m * 4, none⟩ = some (.string ds[m].name) ∧ W.cell? ⟨g, m * 4 + 1, none⟩ = some (.int .i64 (ds[m].way : Int)) ∧ W.cell? ⟨g, m * 4 + 2, none⟩ = some (.int .i64 (ds[m].ty : Int)) ∧ W.cell? ⟨g, m * 4 + 3, none⟩ = some (.int .i64 (ds[m].init : Int))) := fun W hW => by
          have hd := IsRow.same HD4.out (w' := W) fun c h1 h2 => hW.block c (Nat.lt_trans h1 HT7.out)
          exact ⟨by rw [blk_cell ((hW.block _ HT7.out).trans HN4.out)]; rfl, de_cell hd rfl hml (k := 0) rfl (by decide), de_cell hd rfl hml (k := 1) rfl (by decide), de_cell hd rfl hml (k := 2) rfl (by decide), de_cell hd rfl hml (k := 3) rfl (by decide)⟩
        have p1 := (HCD.out wr hbw.out).2.2.1
        have HL1 : Hid ((firstD (ds.drop (m + 1))).length ≤ 1000) := by
          show _ ≤ _
          have := firstD_le (ds.drop (m + 1)); rw [List.length_drop] at this; omega
        by_cases hw3 : ds[m].way = 3
        · have hwi : (ds[m].way : Int) = 3 := by omega
          have hwb : ((ds[m].way : Int) == 3) = true := by simp [hwi]
          have HLN : Hid (firstD (ds.drop m) = (firstD (ds.drop (m + 1))) ++ [ds[m]]) := by
            show _ = _
            exact firstD_yes ds m hml hw3
          have HADD := hide (hq.out.drewQ.add ds[m] HL1.out)
          generalize (firstD (ds.drop (m + 1))) = Lo at *
          obtain ⟨qa', qc', y3, happ, hT3, hq3, hb4', hb3⟩ := HADD.out
          have HT3 := hide hT3
          have HQ3 := hide hq3
          have HB43 := hide hb4'
          have HB33 := hide hb3
          clear HADD hT3 hq3 hb4' hb3
          go_wp2_with fail
          clear p0 p1 hwi hwb hw3
          have HBD : Hid (Below w4.heap.size w4 wr.drew) := hbw.out.drew
          have HTD : Hid (wr.drew.heap[w4.heap.size]? = some (.cells #[.slice qa Lo.length qc, .slice ta body.length tc] 27 (0, 0))) := hq.out.1
          have HDSZ : Hid (wr.drew.heap.size = wr.heap.size) := rfl
          refine wp_region_held_drew (S := fun W => W.cell? ⟨w2.heap.size, 0, none⟩ = some (.slice (some ⟨g, 0, none⟩) ds.length ac) ∧ W.cell? ⟨g, m * 4, none⟩ = some (.string ds[m].name) ∧ W.cell? ⟨g, m * 4 + 1, none⟩ = some (.int .i64 (ds[m].way : Int)) ∧ W.cell? ⟨g, m * 4 + 2, none⟩ = some (.int .i64 (ds[m].ty : Int)) ∧ W.cell? ⟨g, m * 4 + 3, none⟩ = some (.int .i64 (ds[m].init : Int))) (by kernel_rfl) (HCD.out _ HBD.out) (fun _ => ?_)
          generalize wr.drew = y0 at *
          refine wpAnyH_take (i := 0) (oi := ⟨some 46, _, _, _, _, _⟩) (v := (.pointer (some ⟨w4.heap.size, 0, none⟩))) rfl (by kernel_rfl) (by kernel_rfl) (by kernel_rfl) (fun _ _ _ h => h) (Or.inl ⟨by rfl, fun W hS => by (obtain ⟨s0, s1, s2, s3, s4⟩ := hS; go_simp)⟩) (HCD.out _ HBD.out) ?_
          simp only [Act.put, List.setIfInBounds_toArray, List.set_cons_zero, List.set_cons_succ]
          refine wpAnyH_take (i := 2) (oi := ⟨some 48, _, _, _, _, _⟩) (v := (.pointer (some ⟨w2.heap.size, 0, none⟩))) rfl (by kernel_rfl) (by kernel_rfl) (by kernel_rfl) (fun _ _ _ h => h) (Or.inl ⟨by rfl, fun W hS => by (obtain ⟨s0, s1, s2, s3, s4⟩ := hS; go_simp)⟩) (HCD.out _ HBD.out) ?_
          simp only [Act.put, List.setIfInBounds_toArray, List.set_cons_zero, List.set_cons_succ]
          refine wpAnyH_take (i := 4) (oi := ⟨some 50, _, _, _, _, _⟩) (v := (.int .i64 (m : Int))) rfl (by kernel_rfl) (by kernel_rfl) (by kernel_rfl) (fun _ _ _ h => h) (Or.inl ⟨by rfl, fun W hS => by (obtain ⟨s0, s1, s2, s3, s4⟩ := hS; go_simp)⟩) (HCD.out _ HBD.out) ?_
          simp only [Act.put, List.setIfInBounds_toArray, List.set_cons_zero, List.set_cons_succ]
          refine wpAnyH_take (i := 3) (oi := ⟨some 49, _, _, _, _, _⟩) (v := (.slice (some ⟨g, 0, none⟩) ds.length ac)) rfl (by kernel_rfl) (by kernel_rfl) (by kernel_rfl) (fun _ _ _ h => h) (Or.inl ⟨by rfl, fun W hS => by (obtain ⟨s0, s1, s2, s3, s4⟩ := hS; go_simp)⟩) (HCD.out _ HBD.out) ?_
          simp only [Act.put, List.setIfInBounds_toArray, List.set_cons_zero, List.set_cons_succ]
          refine wpAnyH_take (i := 5) (oi := ⟨some 51, _, _, _, _, _⟩) (v := (.pointer (some ⟨g, m * 4, none⟩))) rfl (by kernel_rfl) (by kernel_rfl) (by kernel_rfl) (fun _ _ _ h => h) (Or.inl ⟨by rfl, fun W hS => by (obtain ⟨s0, s1, s2, s3, s4⟩ := hS; go_simp)⟩) (HCD.out _ HBD.out) ?_
          simp only [Act.put, List.setIfInBounds_toArray, List.set_cons_zero, List.set_cons_succ]
          refine wpAnyH_take (i := 6) (oi := ⟨some 52, _, _, _, _, _⟩) (v := (.agg #[.string ds[m].name, .int .i64 (ds[m].way : Int), .int .i64 (ds[m].ty : Int), .int .i64 (ds[m].init : Int)])) rfl (by kernel_rfl) (by kernel_rfl) (by kernel_rfl) (fun _ _ _ h => h) (Or.inl ⟨by rfl, fun W hS => by (obtain ⟨s0, s1, s2, s3, s4⟩ := hS; go_simp)⟩) (HCD.out _ HBD.out) ?_
          simp only [Act.put, List.setIfInBounds_toArray, List.set_cons_zero, List.set_cons_succ]
          refine wpAnyH_ready (rs := [1, 7]) (by kernel_rfl) (by simp) ?_
          refine AllReadyH.cons rfl (fun K hK => ?_) (AllReadyH.cons rfl (fun K hK => ?_) AllReadyH.nil)
          · have q0 : y0.cell? ⟨w4.heap.size, 0, none⟩ = some (.slice qa Lo.length qc) := by rw [blk_cell HTD.out]; rfl
            go_simp
            refine hK.out _ _ (HCD.out _ HBD.out) (fun _ => ?_)
            clear hK K q0
            refine wpAnyH_ready (rs := [7]) (by kernel_rfl) (by simp) ?_
            refine AllReadyH.cons rfl (fun K hK => ?_) AllReadyH.nil
            go_simp
            have HBA : Hid (Below w4.heap.size w4 (y0.alloc (.cells #[.string ds[m].name, .int .i64 (ds[m].way : Int), .int .i64 (ds[m].ty : Int), .int .i64 (ds[m].init : Int)] 32))) := Below.trans HBD.out ((below_alloc y0 _).mono HBD.out.size)
            refine hK.out _ _ (HCD.out _ HBA.out) (fun _ => ?_)
            clear hK K
            refine wpAnyH_ready (rs := [8]) (by kernel_rfl) (by simp) ?_
            refine AllReadyH.cons rfl (fun K hK => ?_) AllReadyH.nil
            have HBY : Hid (Below w4.heap.size w4 y3) := Below.trans HBD.out HB33.out
            refine wp_append_run2 happ _ _ rfl rfl rfl ?_
            simp only [Act.put, List.setIfInBounds_toArray, List.set_cons_zero, List.set_cons_succ, List.getElem_toArray, List.getElem_cons_succ, List.getElem_cons_zero]
            refine hK.out _ _ (HCD.out _ HBY.out) (fun _ => ?_)
            clear hK K
            refine wpAnyH_take (i := 9) (oi := ⟨some 55, _, _, _, _, _⟩) (v := (.pointer (some ⟨w4.heap.size, 0, none⟩))) rfl (by kernel_rfl) (by kernel_rfl) (by kernel_rfl) (fun _ _ _ h => h) (Or.inl ⟨by rfl, fun W hS => by (obtain ⟨s0, s1, s2, s3, s4⟩ := hS; go_simp)⟩) (HCD.out _ HBY.out) ?_
            simp only [Act.put, List.setIfInBounds_toArray, List.set_cons_zero, List.set_cons_succ]
            refine wpAnyH_ready (rs := [10]) (by kernel_rfl) (by simp) ?_
            refine AllReadyH.cons rfl (fun K hK => ?_) AllReadyH.nil
            have z0 := blk_frozen HT3.out 0
            have z1 : y3.cell? ⟨w4.heap.size, 0, none⟩ = some (.slice qa Lo.length qc) := by rw [blk_cell HT3.out]; rfl
            go_simp
            have HB4 : Hid (Below w4.heap.size w4 (y3.setCell ⟨w4.heap.size, 0, none⟩ (.slice qa' (Lo.length + 1) qc'))) := Below.trans HBD.out HB43.out
            refine hK.out _ _ (HCD.out _ HB4.out) (fun _ => ?_)
            clear hK K z0 z1
            refine wpAnyH_done (by kernel_rfl) ?_ _
            generalize y3.setCell ⟨w4.heap.size, 0, none⟩ (.slice qa' (Lo.length + 1) qc') = y4 at *
            go_wp2_with fail
            exact ⟨⟨m, _, qa', qc', by omega, rfl, hide (by go_num), hide (HLN.out ▸ HQ3.out), HB4⟩, by simp [intOf] <;> omega⟩
          · go_simp
            have HBA : Hid (Below w4.heap.size w4 (y0.alloc (.cells #[.string ds[m].name, .int .i64 (ds[m].way : Int), .int .i64 (ds[m].ty : Int), .int .i64 (ds[m].init : Int)] 32))) := Below.trans HBD.out ((below_alloc y0 _).mono HBD.out.size)
            refine hK.out _ _ (HCD.out _ HBA.out) (fun _ => ?_)
            clear hK K
            refine wpAnyH_ready (rs := [1]) (by kernel_rfl) (by simp) ?_
            refine AllReadyH.cons rfl (fun K hK => ?_) AllReadyH.nil
            have q0 : (y0.alloc (.cells #[.string ds[m].name, .int .i64 (ds[m].way : Int), .int .i64 (ds[m].ty : Int), .int .i64 (ds[m].init : Int)] 32)).cell? ⟨w4.heap.size, 0, none⟩ = some (.slice qa Lo.length qc) := by rw [blk_cell (Below.blk (below_alloc y0 _) HTD.out)]; rfl
            go_simp
            refine hK.out _ _ (HCD.out _ HBA.out) (fun _ => ?_)
            clear hK K q0
            refine wpAnyH_ready (rs := [8]) (by kernel_rfl) (by simp) ?_
            refine AllReadyH.cons rfl (fun K hK => ?_) AllReadyH.nil
            have HBY : Hid (Below w4.heap.size w4 y3) := Below.trans HBD.out HB33.out
            refine wp_append_run2 happ _ _ rfl rfl rfl ?_
            simp only [Act.put, List.setIfInBounds_toArray, List.set_cons_zero, List.set_cons_succ, List.getElem_toArray, List.getElem_cons_succ, List.getElem_cons_zero]
            refine hK.out _ _ (HCD.out _ HBY.out) (fun _ => ?_)
            clear hK K
            refine wpAnyH_take (i := 9) (oi := ⟨some 55, _, _, _, _, _⟩) (v := (.pointer (some ⟨w4.heap.size, 0, none⟩))) rfl (by kernel_rfl) (by kernel_rfl) (by kernel_rfl) (fun _ _ _ h => h) (Or.inl ⟨by rfl, fun W hS => by (obtain ⟨s0, s1, s2, s3, s4⟩ := hS; go_simp)⟩) (HCD.out _ HBY.out) ?_
            simp only [Act.put, List.setIfInBounds_toArray, List.set_cons_zero, List.set_cons_succ]
            refine wpAnyH_ready (rs := [10]) (by kernel_rfl) (by simp) ?_
            refine AllReadyH.cons rfl (fun K hK => ?_) AllReadyH.nil
            have z0 := blk_frozen HT3.out 0
            have z1 : y3.cell? ⟨w4.heap.size, 0, none⟩ = some (.slice qa Lo.length qc) := by rw [blk_cell HT3.out]; rfl
            go_simp
            have HB4 : Hid (Below w4.heap.size w4 (y3.setCell ⟨w4.heap.size, 0, none⟩ (.slice qa' (Lo.length + 1) qc'))) := Below.trans HBD.out HB43.out
            refine hK.out _ _ (HCD.out _ HB4.out) (fun _ => ?_)
            clear hK K z0 z1
            refine wpAnyH_done (by kernel_rfl) ?_ _
            generalize y3.setCell ⟨w4.heap.size, 0, none⟩ (.slice qa' (Lo.length + 1) qc') = y4 at *
            go_wp2_with fail
            exact ⟨⟨m, _, qa', qc', by omega, rfl, hide (by go_num), hide (HLN.out ▸ HQ3.out), HB4⟩, by simp [intOf] <;> omega⟩
        · have hwi : ¬ (ds[m].way : Int) = 3 := by omega
          have hwb : ((ds[m].way : Int) == 3) = false := by simp [hwi]
          go_wp2_with fail
          exact ⟨⟨m, _, qa, qc, by omega, rfl, hide (by go_num), hide (by rw [firstD_no ds m hml hw3]; exact hq.out), hbw⟩, by simp [intOf] <;> omega⟩
      | zero =>
        obtain rfl : z = -1 := by have := hz.out; omega
        have HQ6 : Hid (QAt wr w4.heap.size (.slice ta body.length tc) (firstD ds ++ restD (ds.take 0)) qa qc) := by
          have := hq.out
          rw [List.drop_zero] at this
          show QAt _ _ _ _ _ _
          simpa [restD] using this
        have HB6 := hbw
        clear hz hq hbw
        go_wp2_with fail
        generalize wr = w6 at *
        go_loopw [9] (fun i wr => ∃ (n : Nat) (z : Int) (qa : Option Addr) (qc : Nat), n ≤ ds.length ∧ i = .int .i64 z ∧ Hid (z = (n : Int)) ∧ Hid (QAt wr w4.heap.size (.slice ta body.length tc) (firstD ds ++ restD (ds.take n)) qa qc) ∧ Hid (Below w4.heap.size w4 wr)) (fun i _ => ds.length - (intOf i).toNat)
        case atStart => exact ⟨0, 0, qa, qc, Nat.zero_le _, rfl, hide rfl, HQ6, HB6⟩
        case round =>
          obtain ⟨n, z, qa, qc, hn, rfl, hz, hq, hbw⟩ := hrel
          obtain rfl : z = (n : Int) := hz.out
          by_cases hml : n < ds.length
          · have hmi : (n : Int) < (ds.length : Int) := by omega
            clear hz
            have HNW := hide (hbw.out.block _ HT7.out |>.trans HN4.out)
            have p0 : wr.cell? ⟨w2.heap.size, 0, none⟩ = some (.slice aa ds.length ac) := by rw [blk_cell HNW.out]; rfl
            have HDW : Hid (IsDes (fun c => c < w2.heap.size) wr ds (.slice aa ds.length ac)) := IsRow.same HD4.out fun c h1 h2 => hbw.out.block c (Nat.lt_trans h1 HT7.out)
            obtain ⟨g, cap', hv, hSg⟩ := de_addr HDW.out (by omega)
            obtain ⟨rfl, rfl⟩ : aa = some ⟨g, 0, none⟩ ∧ ac = cap' := by cases hv; exact ⟨rfl, rfl⟩
            clear hv
            have HCD : Hid (∀ W, Below w4.heap.size w4 W → W.cell? ⟨w2.heap.size, 0, none⟩ = some (.slice (some ⟨g, 0, none⟩) ds.length ac) ∧ W.cell? ⟨g, n * 4, none⟩ = some (.string ds[n].name) ∧ W.cell? ⟨g, n * 4 + 1, none⟩ = some (.int .i64 (ds[n].way : Int)) ∧ W.cell? ⟨g, n * 4 + 2, none⟩ = some (.int .i64 (ds[n].ty : Int)) ∧ W.cell? ⟨g, n * 4 + 3, none⟩ = some (.int .i64 (ds[n].init : Int))) := fun W hW => by
              have hd := IsRow.same HD4.out (w' := W) fun c h1 h2 => hW.block c (Nat.lt_trans h1 HT7.out)
              exact ⟨by rw [blk_cell ((hW.block _ HT7.out).trans HN4.out)]; rfl, de_cell hd rfl hml (k := 0) rfl (by decide), de_cell hd rfl hml (k := 1) rfl (by decide), de_cell hd rfl hml (k := 2) rfl (by decide), de_cell hd rfl hml (k := 3) rfl (by decide)⟩
            have p1 := (HCD.out wr hbw.out).2.2.1
            have HL1 : Hid ((firstD ds ++ restD (ds.take n)).length ≤ 1000) := by
              show _ ≤ _
              have h1 := firstD_le ds; have h2 := restD_le (ds.take n); rw [List.length_take] at h2; rw [List.length_append]; omega
            by_cases hw3 : ds[n].way = 3
            · have hwi : (ds[n].way : Int) = 3 := by omega
              have hwb : ((ds[n].way : Int) == 3) = true := by simp [hwi]
              go_wp2_with fail
              exact ⟨⟨n + 1, _, qa, qc, by omega, rfl, hide (by go_num), hide (by rw [restD_no ds n hml hw3]; exact hq.out), hbw⟩, by simp [intOf] <;> omega⟩
            · have hwi : ¬ (ds[n].way : Int) = 3 := by omega
              have hwb : ((ds[n].way : Int) == 3) = false := by simp [hwi]
              have HLN : Hid (firstD ds ++ restD (ds.take (n + 1)) = (firstD ds ++ restD (ds.take n)) ++ [ds[n]]) := by
                show _ = _
                rw [restD_yes ds n hml hw3, List.append_assoc]
              have HADD := hide (hq.out.drewQ.add ds[n] HL1.out)
              generalize (firstD ds ++ restD (ds.take n)) = Lo at *
              obtain ⟨qa', qc', y3, happ, hT3, hq3, hb4', hb3⟩ := HADD.out
              have HT3 := hide hT3
              have HQ3 := hide hq3
              have HB43 := hide hb4'
              have HB33 := hide hb3
              clear HADD hT3 hq3 hb4' hb3
              go_wp2_with fail
              clear p0 p1 hwi hwb hw3
              have HBD : Hid (Below w4.heap.size w4 wr.drew) := hbw.out.drew
              have HTD : Hid (wr.drew.heap[w4.heap.size]? = some (.cells #[.slice qa Lo.length qc, .slice ta body.length tc] 27 (0, 0))) := hq.out.1
              have HDSZ : Hid (wr.drew.heap.size = wr.heap.size) := rfl
              refine wp_region_held_drew (S := fun W => W.cell? ⟨w2.heap.size, 0, none⟩ = some (.slice (some ⟨g, 0, none⟩) ds.length ac) ∧ W.cell? ⟨g, n * 4, none⟩ = some (.string ds[n].name) ∧ W.cell? ⟨g, n * 4 + 1, none⟩ = some (.int .i64 (ds[n].way : Int)) ∧ W.cell? ⟨g, n * 4 + 2, none⟩ = some (.int .i64 (ds[n].ty : Int)) ∧ W.cell? ⟨g, n * 4 + 3, none⟩ = some (.int .i64 (ds[n].init : Int))) (by kernel_rfl) (HCD.out _ HBD.out) (fun _ => ?_)
              generalize wr.drew = y0 at *
              refine wpAnyH_take (i := 0) (oi := ⟨some 70, _, _, _, _, _⟩) (v := (.pointer (some ⟨w4.heap.size, 0, none⟩))) rfl (by kernel_rfl) (by kernel_rfl) (by kernel_rfl) (fun _ _ _ h => h) (Or.inl ⟨by rfl, fun W hS => by (obtain ⟨s0, s1, s2, s3, s4⟩ := hS; go_simp)⟩) (HCD.out _ HBD.out) ?_
              simp only [Act.put, List.setIfInBounds_toArray, List.set_cons_zero, List.set_cons_succ]
              refine wpAnyH_take (i := 2) (oi := ⟨some 72, _, _, _, _, _⟩) (v := (.pointer (some ⟨w2.heap.size, 0, none⟩))) rfl (by kernel_rfl) (by kernel_rfl) (by kernel_rfl) (fun _ _ _ h => h) (Or.inl ⟨by rfl, fun W hS => by (obtain ⟨s0, s1, s2, s3, s4⟩ := hS; go_simp)⟩) (HCD.out _ HBD.out) ?_
              simp only [Act.put, List.setIfInBounds_toArray, List.set_cons_zero, List.set_cons_succ]
              refine wpAnyH_take (i := 4) (oi := ⟨some 74, _, _, _, _, _⟩) (v := (.int .i64 (n : Int))) rfl (by kernel_rfl) (by kernel_rfl) (by kernel_rfl) (fun _ _ _ h => h) (Or.inl ⟨by rfl, fun W hS => by (obtain ⟨s0, s1, s2, s3, s4⟩ := hS; go_simp)⟩) (HCD.out _ HBD.out) ?_
              simp only [Act.put, List.setIfInBounds_toArray, List.set_cons_zero, List.set_cons_succ]
              refine wpAnyH_take (i := 3) (oi := ⟨some 73, _, _, _, _, _⟩) (v := (.slice (some ⟨g, 0, none⟩) ds.length ac)) rfl (by kernel_rfl) (by kernel_rfl) (by kernel_rfl) (fun _ _ _ h => h) (Or.inl ⟨by rfl, fun W hS => by (obtain ⟨s0, s1, s2, s3, s4⟩ := hS; go_simp)⟩) (HCD.out _ HBD.out) ?_
              simp only [Act.put, List.setIfInBounds_toArray, List.set_cons_zero, List.set_cons_succ]
              refine wpAnyH_take (i := 5) (oi := ⟨some 75, _, _, _, _, _⟩) (v := (.pointer (some ⟨g, n * 4, none⟩))) rfl (by kernel_rfl) (by kernel_rfl) (by kernel_rfl) (fun _ _ _ h => h) (Or.inl ⟨by rfl, fun W hS => by (obtain ⟨s0, s1, s2, s3, s4⟩ := hS; go_simp)⟩) (HCD.out _ HBD.out) ?_
              simp only [Act.put, List.setIfInBounds_toArray, List.set_cons_zero, List.set_cons_succ]
              refine wpAnyH_take (i := 6) (oi := ⟨some 76, _, _, _, _, _⟩) (v := (.agg #[.string ds[n].name, .int .i64 (ds[n].way : Int), .int .i64 (ds[n].ty : Int), .int .i64 (ds[n].init : Int)])) rfl (by kernel_rfl) (by kernel_rfl) (by kernel_rfl) (fun _ _ _ h => h) (Or.inl ⟨by rfl, fun W hS => by (obtain ⟨s0, s1, s2, s3, s4⟩ := hS; go_simp)⟩) (HCD.out _ HBD.out) ?_
              simp only [Act.put, List.setIfInBounds_toArray, List.set_cons_zero, List.set_cons_succ]
              refine wpAnyH_ready (rs := [1, 7]) (by kernel_rfl) (by simp) ?_
              refine AllReadyH.cons rfl (fun K hK => ?_) (AllReadyH.cons rfl (fun K hK => ?_) AllReadyH.nil)
              · have q0 : y0.cell? ⟨w4.heap.size, 0, none⟩ = some (.slice qa Lo.length qc) := by rw [blk_cell HTD.out]; rfl
                go_simp
                refine hK.out _ _ (HCD.out _ HBD.out) (fun _ => ?_)
                clear hK K q0
                refine wpAnyH_ready (rs := [7]) (by kernel_rfl) (by simp) ?_
                refine AllReadyH.cons rfl (fun K hK => ?_) AllReadyH.nil
                go_simp
                have HBA : Hid (Below w4.heap.size w4 (y0.alloc (.cells #[.string ds[n].name, .int .i64 (ds[n].way : Int), .int .i64 (ds[n].ty : Int), .int .i64 (ds[n].init : Int)] 32))) := Below.trans HBD.out ((below_alloc y0 _).mono HBD.out.size)
                refine hK.out _ _ (HCD.out _ HBA.out) (fun _ => ?_)
                clear hK K
                refine wpAnyH_ready (rs := [8]) (by kernel_rfl) (by simp) ?_
                refine AllReadyH.cons rfl (fun K hK => ?_) AllReadyH.nil
                have HBY : Hid (Below w4.heap.size w4 y3) := Below.trans HBD.out HB33.out
                refine wp_append_run2 happ _ _ rfl rfl rfl ?_
                simp only [Act.put, List.setIfInBounds_toArray, List.set_cons_zero, List.set_cons_succ, List.getElem_toArray, List.getElem_cons_succ, List.getElem_cons_zero]
                refine hK.out _ _ (HCD.out _ HBY.out) (fun _ => ?_)
                clear hK K
                refine wpAnyH_take (i := 9) (oi := ⟨some 79, _, _, _, _, _⟩) (v := (.pointer (some ⟨w4.heap.size, 0, none⟩))) rfl (by kernel_rfl) (by kernel_rfl) (by kernel_rfl) (fun _ _ _ h => h) (Or.inl ⟨by rfl, fun W hS => by (obtain ⟨s0, s1, s2, s3, s4⟩ := hS; go_simp)⟩) (HCD.out _ HBY.out) ?_
                simp only [Act.put, List.setIfInBounds_toArray, List.set_cons_zero, List.set_cons_succ]
                refine wpAnyH_ready (rs := [10]) (by kernel_rfl) (by simp) ?_
                refine AllReadyH.cons rfl (fun K hK => ?_) AllReadyH.nil
                have z0 := blk_frozen HT3.out 0
                have z1 : y3.cell? ⟨w4.heap.size, 0, none⟩ = some (.slice qa Lo.length qc) := by rw [blk_cell HT3.out]; rfl
                go_simp
                have HB4 : Hid (Below w4.heap.size w4 (y3.setCell ⟨w4.heap.size, 0, none⟩ (.slice qa' (Lo.length + 1) qc'))) := Below.trans HBD.out HB43.out
                refine hK.out _ _ (HCD.out _ HB4.out) (fun _ => ?_)
                clear hK K z0 z1
                refine wpAnyH_done (by kernel_rfl) ?_ _
                generalize y3.setCell ⟨w4.heap.size, 0, none⟩ (.slice qa' (Lo.length + 1) qc') = y4 at *
                go_wp2_with fail
                exact ⟨⟨n + 1, _, qa', qc', by omega, rfl, hide (by go_num), hide (HLN.out ▸ HQ3.out), HB4⟩, by simp [intOf] <;> omega⟩
              · go_simp
                have HBA : Hid (Below w4.heap.size w4 (y0.alloc (.cells #[.string ds[n].name, .int .i64 (ds[n].way : Int), .int .i64 (ds[n].ty : Int), .int .i64 (ds[n].init : Int)] 32))) := Below.trans HBD.out ((below_alloc y0 _).mono HBD.out.size)
                refine hK.out _ _ (HCD.out _ HBA.out) (fun _ => ?_)
                clear hK K
                refine wpAnyH_ready (rs := [1]) (by kernel_rfl) (by simp) ?_
                refine AllReadyH.cons rfl (fun K hK => ?_) AllReadyH.nil
                have q0 : (y0.alloc (.cells #[.string ds[n].name, .int .i64 (ds[n].way : Int), .int .i64 (ds[n].ty : Int), .int .i64 (ds[n].init : Int)] 32)).cell? ⟨w4.heap.size, 0, none⟩ = some (.slice qa Lo.length qc) := by rw [blk_cell (Below.blk (below_alloc y0 _) HTD.out)]; rfl
                go_simp
                refine hK.out _ _ (HCD.out _ HBA.out) (fun _ => ?_)
                clear hK K q0
                refine wpAnyH_ready (rs := [8]) (by kernel_rfl) (by simp) ?_
                refine AllReadyH.cons rfl (fun K hK => ?_) AllReadyH.nil
                have HBY : Hid (Below w4.heap.size w4 y3) := Below.trans HBD.out HB33.out
                refine wp_append_run2 happ _ _ rfl rfl rfl ?_
                simp only [Act.put, List.setIfInBounds_toArray, List.set_cons_zero, List.set_cons_succ, List.getElem_toArray, List.getElem_cons_succ, List.getElem_cons_zero]
                refine hK.out _ _ (HCD.out _ HBY.out) (fun _ => ?_)
                clear hK K
                refine wpAnyH_take (i := 9) (oi := ⟨some 79, _, _, _, _, _⟩) (v := (.pointer (some ⟨w4.heap.size, 0, none⟩))) rfl (by kernel_rfl) (by kernel_rfl) (by kernel_rfl) (fun _ _ _ h => h) (Or.inl ⟨by rfl, fun W hS => by (obtain ⟨s0, s1, s2, s3, s4⟩ := hS; go_simp)⟩) (HCD.out _ HBY.out) ?_
                simp only [Act.put, List.setIfInBounds_toArray, List.set_cons_zero, List.set_cons_succ]
                refine wpAnyH_ready (rs := [10]) (by kernel_rfl) (by simp) ?_
                refine AllReadyH.cons rfl (fun K hK => ?_) AllReadyH.nil
                have z0 := blk_frozen HT3.out 0
                have z1 : y3.cell? ⟨w4.heap.size, 0, none⟩ = some (.slice qa Lo.length qc) := by rw [blk_cell HT3.out]; rfl
                go_simp
                have HB4 : Hid (Below w4.heap.size w4 (y3.setCell ⟨w4.heap.size, 0, none⟩ (.slice qa' (Lo.length + 1) qc'))) := Below.trans HBD.out HB43.out
                refine hK.out _ _ (HCD.out _ HB4.out) (fun _ => ?_)
                clear hK K z0 z1
                refine wpAnyH_done (by kernel_rfl) ?_ _
                generalize y3.setCell ⟨w4.heap.size, 0, none⟩ (.slice qa' (Lo.length + 1) qc') = y4 at *
                go_wp2_with fail
                exact ⟨⟨n + 1, _, qa', qc', by omega, rfl, hide (by go_num), hide (HLN.out ▸ HQ3.out), HB4⟩, by simp [intOf] <;> omega⟩
          · obtain rfl : n = ds.length := by omega
            have hmi : ¬ (ds.length : Int) < (ds.length : Int) := by omega
            have HQ7 : Hid (QAt wr w4.heap.size (.slice ta body.length tc) (turnD ds) qa qc) := by
              have := hq.out
              rw [List.take_length] at this
              exact this
            have HB7 := hbw
            clear hz hq hbw HQ5 HQ6 HB6
            have HNW := hide (HB7.out.block _ HT7.out |>.trans HN4.out)
            have p0 : wr.cell? ⟨w2.heap.size, 0, none⟩ = some (.slice aa ds.length ac) := by rw [blk_cell HNW.out]; rfl
            have p1 : wr.cell? ⟨w2.heap.size, 1, none⟩ = some (.slice ba body.length bc) := by rw [blk_cell HNW.out]; rfl
            have HTN : Hid (Turned (ds, body)) := HF.out.turned
            have HZ7 : Hid (w4.heap.size < wr.heap.size) := blk_lt HQ7.out.1
            have HDX : Hid (IsDes (fun c => c < wr.heap.size) wr ds (.slice aa ds.length ac)) := (IsRow.same HD4.out fun c h1 h2 => HB7.out.block c (Nat.lt_trans h1 HT7.out)).imp fun b h1 _ => h1
            have HSX : Hid (IsSts (fun c => c < wr.heap.size) wr body (.slice ba body.length bc)) := (HS4.out.same fun c h1 h2 => HB7.out.block c (Nat.lt_trans h1 HT7.out)).imp fun b h1 _ => h1
            have HSY : Hid (IsSts (fun c => c < wr.heap.size) wr (turnL body) (.slice ta body.length tc)) := ((HTL.out.imp (S' := fun c => c < w4.heap.size) fun b h1 _ => h1).same fun c h1 h2 => HB7.out.block c h1).imp fun b h1 _ => h1
            have HDY : Hid (IsDes (fun c => c < wr.heap.size) wr (turnD ds) (.slice qa (turnD ds).length qc)) := (show IsRow (fun _ => True) wr 32 4 _ _ _ from ⟨HQ7.out.2.own, fun _ _ => trivial⟩).imp fun b h1 _ => h1
            have HNX := hide (new_at ds body (fun c => c < wr.heap.size) wr aa ba ac bc HDX.out HSX.out HF.out.many HF.out.deep HF.out.size HF.out.sm HF.out.ok)
            have HQ8 := hide HQ7.out.1
            clear HQ7
            rw [turnD_len] at HDY HQ8
            generalize wr = w6 at *
            go_wp2_with fail
            refine HNX.out.mono ?_
            rintro e w7 ⟨P1, V1, B1, rfl, hm1⟩
            have HM1 := hide hm1
            have HQ9 := hide (Below.blk hm1.below HQ8.out)
            have m0 : w7.cell? ⟨w4.heap.size, 0, none⟩ = some (.slice qa ds.length qc) := by rw [blk_cell HQ9.out]; rfl
            have m1 : w7.cell? ⟨w4.heap.size, 1, none⟩ = some (.slice ta body.length tc) := by rw [blk_cell HQ9.out]; rfl
            have HNY := hide (new_at (turnD ds) (turnL body) (fun c => c < w6.heap.size) w7 qa ta qc tc (by rw [turnD_len]; exact IsRow.same HDY.out fun c _ h2 => hm1.below.block c h2) (by rw [turnL_len]; exact HSY.out.same fun c _ h2 => hm1.below.block c h2) HTN.out.many HTN.out.deep HTN.out.size HTN.out.sm HTN.out.ok)
            rw [turnD_len, turnL_len] at HNY
            clear hm1 p0 p1 hmi
            go_wp2_with fail
            refine HNY.out.mono ?_
            rintro e w8 ⟨P2, V2, B2, rfl, hm2⟩
            have HM2 := hide hm2
            clear hm2 m0 m1
            have HVB : Hid (w6.heap.size ≤ V1 ∧ w6.heap.size ≤ B1 ∧ w6.heap.size ≤ P1 ∧ V1 < w7.heap.size ∧ B1 < w7.heap.size ∧ P1 < w7.heap.size ∧ w7.heap.size ≤ V2 ∧ w7.heap.size ≤ B2 ∧ w7.heap.size ≤ P2 ∧ V2 < w8.heap.size ∧ B2 < w8.heap.size ∧ P2 < w8.heap.size ∧ w.heap.size ≤ w6.heap.size) := by
              have h1 := HM1.out.vN; have h2 := HM1.out.bN; have h3 := HM1.out.pN; have h4 := HB2.out.size; have h5 := HT7.out; have h6 := HZ7.out
              have a1 := blk_lt (show w7.heap[V1]? = some _ from HM1.out.at_.vals); have a2 := blk_lt (show w7.heap[B1]? = some _ from HM1.out.at_.blks); have a3 := blk_lt HM1.out.at_.me
              have b1 := blk_lt (show w8.heap[V2]? = some _ from HM2.out.at_.vals); have b2 := blk_lt (show w8.heap[B2]? = some _ from HM2.out.at_.blks); have b3 := blk_lt HM2.out.at_.me
              have c1 := HM2.out.vN; have c2 := HM2.out.bN; have c3 := HM2.out.pN
              exact ⟨h1, h2, h3, a1, a2, a3, c1, c2, c3, b1, b2, b3, by omega⟩
            have HB68 : Hid (Below w6.heap.size w6 w8) := Below.step HM1.out.below HM2.out.below
            have HPX8 := hide (HM1.out.at_.of HM2.out.below)
            have HPY8 := hide HM2.out.at_
            have HBO : Hid (Both ds (newS ds ([], [])) (newS (turnD ds) ([], []))) := HF.out.both
            have HB06 : Hid (Below w.heap.size w w6) := Below.trans HB2.out ((HB4.out.trans (HB7.out.mono (Nat.le_of_lt HT7.out))).mono HB2.out.size)
            generalize newS ds ([], []) = q0 at *
            generalize newS (turnD ds) ([], []) = r0 at *
            clear HNX HNY HM1 HM2 HQ8 HQ9 HN4 HN5 HNW HTL HD4 HS4 HB4 HO5
            go_wp2_with fail
            go_loopw [14] (fun i wr => ∃ j : Nat, j ≤ gs.length ∧ i = .int .i64 j ∧ Hid (∃ q r : Vs × Ks, Plt wr P1 V1 B1 (.slice aa ds.length ac) (.slice ba body.length bc) q.1 q.2 ∧ Plt wr P2 V2 B2 (.slice qa ds.length qc) (.slice ta body.length tc) r.1 r.2 ∧ Both ds q r) ∧ Hid (Below w6.heap.size w6 wr) ∧ Hid (w8.heap.size ≤ wr.heap.size)) (fun i _ => gs.length - (intOf i).toNat)
            case atStart => exact ⟨0, Nat.zero_le _, rfl, hide ⟨q0, r0, HPX8.out, HPY8.out, HBO.out⟩, HB68, hide (Nat.le_refl _)⟩
            case round =>
              obtain ⟨j, hj, rfl, hq, hbw, hsz⟩ := hrel
              obtain ⟨q, r, hpx, hpy, hbo⟩ := hq.out
              have HPX := hide hpx
              have HPY := hide hpy
              have HBOQ := hide hbo
              clear hq hpx hpy hbo
              have HBW := hide (Below.trans HB06.out (hbw.out.mono HB06.out.size))
              by_cases hlt : j < gs.length
              · have hji : (j : Int) < (gs.length : Int) := by omega
                obtain ⟨⟨gb, go, rfl, hgc⟩, hlie, hgl, hgm⟩ := HGR.out j hlt
                have g0 : wr.cell? ⟨gb, go + j, none⟩ = some (.slice (A j) (rowI gs j).length (C j)) := (HBW.out.cell (cell_lt hgc)).trans hgc
                have HG0 : Hid (∀ W : World, Below w.heap.size w W → W.cell? ⟨gb, go + j, none⟩ = some (.slice (A j) (rowI gs j).length (C j))) := fun W hW => (hW.cell (cell_lt hgc)).trans hgc
                have HLG := hide (hlie.below HBW.out)
                have HLG0 := hide hlie
                clear hgc hlie
                generalize rowI gs j = g at *
                generalize A j = ao at *
                generalize C j = cp at *
                by_cases hg30 : 30 < g.length
                · have hgi : (30 : Int) < (g.length : Int) := by omega
                  go_wp2_with fail
                  go_ret
                  exact ⟨rfl, HBW.out⟩
                · have hgi : ¬ (30 : Int) < (g.length : Int) := by omega
                  have HSS : Hid (∀ c, c < w6.heap.size → c < wr.heap.size ∧ (c ≠ V1 ∧ c ≠ B1) ∧ (c ≠ V2 ∧ c ≠ B2)) := fun c hc => by
                    have h1 := HVB.out; have h2 := hbw.out.size
                    exact ⟨by omega, ⟨by omega, by omega⟩, ⟨by omega, by omega⟩⟩
                  have HBD : Hid (Below w6.heap.size w6 wr.drew) := hbw.out.drew
                  have HPXD : Hid (Plt wr.drew P1 V1 B1 (.slice aa ds.length ac) (.slice ba body.length bc) q.1 q.2) := HPX.out.of (below_drew wr)
                  have HPYD : Hid (Plt wr.drew P2 V2 B2 (.slice qa ds.length qc) (.slice ta body.length tc) r.1 r.2) := HPY.out.of (below_drew wr)
                  have HSZD : Hid (wr.drew.heap.size = wr.heap.size) := rfl
                  have HBWD : Hid (Below w.heap.size w wr.drew) := HBW.out.drew
                  obtain ⟨hbs1, hbs2⟩ := Both.step (p := (ds, body)) HF.out g HBOQ.out
                  have HBN := hide hbs1
                  have HEO := hide hbs2
                  have HOL := hide (outS_len (stepS (ds, body) g q).1 ds)
                  simp only at HBN HEO
                  clear hbs1 hbs2
                  go_wp2_with fail
                  clear g0
                  refine wp_region_held_drew (S := fun W => W.cell? ⟨gb, go + j, none⟩ = some (.slice ao g.length cp)) (by kernel_rfl) (HG0.out _ HBWD.out) (fun _ => ?_)
                  generalize wr.drew = x0 at *
                  refine wpAnyH_take (i := 0) (oi := ⟨some 116, _, _, _, _, _⟩) (v := (.pointer (some ⟨P1, 0, none⟩))) rfl (by kernel_rfl) (by kernel_rfl) (by kernel_rfl) (fun _ _ _ h => h) (Or.inl ⟨by rfl, fun W hS => by (have s0 := hS; go_simp)⟩) (HG0.out _ HBWD.out) ?_
                  simp only [Act.put, List.setIfInBounds_toArray, List.set_cons_zero, List.set_cons_succ]
                  refine wpAnyH_take (i := 1) (oi := ⟨some 117, _, _, _, _, _⟩) (v := (.slice (some ⟨gb, go, none⟩) gs.length gc)) rfl (by kernel_rfl) (by kernel_rfl) (by kernel_rfl) (fun _ _ _ h => h) (Or.inl ⟨by rfl, fun W hS => by (have s0 := hS; go_simp)⟩) (HG0.out _ HBWD.out) ?_
                  simp only [Act.put, List.setIfInBounds_toArray, List.set_cons_zero, List.set_cons_succ]
                  refine wpAnyH_take (i := 2) (oi := ⟨some 118, _, _, _, _, _⟩) (v := (.int .i64 (j : Int))) rfl (by kernel_rfl) (by kernel_rfl) (by kernel_rfl) (fun _ _ _ h => h) (Or.inl ⟨by rfl, fun W hS => by (have s0 := hS; go_simp)⟩) (HG0.out _ HBWD.out) ?_
                  simp only [Act.put, List.setIfInBounds_toArray, List.set_cons_zero, List.set_cons_succ]
                  refine wpAnyH_take (i := 6) (oi := ⟨some 122, _, _, _, _, _⟩) (v := (.pointer (some ⟨P2, 0, none⟩))) rfl (by kernel_rfl) (by kernel_rfl) (by kernel_rfl) (fun _ _ _ h => h) (Or.inl ⟨by rfl, fun W hS => by (have s0 := hS; go_simp)⟩) (HG0.out _ HBWD.out) ?_
                  simp only [Act.put, List.setIfInBounds_toArray, List.set_cons_zero, List.set_cons_succ]
                  refine wpAnyH_take (i := 7) (oi := ⟨some 123, _, _, _, _, _⟩) (v := (.slice (some ⟨gb, go, none⟩) gs.length gc)) rfl (by kernel_rfl) (by kernel_rfl) (by kernel_rfl) (fun _ _ _ h => h) (Or.inl ⟨by rfl, fun W hS => by (have s0 := hS; go_simp)⟩) (HG0.out _ HBWD.out) ?_
                  simp only [Act.put, List.setIfInBounds_toArray, List.set_cons_zero, List.set_cons_succ]
                  refine wpAnyH_take (i := 8) (oi := ⟨some 124, _, _, _, _, _⟩) (v := (.int .i64 (j : Int))) rfl (by kernel_rfl) (by kernel_rfl) (by kernel_rfl) (fun _ _ _ h => h) (Or.inl ⟨by rfl, fun W hS => by (have s0 := hS; go_simp)⟩) (HG0.out _ HBWD.out) ?_
                  simp only [Act.put, List.setIfInBounds_toArray, List.set_cons_zero, List.set_cons_succ]
                  refine wpAnyH_take (i := 3) (oi := ⟨some 119, _, _, _, _, _⟩) (v := (.pointer (some ⟨gb, go + j, none⟩))) rfl (by kernel_rfl) (by kernel_rfl) (by kernel_rfl) (fun _ _ _ h => h) (Or.inl ⟨by rfl, fun W hS => by (have s0 := hS; go_simp)⟩) (HG0.out _ HBWD.out) ?_
                  simp only [Act.put, List.setIfInBounds_toArray, List.set_cons_zero, List.set_cons_succ]
                  refine wpAnyH_take (i := 9) (oi := ⟨some 125, _, _, _, _, _⟩) (v := (.pointer (some ⟨gb, go + j, none⟩))) rfl (by kernel_rfl) (by kernel_rfl) (by kernel_rfl) (fun _ _ _ h => h) (Or.inl ⟨by rfl, fun W hS => by (have s0 := hS; go_simp)⟩) (HG0.out _ HBWD.out) ?_
                  simp only [Act.put, List.setIfInBounds_toArray, List.set_cons_zero, List.set_cons_succ]
                  refine wpAnyH_take (i := 4) (oi := ⟨some 120, _, _, _, _, _⟩) (v := (.slice ao g.length cp)) rfl (by kernel_rfl) (by kernel_rfl) (by kernel_rfl) (fun _ _ _ h => h) (Or.inl ⟨by rfl, fun W hS => by (have s0 := hS; go_simp)⟩) (HG0.out _ HBWD.out) ?_
                  simp only [Act.put, List.setIfInBounds_toArray, List.set_cons_zero, List.set_cons_succ]
                  refine wpAnyH_take (i := 10) (oi := ⟨some 126, _, _, _, _, _⟩) (v := (.slice ao g.length cp)) rfl (by kernel_rfl) (by kernel_rfl) (by kernel_rfl) (fun _ _ _ h => h) (Or.inl ⟨by rfl, fun W hS => by (have s0 := hS; go_simp)⟩) (HG0.out _ HBWD.out) ?_
                  simp only [Act.put, List.setIfInBounds_toArray, List.set_cons_zero, List.set_cons_succ]
                  have HSTX := hide (sstep_at ds body g (fun c => c < w6.heap.size) (fun c => c < w.heap.size) x0 P1 V1 B1 (.slice ao g.length cp) aa ba ac bc q.1 q.2 (kindK ds) HPXD.out
                    (IsRow.same HDX.out fun c h1 h2 => HBD.out.block c h2) (HSX.out.same fun c h1 h2 => HBD.out.block c h2) (fun c h => ⟨by rw [HSZD.out]; exact (HSS.out c h).1, (HSS.out c h).2.1⟩)
                    ⟨ao, cp, rfl, HLG0.out.below HBWD.out, hgl, hgm⟩ (fun c h => (HSS.out c (by have := HVB.out; omega)).2.1) HBOQ.out.2.2.1 HF.out.fit HF.out.qm HF.out.size (by omega))
                  refine wpAnyH_ready (rs := [5]) (by kernel_rfl) (by simp) ?_
                  refine AllReadyH.cons rfl (fun K hK => ?_) AllReadyH.nil
                  go_simp
                  refine HSTX.out.mono ?_
                  rintro e x4 ⟨⟨o4, k4, rfl, hl4⟩, hp4, hkm4⟩
                  have HL4 := hide hl4
                  have HP4 := hide hp4
                  have HK4 := hide hkm4
                  have HBX4 : Hid (Below w6.heap.size w6 x4) := HBD.out.trans (hkm4.below HBD.out.size (by have := HVB.out; omega) (by have := HVB.out; omega))
                  have HBW4 : Hid (Below w.heap.size w x4) := Below.trans HB06.out (HBX4.out.mono HB06.out.size)
                  have HPY4 := hide (HPYD.out.km hkm4 (by have := HVB.out; exact ⟨by omega, by omega⟩) (by have := HVB.out; exact ⟨by omega, by omega⟩) (by have := HVB.out; exact ⟨by omega, by omega⟩))
                  have HSTY := hide (sstep_at (turnD ds) (turnL body) g (fun c => c < w6.heap.size) (fun c => c < w.heap.size) x4 P2 V2 B2 (.slice ao g.length cp) qa ta qc tc r.1 r.2 (kindK ds) (by rw [turnD_len, turnL_len]; exact HPY4.out)
                    (by rw [turnD_len]; exact IsRow.same HDY.out fun c h1 h2 => HBX4.out.block c h2) (by rw [turnL_len]; exact HSY.out.same fun c h1 h2 => HBX4.out.block c h2) (fun c h => ⟨Nat.lt_of_lt_of_le (HSS.out c h).1 (by have := hkm4.size; have := HSZD.out; omega), (HSS.out c h).2.2⟩)
                    ⟨ao, cp, rfl, HLG0.out.below HBW4.out, hgl, hgm⟩ (fun c h => (HSS.out c (by have := HVB.out; omega)).2.2) HBOQ.out.2.2.2 HTN.out.fit HTN.out.qm HTN.out.size (by rw [turnD_len]; omega))
                  rw [turnD_len, turnL_len, ← HEO.out] at HSTY
                  clear hl4 hp4 hkm4
                  refine hK.out _ _ (HG0.out _ HBW4.out) (fun _ => ?_)
                  clear hK K
                  refine wpAnyH_ready (rs := [11]) (by kernel_rfl) (by simp) ?_
                  refine AllReadyH.cons rfl (fun K hK => ?_) AllReadyH.nil
                  go_simp
                  refine HSTY.out.mono ?_
                  rintro e x5 ⟨⟨o5, k5, rfl, hl5⟩, hp5, hkm5⟩
                  have HP5 := hide hp5
                  have HPX5 := hide (HP4.out.km hkm5 (by have := HVB.out; exact ⟨by omega, by omega⟩) (by have := HVB.out; exact ⟨by omega, by omega⟩) (by have := HVB.out; exact ⟨by omega, by omega⟩))
                  have HL45 := hide (HL4.out.same fun c h1 h2 => hkm5.block c h2 (by have h1 : x0.heap.size ≤ c := h1; have := HVB.out; have := hsz.out; have := HSZD.out; omega) (by have h1 : x0.heap.size ≤ c := h1; have := HVB.out; have := hsz.out; have := HSZD.out; omega))
                  have HBX5 : Hid (Below w6.heap.size w6 x5) := HBX4.out.trans (hkm5.below HBX4.out.size (by have := HVB.out; omega) (by have := HVB.out; omega))
                  have HBW5 : Hid (Below w.heap.size w x5) := Below.trans HB06.out (HBX5.out.mono HB06.out.size)
                  have HSZ5 : Hid (w8.heap.size ≤ x5.heap.size) := Nat.le_trans hsz.out (Nat.le_trans (Nat.le_of_eq HSZD.out.symm) (Nat.le_trans HK4.out.size hkm5.size))
                  have HEQ := hide (eqI_at (outS (stepS (ds, body) g q).1 ds) _ _ x5 o4 o5 k4 k5 HL45.out hl5 (by have := HOL.out; omega))
                  clear hl5 hp5 hkm5
                  refine hK.out _ _ (HG0.out _ HBW5.out) (fun _ => ?_)
                  clear hK K
                  refine wpAnyH_ready (rs := [12]) (by kernel_rfl) (by simp) ?_
                  refine AllReadyH.cons rfl (fun K hK => ?_) AllReadyH.nil
                  go_simp
                  refine HEQ.out.mono ?_
                  rintro e x6 ⟨rfl, hb6⟩
                  have HX6 := hide hb6
                  clear hb6
                  have HBW6 : Hid (Below w.heap.size w x6) := Below.step HBW5.out HX6.out
                  refine hK.out _ _ (HG0.out _ HBW6.out) (fun _ => ?_)
                  clear hK K
                  refine wpAnyH_take (i := 13) (oi := ⟨some 129, _, _, _, _, _⟩) (v := (.bool false)) rfl (by kernel_rfl) (by kernel_rfl) (by kernel_rfl) (fun _ _ _ h => h) (Or.inl ⟨by rfl, fun W hS => by (have s0 := hS; go_simp)⟩) (HG0.out _ HBW6.out) ?_
                  simp only [Act.put, List.setIfInBounds_toArray, List.set_cons_zero, List.set_cons_succ]
                  refine wpAnyH_done (by kernel_rfl) ?_ _
                  go_wp2_with fail
                  exact ⟨⟨j + 1, by omega, by go_num, hide ⟨_, _, HPX5.out.of HX6.out, HP5.out.of HX6.out, HBN.out⟩, hide (HBX5.out.trans (HX6.out.mono HBX5.out.size)), hide (Nat.le_trans HSZ5.out HX6.out.size)⟩, by simp [intOf] <;> omega⟩
              · have hji : ¬ (j : Int) < (gs.length : Int) := by omega
                go_wp2_with fail
                go_ret
                exact ⟨rfl, HBW.out⟩
  · go_wp2_with fail
    go_ret
    exact ⟨rfl, Below.step HB1.out (Below.step hb2 (below_alloc _ _))⟩
end Go.Proofs.YtiimnnancblbkaaDoor
