/-
  THE WALK of ScanPrinted.
-/
import Derived.Test.YtpblellbffmolaaGreatDoorSc9
import Derived.Test.YtpblellbffmolaaGreatDoorRight
import Derived.Test.YtpblellbffmolaaGreatDoorPrint
set_option linter.unusedSimpArgs false
set_option linter.unusedVariables false
namespace Go.Proofs.YtpblellbffmolaaGreatDoor
open Go.RowKit

theorem wpl_append_at {P : Program} {ops : Array Oper} {rest : List Oper} {o : Oper} {a : Act} {w w' : World} {Q : Exit → Act → World → Prop} {v x v' : Value} {t u : TypeId} (w0 : World) (hw : w = w0) (hr : (Builtin.append_ #[t, u] o.type #[v, x]).run P w0 = .ok v' w') (hgd : o.guard = none) (so xo : Operand) (ho : o.op = .call { callee := .builtin .append, args := #[so, xo], argTypes := #[t, u] }) (hs : a.eval so = v) (hx : a.eval xo = x) (h : wpList P ops Q rest (a.put o.dst v') w') : wpList P ops Q (o :: rest) a w := by
  subst hw
  refine wpList_plain hgd fun K hK => ?_
  exact wp_append_run2 hr so xo ho hs hx (hK _ _ h)
/-- rows of numbers that came in -/
def rowI (gs : List (List Int)) (r : Nat) : List Int := gs[r]?.getD []
def GridI (w : World) (ga : Option Addr) (A : Nat → Option Addr) (C : Nat → Nat) (gs : List (List Int)) : Prop :=
  ∀ r, r < gs.length → (∃ b off, ga = some ⟨b, off, none⟩ ∧ w.cell? ⟨b, off + r, none⟩ = some (.slice (A r) (rowI gs r).length (C r))) ∧ Lies (fun c => c < w.heap.size) w (A r) (intsC (rowI gs r)) ∧ (rowI gs r).length ≤ C r ∧ C r ≤ maxLen
theorem Plt.km {w w' : World} {P V B V' B' : Nat} {dv bv : Value} {vs : Vs} {ks : Ks} (h : Plt w P V B dv bv vs ks) (hk : KM V' B' w w') (h1 : P ≠ V' ∧ P ≠ B') (h2 : V ≠ V' ∧ V ≠ B') (h3 : B ≠ V' ∧ B ≠ B') : Plt w' P V B dv bv vs ks :=
  ⟨hk.blk h.me h1.1 h1.2, hk.blk (show w.heap[V]? = some _ from h.vals) h2.1 h2.2, hk.blk (show w.heap[B]? = some _ from h.blks) h3.1 h3.2, h.ne⟩
theorem fine_er {ds : List De} {a b : List St} {s : ByteArray} {k : Nat} (hs : s.size ≤ 1000000) (h : erL a = erL b) (ha : Fine (ds, a)) (hp : parse2 s = .ok (ds, b) k) (hk : (stsK b).length ≤ 1000000) : Fine (ds, b) := by
  have hg := (parse_inv hs hp).1
  have hc := check_er h ha.ok
  have h2 := qstsK_ge b
  exact ⟨hg, hg.many, hg.deep, by show b.length ≤ _; omega, sm_sts b hk, qm_sts b hk, hc, fit_check hg.body (qm_sts b hk) hc⟩

set_option maxRecDepth 100000 in
set_option maxHeartbeats 3200000 in
theorem printed_many (s : ByteArray) (ga : Option Addr) (n gc : Nat) (w : World) (h : 30 < n) : Calls Tryz.prog 4 #[.string s, .slice ga n gc] w fun e w' => e = .returned (.bool true) ∧ Below w.heap.size w w' := by
  have hi : (30 : Int) < (n : Int) := by omega
  go_enter Tryz.func4, Tryz.ntmps4
  go_wp2_with fail
  go_ret
  exact ⟨rfl, Below.refl _ _⟩
set_option maxRecDepth 100000 in
set_option maxHeartbeats 3200000 in
theorem printed_long (s : ByteArray) (ga : Option Addr) (n gc : Nat) (w : World) (h : ¬ 30 < n) (h2 : 500 < s.size) : Calls Tryz.prog 4 #[.string s, .slice ga n gc] w fun e w' => e = .returned (.bool true) ∧ Below w.heap.size w w' := by
  have hi : ¬ (30 : Int) < (n : Int) := by omega
  have hi2 : (500 : Int) < (s.size : Int) := by omega
  go_enter Tryz.func4, Tryz.ntmps4
  go_wp2_with fail
  go_ret
  exact ⟨rfl, Below.refl _ _⟩

set_option maxRecDepth 100000 in
set_option maxHeartbeats 12800000 in
theorem printed_at (s : ByteArray) (ga : Option Addr) (gc : Nat) (A : Nat → Option Addr) (C : Nat → Nat) (gs : List (List Int)) (w : World) (h30 : ¬ 30 < gs.length) (h500 : ¬ 500 < s.size) (hgr : GridI w ga A C gs) (hv : Vars w) (ht : Tab w) (h14 : 8 ≤ w.heap.size) :
    Calls Tryz.prog 4 #[.string s, .slice ga gs.length gc] w fun e w' => e = .returned (.bool true) ∧ Below w.heap.size w w' := by
  have hi : ¬ (30 : Int) < (gs.length : Int) := by omega
  have hi2 : ¬ (500 : Int) < (s.size : Int) := by omega
  have HS5 : Hid (s.size ≤ 500) := by show _ ≤ _; omega
  have HV := hide hv
  have HT := hide ht
  have HGR := hide hgr
  have HTM := hide (timed_at w hv h14)
  clear hv ht hgr h500
  go_enter Tryz.func4, Tryz.ntmps4
  go_wp2_with fail
  refine HTM.out.mono ?_
  rintro e w1 ⟨rfl, hb1⟩
  have HB1 := hide hb1
  have HV1 := hide (HV.out.below hb1)
  have HT1 := hide (HT.out.below hb1 h14)
  have H141 := hide (Nat.le_trans h14 hb1.size)
  have HRI := hide (right_at s w1 (by have := HS5.out; omega) HV1.out H141.out fun p k hp => by
    obtain ⟨hg, hkl⟩ := parse_inv (by have := HS5.out; omega) hp
    have hk : (stsK p.2).length ≤ 1000000 := by
      have : (stsK p.2).length ≤ (printK p).length := by simp only [printK, List.length_append]; omega
      have := HS5.out
      omega
    have h2 := qstsK_ge p.2
    exact ⟨hg.many, hg.deep, by omega, sm_sts p.2 hk⟩)
  clear hb1
  go_wp2_with fail
  refine HRI.out.mono ?_
  rintro e w2 ⟨hb2, hcase⟩
  rcases hcase with ⟨_, p, k, v, hpar, hchk, rfl, hrep⟩ | ⟨a, b, m, n, i, j, rfl⟩
  · have hfine := fine_of (by have := HS5.out; omega) hpar hchk
    obtain ⟨aa, ac, ba, bc, rfl, hd, hs⟩ := prRep_2 hrep
    obtain ⟨hg, hkl⟩ := parse_inv (by have := HS5.out; omega) hpar
    obtain ⟨b', k', her, hback⟩ := round_print HS5.out hpar
    have hlen := print_len hg
    obtain ⟨ds, body⟩ := p
    simp only at hd hs her hback hlen hkl
    have hl6 : (printT (ds, body)).length ≤ 1000000 := by have := HS5.out; omega
    have hkb : (stsK b').length ≤ 1000000 := by
      obtain ⟨_, h2⟩ := parse_inv (s := ⟨(printT (ds, body)).toArray⟩) (by rw [str_sz]; exact hl6) hback
      have : (stsK b').length ≤ (printK (ds, b')).length := by simp only [printK, List.length_append]; omega
      rw [str_sz] at h2
      have := HS5.out
      omega
    have HFB := hide (fine_er (s := ⟨(printT (ds, body)).toArray⟩) (by rw [str_sz]; exact hl6) her.symm hfine hback hkb)
    have HF := hide hfine
    have HER := hide her
    have HV2 := hide (HV1.out.below hb2)
    have HT2 := hide (HT1.out.below hb2 H141.out)
    have H142 := hide (Nat.le_trans H141.out hb2.size)
    have HB2 := hide (Below.step HB1.out hb2)
    have HO := hide (below_alloc w2 (.cells #[.slice aa ds.length ac, .slice ba body.length bc] 28))
    have HN := hide (blk_new w2 (.cells #[.slice aa ds.length ac, .slice ba body.length bc] 28))
    have HD3 : Hid (IsDes (fun c => c < w2.heap.size) (w2.alloc (.cells #[.slice aa ds.length ac, .slice ba body.length bc] 28)) ds (.slice aa ds.length ac)) := IsRow.same (IsRow.imp (S' := fun c => c < w2.heap.size) hd fun b h1 _ => h1) fun c _ h2 => HO.out.block c h2
    have HS3 : Hid (IsSts (fun c => c < w2.heap.size) (w2.alloc (.cells #[.slice aa ds.length ac, .slice ba body.length bc] 28)) body (.slice ba body.length bc)) := (hs.imp (S' := fun c => c < w2.heap.size) fun b h1 _ => h1).same fun c _ h2 => HO.out.block c h2
    have HPR := hide (print_at (ds, body) hg hl6 _ (w2.alloc (.cells #[.slice aa ds.length ac, .slice ba body.length bc] 28)) _ _ HD3.out HS3.out (fun c h => Nat.lt_of_lt_of_le h HO.out.size) (HV2.out.below HO.out) (HT2.out.below HO.out H142.out) (Nat.le_trans H142.out HO.out.size))
    have HPA : Hid (∀ W, Vars W → 8 ≤ W.heap.size → Calls Tryz.prog 7 #[.string ⟨(printT (ds, body)).toArray⟩] W _) := fun W h1 h2 => hback ▸ parse_at ⟨(printT (ds, body)).toArray⟩ W (by rw [str_sz]; exact hl6) h1 h2
    clear hb2 hd hs hg hkl hlen hrep hfine her hback hpar hchk hkb hl6
    generalize printT (ds, body) = T at *
    go_wp2_with fail
    generalize (w2.alloc (.cells #[.slice aa ds.length ac, .slice ba body.length bc] 28)) = w3 at *
    refine HPR.out.mono ?_
    rintro e w4 ⟨rfl, hb4⟩
    have HB4 := hide (Below.step HO.out hb4)
    have HV4 := hide (HV2.out.below HB4.out)
    have H144 := hide (Nat.le_trans H142.out HB4.out.size)
    have HN4 := hide (Below.blk hb4 HN.out)
    have HD4 : Hid (IsDes (fun c => c < w2.heap.size) w4 ds (.slice aa ds.length ac)) := IsRow.same HD3.out fun c _ h2 => hb4.block c h2
    have HS4 : Hid (IsSts (fun c => c < w2.heap.size) w4 body (.slice ba body.length bc)) := HS3.out.same fun c _ h2 => hb4.block c h2
    clear hb4 HD3 HS3
    go_wp2_with fail
    refine (HPA.out w4 HV4.out H144.out).mono ?_
    rintro e w5 ⟨hb5, v, rfl, hrep⟩
    obtain ⟨ca, cc, da, dc, rfl, hd, hs⟩ := prRep_2 hrep
    simp only at hd hs
    have HQ6 := hide (blk_new w5 (.cells #[.slice ca ds.length cc, .slice da b'.length dc] 28))
    have hb6 := below_alloc w5 (.cells #[.slice ca ds.length cc, .slice da b'.length dc] 28)
    have HB6 := hide (Below.step HB2.out (Below.step HB4.out (Below.step hb5 hb6)))
    have HN6 := hide (Below.blk (Below.step hb5 hb6) HN4.out)
    have HSZ : Hid ((w5.alloc (.cells #[.slice ca ds.length cc, .slice da b'.length dc] 28)).heap.size = w5.heap.size + 1) := by show _ = _; simp
    have HW24 : Hid (w2.heap.size ≤ w5.heap.size) := Nat.le_trans HB4.out.size hb5.size
    have HDX : Hid (IsDes (fun c => c < w5.heap.size) (w5.alloc (.cells #[.slice ca ds.length cc, .slice da b'.length dc] 28)) ds (.slice aa ds.length ac)) := IsRow.same (IsRow.imp (S' := fun c => c < w5.heap.size) HD4.out fun b _ h2 => Nat.lt_of_lt_of_le h2 HW24.out) fun c h1 h2 => (Below.step hb5 hb6).block c h2
    have HSX : Hid (IsSts (fun c => c < w5.heap.size) (w5.alloc (.cells #[.slice ca ds.length cc, .slice da b'.length dc] 28)) body (.slice ba body.length bc)) := (HS4.out.imp (S' := fun c => c < w5.heap.size) fun b _ h2 => Nat.lt_of_lt_of_le h2 HW24.out).same fun c h1 h2 => (Below.step hb5 hb6).block c h2
    have HDY : Hid (IsDes (fun c => c < w5.heap.size) (w5.alloc (.cells #[.slice ca ds.length cc, .slice da b'.length dc] 28)) ds (.slice ca ds.length cc)) := IsRow.same (IsRow.imp (S' := fun c => c < w5.heap.size) hd fun b h1 _ => h1) fun c _ h2 => hb6.block c h2
    have HSY : Hid (IsSts (fun c => c < w5.heap.size) (w5.alloc (.cells #[.slice ca ds.length cc, .slice da b'.length dc] 28)) b' (.slice da b'.length dc)) := (hs.imp (S' := fun c => c < w5.heap.size) fun b h1 _ => h1).same fun c _ h2 => hb6.block c h2
    have n0 : (w5.alloc (.cells #[.slice ca ds.length cc, .slice da b'.length dc] 28)).cell? ⟨w2.heap.size, 0, none⟩ = some (.slice aa ds.length ac) := by rw [blk_cell HN6.out]; rfl
    have n1 : (w5.alloc (.cells #[.slice ca ds.length cc, .slice da b'.length dc] 28)).cell? ⟨w2.heap.size, 1, none⟩ = some (.slice ba body.length bc) := by rw [blk_cell HN6.out]; rfl
    clear hb5 hb6 hrep hd hs HD4 HS4 HN4
    go_wp2_with fail
    generalize (w5.alloc (.cells #[.slice ca ds.length cc, .slice da b'.length dc] 28)) = w6 at *
    have HNX := hide (new_at ds body (fun c => c < w5.heap.size) w6 aa ba ac bc HDX.out HSX.out HF.out.many HF.out.deep HF.out.size HF.out.sm HF.out.ok)
    refine HNX.out.mono ?_
    rintro e w7 ⟨P1, V1, B1, rfl, hm1⟩
    have HM1 := hide hm1
    have HQ7 := hide (Below.blk hm1.below HQ6.out)
    have m0 : w7.cell? ⟨w5.heap.size, 0, none⟩ = some (.slice ca ds.length cc) := by rw [blk_cell HQ7.out]; rfl
    have m1 : w7.cell? ⟨w5.heap.size, 1, none⟩ = some (.slice da b'.length dc) := by rw [blk_cell HQ7.out]; rfl
    have HDY7 : Hid (IsDes (fun c => c < w5.heap.size) w7 ds (.slice ca ds.length cc)) := IsRow.same HDY.out fun c _ h2 => hm1.below.block c h2
    have HSY7 : Hid (IsSts (fun c => c < w5.heap.size) w7 b' (.slice da b'.length dc)) := HSY.out.same fun c _ h2 => hm1.below.block c h2
    have HNY := hide (new_at ds b' (fun c => c < w5.heap.size) w7 ca da cc dc HDY7.out HSY7.out HFB.out.many HFB.out.deep HFB.out.size HFB.out.sm HFB.out.ok)
    clear hm1 n0 n1
    go_wp2_with fail
    refine HNY.out.mono ?_
    rintro e w8 ⟨P2, V2, B2, rfl, hm2⟩
    have HM2 := hide hm2
    clear hm2 m0 m1 HDY7 HSY7
    have HVB : Hid (w5.heap.size < V1 ∧ w5.heap.size < B1 ∧ w5.heap.size < P1 ∧ V1 < w7.heap.size ∧ B1 < w7.heap.size ∧ P1 < w7.heap.size ∧ w7.heap.size ≤ V2 ∧ w7.heap.size ≤ B2 ∧ w7.heap.size ≤ P2 ∧ V2 < w8.heap.size ∧ B2 < w8.heap.size ∧ P2 < w8.heap.size ∧ w6.heap.size = w5.heap.size + 1 ∧ w.heap.size ≤ w5.heap.size) := by
      have h1 := HM1.out.vN; have h2 := HM1.out.bN; have h3 := HM1.out.pN; have h4 := HSZ.out; have h5 := HB2.out.size; have h6 := HW24.out
      have a1 := blk_lt (show w7.heap[V1]? = some _ from HM1.out.at_.vals); have a2 := blk_lt (show w7.heap[B1]? = some _ from HM1.out.at_.blks); have a3 := blk_lt HM1.out.at_.me
      have b1 := blk_lt (show w8.heap[V2]? = some _ from HM2.out.at_.vals); have b2 := blk_lt (show w8.heap[B2]? = some _ from HM2.out.at_.blks); have b3 := blk_lt HM2.out.at_.me
      have c1 := HM2.out.vN; have c2 := HM2.out.bN; have c3 := HM2.out.pN
      exact ⟨by omega, by omega, by omega, a1, a2, a3, c1, c2, c3, b1, b2, b3, h4, by omega⟩
    have HB68 : Hid (Below w6.heap.size w6 w8) := Below.step HM1.out.below HM2.out.below
    have HPX8 := hide (HM1.out.at_.of HM2.out.below)
    have HPY8 := hide HM2.out.at_
    have HKO := hide (kok_new ds)
    have HES : Hid (∀ g q, stepS (ds, b') (g ++ List.replicate 25 0) q = stepS (ds, body) g q) := fun g q => by
      show doL b' (takeS ds (g ++ List.replicate 25 0) q.1, q.2) = doL body (takeS ds g q.1, q.2)
      rw [take_zeros, do_er HER.out]
    generalize newS ds ([], []) = q0 at *
    clear HNX HNY HM1 HM2 HQ6 HQ7 HN6 HPA HPR HN HO HB4 HV4 H144 HV2 HT2 H142 HV1 HT1 H141 HTM HRI HER HSZ HW24
    go_wp2_with fail
    go_loopw [13, 14, 15] (fun i _ _ wr => ∃ j : Nat, j ≤ gs.length ∧ i = .int .i64 j ∧ Hid (∃ q : Vs × Ks, Plt wr P1 V1 B1 (.slice aa ds.length ac) (.slice ba body.length bc) q.1 q.2 ∧ Plt wr P2 V2 B2 (.slice ca ds.length cc) (.slice da b'.length dc) q.1 q.2 ∧ KOK (kindK ds) q.2) ∧ Hid (Below w6.heap.size w6 wr) ∧ Hid (w8.heap.size ≤ wr.heap.size)) (fun i _ _ _ => gs.length - (intOf i).toNat)
    case atStart => exact ⟨0, Nat.zero_le _, rfl, hide ⟨q0, HPX8.out, HPY8.out, HKO.out⟩, HB68, hide (Nat.le_refl _)⟩
    case round =>
      obtain ⟨j, hj, rfl, hq, hbw, hsz⟩ := hrel
      obtain ⟨q, hpx, hpy, hko⟩ := hq.out
      have HPX := hide hpx
      have HPY := hide hpy
      have HK := hide hko
      clear hq hpx hpy hko
      have HBW := hide (Below.trans HB6.out (hbw.out.mono HB6.out.size))
      by_cases hlt : j < gs.length
      · have hji : (j : Int) < (gs.length : Int) := by omega
        obtain ⟨⟨gb, go, rfl, hgc⟩, hlie, hgl, hgm⟩ := HGR.out j hlt
        have g0 : wr.cell? ⟨gb, go + j, none⟩ = some (.slice (A j) (rowI gs j).length (C j)) := (HBW.out.cell (cell_lt hgc)).trans hgc
        have HLG := hide (hlie.below HBW.out)
        clear hgc hlie
        generalize rowI gs j = g at *
        generalize A j = ao at *
        generalize C j = cp at *
        by_cases hg30 : 30 < g.length
        · have hgi : (30 : Int) < (g.length : Int) := by omega
          go_wp2_with fail
          go_ret
          exact ⟨rfl, HBW.out⟩
        · have hgi : ¬ (30 : Int) < (g.length : Int) := by omega
          have hb1 := below_alloc wr (.cells #[] 3)
          have hn1 := blk_new wr (.cells #[] 3)
          obtain ⟨a2, c2, x2, happ, hm2, hg2, hnb2⟩ := app_in (c := cp) (n' := g.length) (Mine.empty (size := 1) hn1) (l := []) rfl (new := g) rfl (by omega) (HLG.out.any.below hb1) (by simp) (by omega)
          simp only [List.nil_append] at hm2
          obtain ⟨a3, c3, x3, happ3, hm3, hg3, hc31, hc32⟩ := app_zero (k := 25) (n' := g.length + 25) hm2 rfl rfl (Nat.le_trans (by simp) hg2.size) (by omega)
          have hbx2 : Below wr.heap.size wr x2 := Below.grownOn hb1 hg2 (fun b hb => by simp [Value.ownBlock] at hb; omega) hb1.size
          have hbx3 : Below wr.heap.size wr x3 := Below.grownOn hbx2 hg3 (fun b hb => hm2.new b hb) hbx2.size
          have HX3 := hide hbx3
          have HM3 := hide hm3
          clear hm2 hm3 hg2 hg3 hnb2 hbx2 hbx3 hb1 hn1
          have HBX := hide (hbw.out.trans (HX3.out.mono hbw.out.size))
          have HSS : Hid (∀ c, c < w5.heap.size → c < x3.heap.size ∧ (c ≠ V1 ∧ c ≠ B1) ∧ (c ≠ V2 ∧ c ≠ B2)) := fun c hc => by
            have h1 := HVB.out; have h2 := HBX.out.size
            exact ⟨by omega, ⟨by omega, by omega⟩, ⟨by omega, by omega⟩⟩
          have HSTX := hide (sstep_at ds body g (fun c => c < w5.heap.size) (fun c => c < w.heap.size) x3 P1 V1 B1 (.slice ao g.length cp) aa ba ac bc q.1 q.2 (kindK ds) (HPX.out.of HX3.out)
            (IsRow.same HDX.out fun c h1 h2 => HBX.out.block c h2) (HSX.out.same fun c h1 h2 => HBX.out.block c h2) (fun c h => ⟨(HSS.out c h).1, (HSS.out c h).2.1⟩)
            ⟨ao, cp, rfl, HLG.out.below HX3.out, hgl, hgm⟩ (fun c h => (HSS.out c (by have := HVB.out; omega)).2.1) HK.out HF.out.fit HF.out.qm HF.out.size (by have := HF.out.many; simp only at this; omega))
          have HKN := hide (kok_step (K := kindK ds) (p := (ds, body)) (g := g) (q := q) HF.out.fit HK.out)
          have HE2 := hide (HES.out g q)
          have HOL := hide (outS_len (stepS (ds, body) g q).1 ds)
          generalize hqq : stepS (ds, body) g q = q2 at *
          have HQQ := hide hqq
          clear hqq
          go_wp2_with (at_builtin; first | (refine wpl_append_at (wr.alloc (.cells #[] 3)) rfl happ rfl _ _ rfl rfl rfl ?_) | (refine wpl_append_at x2 rfl happ3 rfl _ _ rfl rfl rfl ?_))
          clear happ happ3
          refine HSTX.out.mono ?_
          rintro e x4 ⟨⟨o4, k4, rfl, hl4⟩, hp4, hkm4⟩
          have HL4 := hide hl4
          have HP4 := hide hp4
          have HK4 := hide hkm4
          have HBX4 : Hid (Below w6.heap.size w6 x4) := HBX.out.trans (hkm4.below HBX.out.size (by have := HVB.out; omega) (by have := HVB.out; omega))
          have HPY4 := hide ((HPY.out.of HX3.out).km hkm4 (by have := HVB.out; exact ⟨by omega, by omega⟩) (by have := HVB.out; exact ⟨by omega, by omega⟩) (by have := HVB.out; exact ⟨by omega, by omega⟩))
          have hm4 : Mine 3 1 wr.heap.size x4 (.slice a3 (g.length + 25) c3) (g.length + 25) (intsC (g ++ List.replicate 25 0)) := (HM3.out.from (by simp)).same fun b hb hl => hkm4.block b hl (by have := HM3.out.new b hb; have := HVB.out; have := hsz.out; omega) (by have := HM3.out.new b hb; have := HVB.out; have := hsz.out; omega)
          have HM4 := hide hm4
          have HGL : Hid ((g ++ List.replicate 25 (0 : Int)).length = g.length + 25) := by show _ = _; simp
          have HSTY := hide (sstep_at ds b' (g ++ List.replicate 25 0) (fun c => c < w5.heap.size) (fun c => c ≠ V2 ∧ c ≠ B2) x4 P2 V2 B2 (.slice a3 (g ++ List.replicate 25 (0 : Int)).length c3) ca da cc dc q.1 q.2 (kindK ds) HPY4.out
            (IsRow.same HDY.out fun c h1 h2 => HBX4.out.block c h2) (HSY.out.same fun c h1 h2 => HBX4.out.block c h2) (fun c h => ⟨Nat.lt_of_lt_of_le (HSS.out c h).1 hkm4.size, (HSS.out c h).2.2⟩)
            ⟨a3, c3, rfl, hm4.lies fun b hb => by have h1 := hm4.new b hb; have h2 := HVB.out; have h3 := hsz.out; exact ⟨by omega, by omega⟩, by rw [HGL.out]; exact hc31, hc32⟩ (fun c h => h) HK.out HFB.out.fit HFB.out.qm HFB.out.size (by have := HF.out.many; simp only at this; omega))
          rw [HE2.out, HGL.out] at HSTY
          clear hl4 hp4 hkm4 hm4
          go_wp2_with fail
          refine HSTY.out.mono ?_
          rintro e x5 ⟨⟨o5, k5, rfl, hl5⟩, hp5, hkm5⟩
          have HP5 := hide hp5
          have HPX5 := hide (HP4.out.km hkm5 (by have := HVB.out; exact ⟨by omega, by omega⟩) (by have := HVB.out; exact ⟨by omega, by omega⟩) (by have := HVB.out; exact ⟨by omega, by omega⟩))
          have HL45 := hide (HL4.out.same fun c h1 h2 => hkm5.block c h2 (by have h1 : x3.heap.size ≤ c := h1; have := HVB.out; have := hsz.out; have := HX3.out.size; omega) (by have h1 : x3.heap.size ≤ c := h1; have := HVB.out; have := hsz.out; have := HX3.out.size; omega))
          have HBX5 : Hid (Below w6.heap.size w6 x5) := HBX4.out.trans (hkm5.below HBX4.out.size (by have := HVB.out; omega) (by have := HVB.out; omega))
          have HSZ5 : Hid (w8.heap.size ≤ x5.heap.size) := Nat.le_trans hsz.out (Nat.le_trans HX3.out.size (Nat.le_trans HK4.out.size hkm5.size))
          have HEQ := hide (eqI_at (outS q2.1 ds) _ _ x5 o4 o5 k4 k5 HL45.out hl5 (by have := HOL.out; have := HF.out.many; simp only at this; omega))
          clear hl5 hp5 hkm5
          go_wp2_with fail
          refine HEQ.out.mono ?_
          rintro e x6 ⟨rfl, hb6⟩
          have HX6 := hide hb6
          clear hb6
          go_wp2_with fail
          exact ⟨⟨j + 1, by omega, by go_num, hide ⟨q2, HPX5.out.of HX6.out, HP5.out.of HX6.out, HKN.out⟩, hide (HBX5.out.trans (HX6.out.mono HBX5.out.size)), hide (Nat.le_trans HSZ5.out HX6.out.size)⟩, by simp [intOf]; omega⟩
      · have hji : ¬ (j : Int) < (gs.length : Int) := by omega
        go_wp2_with fail
        go_ret
        exact ⟨rfl, HBW.out⟩
  · go_wp2_with fail
    go_ret
    exact ⟨rfl, Below.step HB1.out (Below.step hb2 (below_alloc _ _))⟩
end Go.Proofs.YtpblellbffmolaaGreatDoor
