/-
  CONTRACT of the reference's Step.
-/
import Derived.Test.YtndpehjbepfbkaaGreatDoorLCyc
import Derived.Lib.MinMax
set_option linter.unusedSimpArgs false
set_option linter.unusedVariables false
namespace Go.Proofs.YtndpehjbepfbkaaGreatDoor
open Go.RowKit

/-- a row of bits that is built behind a world -/
structure BRow (w0 wr : World) (va : Option Addr) (vc k : Nat) (l : List Bool) : Prop where
  below : Below w0.heap.size w0 wr
  mine : Mine 4 1 w0.heap.size wr (.slice va k vc) k (bitsC l)
  len : l.length = k
theorem BRow.none (w : World) : BRow w w .none 0 0 [] := ⟨Below.refl _ _, Mine.none _, rfl⟩
theorem BRow.more {w0 wr wy : World} {va : Option Addr} {vc k : Nat} {l : List Bool} (h : BRow w0 wr va vc k l) (hb : Below wr.heap.size wr wy) : BRow w0 wy va vc k l := ⟨Below.step h.below hb, h.mine.below hb, h.len⟩
theorem BRow.app {w0 wr wy : World} {va : Option Addr} {vc k : Nat} {l : List Bool} (h : BRow w0 wr va vc k l) (hb : Below wr.heap.size wr wy) (new : List Bool) (ao : Option Addr) (c m n' : Nat) (hnew : Lies AnyB wy ao (bitsC new)) (hm : new.length = m) (hn : n' = k + m) (hbig : n' ≤ 100000) :
    ∃ va' vc' w2, (Builtin.append_ #[47, 47] 47 #[.slice va k vc, .slice ao m c]).run Tryz.prog wy = .ok (.slice va' n' vc') w2 ∧ BRow w0 w2 va' vc' n' (l ++ new) := by
  have h2 := h.more hb
  obtain ⟨va', vc', w2, hr, hmm, hg, hnb⟩ := app_bo (B := w0.heap.size) (w := wy) (c := c) (n' := n') h2.mine h.len hm hn hnew h2.below.size (by omega)
  exact ⟨va', vc', w2, hr, Below.grownW h2.below hg fun b hb => h2.mine.new b hb, hmm, by rw [List.length_append, h.len, hm, hn]⟩
theorem BRow.lies {w0 wr : World} {va : Option Addr} {vc k : Nat} {l : List Bool} (h : BRow w0 wr va vc k l) : Lies (FromB w0.heap.size) wr va (bitsC l) := h.mine.lies fun b hb => h.mine.new b hb
theorem BRow.cap {w0 wr : World} {va : Option Addr} {vc k : Nat} {l : List Bool} (h : BRow w0 wr va vc k l) : k ≤ vc := by
  rcases h.mine.own.2 with ⟨hv, h0⟩ | ⟨g, cap, cur, hv, _, _, hn, _⟩
  · omega
  · cases hv; exact hn
theorem allTo_snoc (gn : Nat) (g h t : List Bool) (b : Bool) : allTo gn g h (t ++ [b]) = allTo gn g h t ++ [b] := by simp [allTo]
theorem tdiv2 (n : Int) (j : Nat) (h : 0 ≤ n) : (n / ((2 ^ j : Nat) : Int)) / 2 = n / ((2 ^ (j + 1) : Nat) : Int) := by
  rw [Int.ediv_ediv_of_nonneg (by exact Int.natCast_nonneg _)]
  congr 1
theorem rg_len {l : List Bool} {n : Nat} (h : l.length = n) : l = l := rfl

set_option maxRecDepth 100000 in
set_option maxHeartbeats 6400000 in
theorem rstep_at {S T U : Nat → Prop} (gn : Nat) (rs : List Rg) (ls : List Lt) (os : List Int) (rc lc oc : Nat) (ra la oa : Option Addr) (A : Nat → Option Addr) (C : Nat → Nat) (held g : List Bool) (ha ga : Option Addr) (hc gc : Nat) (w : World) (hrr : Lies S w ra (rgsC rs)) (hl : LutsAt S w la A C ls) (ho : Lies S w oa (intsC os)) (hh : Lies T w ha (bitsC held)) (hg : Lies U w ga (bitsC g)) (hr : RightT gn rs ls os) (hhl : held.length = rs.length) (hgl : (g.length : Int) ≤ 20000) :
    Calls Tryz.prog 27 #[.agg #[.int .i64 gn, .slice ra rs.length rc, .slice la ls.length lc, .slice oa os.length oc], .slice ha rs.length hc, .slice ga g.length gc] w fun e w' => (∃ (oa' : Option Addr) (oc' : Nat) (na : Option Addr) (nc : Nat), e = .returned (.tuple #[.slice oa' os.length oc', .slice na rs.length nc]) ∧ Lies (FromB w.heap.size) w' oa' (bitsC (outsL (lookL gn g held ls) os)) ∧ Lies (FromB w.heap.size) w' na (bitsC (nextL (lookL gn g held ls) rs)) ∧ os.length ≤ oc') ∧ Below w.heap.size w w' := by
  have hg1 := hr.g1
  have hr1 := hr.r1
  have hl1 := hr.l1
  have ho1 := hr.o1
  have HB1 := hide (below_alloc w (.cells #[.int .i64 gn, .slice ra rs.length rc, .slice la ls.length lc, .slice oa os.length oc] 44))
  have HN1 := hide (blk_new w (.cells #[.int .i64 gn, .slice ra rs.length rc, .slice la ls.length lc, .slice oa os.length oc] 44))
  have HR := hide hr
  have HRR := hide hrr
  have HL := hide hl
  have HO := hide ho
  have HH := hide hh
  have HG := hide hg
  have HHL := hide hhl
  clear hr hrr hl ho hh hg hhl
  go_enter Tryz.func27, Tryz.ntmps27
  go_wp2_with fail
  generalize w.alloc (.cells #[.int .i64 gn, .slice ra rs.length rc, .slice la ls.length lc, .slice oa os.length oc] 44) = w1 at *
  have HW : Hid (∀ W, Below w1.heap.size w1 W → W.cell? ⟨w.heap.size, 0, none⟩ = some (.int .i64 gn) ∧ W.cell? ⟨w.heap.size, 1, none⟩ = some (.slice ra rs.length rc) ∧ W.cell? ⟨w.heap.size, 2, none⟩ = some (.slice la ls.length lc) ∧ W.cell? ⟨w.heap.size, 3, none⟩ = some (.slice oa os.length oc)) := hide fun W hb => ⟨by rw [blk_cell (Below.blk hb HN1.out)]; rfl, by rw [blk_cell (Below.blk hb HN1.out)]; rfl, by rw [blk_cell (Below.blk hb HN1.out)]; rfl, by rw [blk_cell (Below.blk hb HN1.out)]; rfl⟩
  go_loopw [8, 25] (fun v i wr => ∃ (k : Nat) (va : Option Addr) (vc : Nat), k ≤ gn ∧ i = .int .i64 k ∧ v = .slice va k vc ∧ Hid (BRow w1 wr va vc k ((List.range k).map (bit g)))) (fun _ i _ => gn - (intOf i).toNat)
  case atStart => exact ⟨0, .none, 0, Nat.zero_le _, rfl, rfl, hide (BRow.none _)⟩
  case round =>
    obtain ⟨k, va, vc, hk, rfl, rfl, hbr⟩ := hrel
    by_cases hlt : k < gn
    · have hki : (k : Int) < (gn : Int) := by omega
      have HRA : Hid ((List.range (k + 1)).map (bit g) = (List.range k).map (bit g) ++ [bit g k]) := hide (by rw [List.range_succ, List.map_append]; rfl)
      by_cases hgk : k < g.length
      · have hgi : (k : Int) < (g.length : Int) := by omega
        obtain ⟨b, off, hga, _, _, n0⟩ := (HG.out.below (Below.step HB1.out hbr.out.below)).bits hgk
        have HGA := hide hga
        rw [HGA.out]
        generalize bit g k = bv at *
        obtain ⟨va2, vc2, y2, happ, hbr2⟩ := hbr.out.app (below_alloc wr (.cells #[.bool bv] 4)) [bv] (some ⟨wr.heap.size, 0, none⟩) 1 1 (k + 1) (Lies.blk (cs := bitsC [bv]) (blk_new wr (.cells #[.bool bv] 4)) trivial) rfl rfl (by omega)
        have HBR2 := hide hbr2
        clear hga hbr2
        go_wp2_with (at_builtin; (refine wpl_append_run happ rfl _ _ rfl rfl rfl ?_))
        exact ⟨⟨k + 1, va2, vc2, by omega, by go_num, rfl, hide (by rw [HRA.out]; exact HBR2.out)⟩, by simp [intOf]; omega⟩
      · have hgi : ¬ (k : Int) < (g.length : Int) := by omega
        have hbf : bit g k = false := by unfold bit; rw [List.getElem?_eq_none (by omega)]; rfl
        rw [hbf] at HRA
        obtain ⟨va2, vc2, y2, happ, hbr2⟩ := hbr.out.app (below_alloc wr (.cells #[.bool false] 4)) [false] (some ⟨wr.heap.size, 0, none⟩) 1 1 (k + 1) (Lies.blk (cs := bitsC [false]) (blk_new wr (.cells #[.bool false] 4)) trivial) rfl rfl (by omega)
        have HBR2 := hide hbr2
        clear hbr2 hbf
        go_wp2_with (at_builtin; (refine wpl_append_run happ rfl _ _ rfl rfl rfl ?_))
        exact ⟨⟨k + 1, va2, vc2, by omega, by go_num, rfl, hide (by rw [HRA.out]; exact HBR2.out)⟩, by simp [intOf]; omega⟩
    · have HK : Hid (k = gn) := hide (by omega)
      obtain ⟨va2, vc2, y2, happ, hbr2⟩ := hbr.out.app (Below.refl wr.heap.size wr) held ha hc rs.length (k + rs.length) (HH.out.below (Below.step HB1.out hbr.out.below)).any HHL.out rfl (by omega)
      have HV0 : Hid (BRow w1 y2 va2 vc2 (gn + rs.length + 0) (allTo gn g held [])) := hide (by rw [← HK.out]; simpa [allTo] using hbr2)
      have HKS : Hid ((k + rs.length : Nat) = gn + rs.length + 0) := hide (by rw [HK.out]; rfl)
      rw [HKS.out] at happ
      clear hbr2 hbr
      have e2 := (HW.out _ HV0.out.below).2.2.1
      go_wp2_with (at_builtin; (refine wpl_append_run happ rfl _ _ rfl rfl rfl ?_))
      clear e2 happ HK HKS
      go_loopw [8, 48] (fun v i wr => ∃ (k : Nat) (va : Option Addr) (vc : Nat), k ≤ ls.length ∧ i = .int .i64 k ∧ v = .slice va (gn + rs.length + k) vc ∧ Hid (BRow w1 wr va vc (gn + rs.length + k) (allTo gn g held (tabsTo gn g held ls k)))) (fun _ i _ => ls.length - (intOf i).toNat)
      case atStart => exact ⟨0, va2, vc2, Nat.zero_le _, rfl, rfl, HV0⟩
      case round =>
        clear HV0
        obtain ⟨k, va, vc, hk, rfl, rfl, hbr⟩ := hrel
        by_cases hlt : k < ls.length
        · have hki : (k : Int) < (ls.length : Int) := by omega
          obtain ⟨b, off, hla, _, hbl, n0, n1⟩ := (HL.out.below (Below.step HB1.out hbr.out.below)).row.pair hlt
          have HINS := hide ((HL.out.below (Below.step HB1.out hbr.out.below)).ins k hlt)
          simp only [lutF, lutG] at n0 n1
          have HA := hide hla
          rw [HA.out]
          have hRL := rightL_iff.1 (HR.out.luts k hlt)
          have HIR := hide hRL.ins
          have h4 := hRL.n4
          have ht0 := hRL.t0
          have ht1 := hRL.tlt
          have HTB : Hid (tabsTo gn g held ls (k + 1) = tabsTo gn g held ls k ++ [bitL (sigL gn g held (tabsTo gn g held ls k)) (ltAt ls k)]) := hide rfl
          have HTL := hide (tabsTo_len gn g held ls k)
          generalize tabsTo gn g held ls k = tk at *
          generalize ltAt ls k = lt at *
          obtain ⟨ins, tb⟩ := lt
          simp only at n0 n1 HINS HIR h4 ht0 ht1
          have HB5 : Hid (Below wr.heap.size wr (wr.alloc (.cells #[.slice (A k) ins.length (C k), .int .i64 tb] 93))) := hide (below_alloc _ _)
          have HN5 := hide (blk_new wr (.cells #[.slice (A k) ins.length (C k), .int .i64 tb] 93))
          have x0 : (wr.alloc (.cells #[.slice (A k) ins.length (C k), .int .i64 tb] 93)).cell? ⟨wr.heap.size, 0, none⟩ = some (.slice (A k) ins.length (C k)) := by rw [blk_cell HN5.out]; rfl
          have HI5 := hide (HINS.out.below HB5.out)
          have HBR5 := hide (hbr.out.more HB5.out)
          clear hla hbl hRL hbr
          go_wp2_with fail
          clear x0 n0 n1
          generalize wr.alloc (.cells #[.slice (A k) ins.length (C k), .int .i64 tb] 93) = W5 at *
          go_loop [12, 13, 55] (fun a f i => ∃ q : Nat, q ≤ ins.length ∧ i = .int .i64 q ∧ a = .int .i64 (idxTo (sigL gn g held tk) ins q) ∧ f = .int .i64 (2 ^ q : Nat)) (fun _ _ i => ins.length - (intOf i).toNat)
          case atStart => exact ⟨0, Nat.zero_le _, rfl, rfl, rfl⟩
          case round =>
            obtain ⟨q, hq, rfl, rfl, rfl⟩ := hrel
            have hp : 2 ^ q ≤ 16 := Nat.pow_le_pow_right (n := 2) (by decide) (show q ≤ 4 by omega)
            have hidx := idxTo_lt (sigL gn g held tk) ins q
            by_cases hlq : q < ins.length
            · have hqi : (q : Int) < (ins.length : Int) := by omega
              obtain ⟨b2, off2, ha2, _, _, v0⟩ := HI5.out.ints hlq
              have HA2 := hide ha2
              rw [HA2.out]
              obtain ⟨sg, hsg⟩ := Int.eq_ofNat_of_zero_le (inR_iff.1 (HIR.out q hlq)).1
              have hsl := (inR_iff.1 (HIR.out q hlq)).2
              rw [hsg] at v0 hsl
              have hsn : sg < gn + rs.length + k := by omega
              have HAL := hide (allTo_len gn g held tk)
              obtain ⟨vb, voff, hva, _, _, v1⟩ := HBR5.out.lies.bits (i := sg) (by rw [HAL.out, HTL.out, HHL.out]; omega)
              rw [bit_allTo] at v1
              have HVA := hide hva
              rw [HVA.out]
              have hsi : (sg : Int) < ((gn + rs.length + k : Nat) : Int) := by omega
              have HST : Hid (idxTo (sigL gn g held tk) ins (q + 1) = idxTo (sigL gn g held tk) ins q + (if sigL gn g held tk sg then 2 ^ q else 0)) := hide (by simp only [idxTo]; rw [hsg, Int.toNat_natCast])
              have HPW : Hid (2 ^ (q + 1) = 2 * 2 ^ q) := hide (by rw [Nat.pow_succ]; omega)
              generalize idxTo (sigL gn g held tk) ins q = iq at *
              generalize hpq : 2 ^ q = pq at *
              clear ha2 hsg hva hpq
              cases hs : sigL gn g held tk sg with
              | true =>
                rw [hs] at v1 HST
                have HST2 : Hid (idxTo (sigL gn g held tk) ins (q + 1) = iq + pq) := hide (by rw [HST.out]; rfl)
                clear hs HST
                go_wp2_with fail
                exact ⟨⟨q + 1, by omega, by go_num, by rw [HST2.out]; go_num, by rw [HPW.out]; go_num⟩, by simp [intOf]; omega⟩
              | false =>
                rw [hs] at v1 HST
                have HST2 : Hid (idxTo (sigL gn g held tk) ins (q + 1) = iq) := hide (by rw [HST.out]; rfl)
                clear hs HST
                go_wp2_with fail
                exact ⟨⟨q + 1, by omega, by go_num, by rw [HST2.out], by rw [HPW.out]; go_num⟩, by simp [intOf]; omega⟩
            · have HQ : Hid (q = ins.length) := hide (by omega)
              have x1 : W5.cell? ⟨wr.heap.size, 1, none⟩ = some (.int .i64 tb) := by rw [blk_cell HN5.out]; rfl
              generalize hiq : idxTo (sigL gn g held tk) ins q = iq at *
              have HIQ := hide hiq
              clear hiq
              go_wp2_with fail
              clear x1
              go_loop [16, 72] (fun t i => ∃ j : Nat, j ≤ iq ∧ i = .int .i64 j ∧ t = .int .i64 (tb / ((2 ^ j : Nat) : Int))) (fun _ i => iq - (intOf i).toNat)
              case atStart => exact ⟨0, Nat.zero_le _, rfl, by simp⟩
              case round =>
                obtain ⟨j, hj, rfl, rfl⟩ := hrel
                have hd0 : 0 ≤ tb / ((2 ^ j : Nat) : Int) := Int.ediv_nonneg ht0 (Int.natCast_nonneg _)
                have hd1 : tb / ((2 ^ j : Nat) : Int) ≤ tb := Int.ediv_le_self _ ht0
                by_cases hlj : j < iq
                · have hji : (j : Int) < (iq : Int) := by omega
                  have HD2 := hide (tdiv2 tb j ht0)
                  generalize tb / ((2 ^ j : Nat) : Int) = dj at *
                  go_wp2_with fail
                  exact ⟨⟨j + 1, by omega, by go_num, by rw [HD2.out]⟩, by simp [intOf]; omega⟩
                · have HJ : Hid (j = iq) := hide (by omega)
                  have HBQ : Hid (tabsTo gn g held ls (k + 1) = tk ++ [tb / ((2 ^ j : Nat) : Int) % 2 == 1]) := hide (by rw [HTB.out, HJ.out, ← HIQ.out, HQ.out]; rfl)
                  generalize tb / ((2 ^ j : Nat) : Int) = dj at *
                  obtain ⟨va3, vc3, y3, happ, hbr3⟩ := HBR5.out.app (below_alloc W5 (.cells #[.bool (dj % 2 == 1)] 4)) [dj % 2 == 1] (some ⟨W5.heap.size, 0, none⟩) 1 1 (gn + rs.length + (k + 1)) (Lies.blk (cs := bitsC [dj % 2 == 1]) (blk_new W5 (.cells #[.bool (dj % 2 == 1)] 4)) trivial) rfl (by omega) (by omega)
                  have HBR3 := hide hbr3
                  clear hbr3
                  go_wp2_with (at_builtin; (refine wpl_append_run happ rfl _ _ rfl rfl rfl ?_))
                  exact ⟨⟨k + 1, va3, vc3, by omega, by go_num, rfl, hide (by rw [HBQ.out, allTo_snoc]; exact HBR3.out)⟩, by simp [intOf]; omega⟩
        · have HK : Hid (k = ls.length) := hide (by omega)
          have HV : Hid (BRow w1 wr va vc (gn + rs.length + ls.length) (allTo gn g held (tabsTo gn g held ls ls.length))) := hide (by have := hbr.out; rwa [HK.out] at this)
          have HKE : Hid (gn + rs.length + k = gn + rs.length + ls.length) := hide (by rw [HK.out])
          rw [HKE.out]
          have HTL := hide (tabsTo_len gn g held ls ls.length)
          have HVL : Hid (∀ W, Below wr.heap.size wr W → ∀ sg : Nat, sg < gn + rs.length + ls.length → ∃ b off, va = some ⟨b, off, none⟩ ∧ W.cell? ⟨b, off + sg, none⟩ = some (.bool (lookL gn g held ls sg))) := hide fun W hb sg hs => by
            have hlen := allTo_len gn g held (tabsTo gn g held ls ls.length)
            obtain ⟨vb, voff, hva, _, _, v1⟩ := ((HV.out.lies.any).below hb).bits (i := sg) (by rw [hlen, HTL.out, HHL.out]; omega)
            rw [bit_allTo] at v1
            exact ⟨vb, voff, hva, v1⟩
          have HBW := hide (Below.step HB1.out HV.out.below)
          have HBV := hide HV.out.below
          have e1 := (HW.out _ HV.out.below).2.1
          generalize hlook : lookL gn g held ls = look at *
          have HLQ := hide hlook
          clear hlook hbr HV HK HTL HKE
          rename_i wv0
          go_wp2_with fail
          clear e1
          rename World => wv
          go_loopw [17, 87] (fun v i wr => ∃ (k : Nat) (na : Option Addr) (nc : Nat), k ≤ rs.length ∧ i = .int .i64 k ∧ v = .slice na k nc ∧ Hid (BRow wv wr na nc k ((List.range k).map fun i => look (rgAt rs i).next.toNat))) (fun _ i _ => rs.length - (intOf i).toNat)
          case atStart => exact ⟨0, .none, 0, Nat.zero_le _, rfl, rfl, hide (BRow.none _)⟩
          case round =>
            obtain ⟨k, na, nc, hk, rfl, rfl, hbr⟩ := hrel
            by_cases hlt : k < rs.length
            · have hki : (k : Int) < (rs.length : Int) := by omega
              obtain ⟨b, off, hra, _, hbl, n0, n1⟩ := (HRR.out.below (Below.step HBW.out hbr.out.below)).pair hlt
              simp only [rgF, rgG] at n0 n1
              have HA := hide hra
              rw [HA.out]
              have HRA : Hid ((List.range (k + 1)).map (fun i => look (rgAt rs i).next.toNat) = (List.range k).map (fun i => look (rgAt rs i).next.toNat) ++ [look (rgAt rs k).next.toNat]) := hide (by rw [List.range_succ, List.map_append]; rfl)
              have hrx := HR.out.regs k hlt
              generalize rgAt rs k = rk at *
              obtain ⟨ri, rn⟩ := rk
              simp only at n0 n1 hrx HRA
              obtain ⟨sg, rfl⟩ := Int.eq_ofNat_of_zero_le (inR_iff.1 hrx).1
              have hsl := (inR_iff.1 hrx).2
              rw [Int.toNat_natCast] at HRA
              have HB6 : Hid (Below wr.heap.size wr (wr.alloc (.cells #[.bool ri, .int .i64 sg] 51))) := hide (below_alloc _ _)
              have x1 : (wr.alloc (.cells #[.bool ri, .int .i64 sg] 51)).cell? ⟨wr.heap.size, 1, none⟩ = some (.int .i64 sg) := by rw [blk_cell (blk_new _ _)]; rfl
              obtain ⟨vb, voff, hva, v1⟩ := HVL.out _ (Below.step hbr.out.below HB6.out) sg (by omega)
              have HVA := hide hva
              rw [HVA.out]
              generalize look sg = bv at *
              obtain ⟨na3, nc3, y3, happ, hbr3⟩ := (hbr.out.more HB6.out).app (below_alloc _ (.cells #[.bool bv] 4)) [bv] (some ⟨(wr.alloc (.cells #[.bool ri, .int .i64 sg] 51)).heap.size, 0, none⟩) 1 1 (k + 1) (Lies.blk (cs := bitsC [bv]) (blk_new _ (.cells #[.bool bv] 4)) trivial) rfl rfl (by omega)
              rw [show (wr.alloc (.cells #[.bool ri, .int .i64 sg] 51)).heap.size = wr.heap.size + 1 by simp] at happ
              have HBR3 := hide hbr3
              clear hbr3 hra hbl hva hrx
              go_wp2_with (at_builtin; (refine wpl_append_run happ rfl _ _ rfl rfl rfl ?_))
              exact ⟨⟨k + 1, na3, nc3, by omega, by go_num, rfl, hide (by rw [HRA.out]; exact HBR3.out)⟩, by simp [intOf]; omega⟩
            · have HNX : Hid (BRow wv wr na nc rs.length (nextL look rs)) := hide (by
                have e : k = rs.length := by omega
                have := hbr.out
                rw [e] at this
                exact this)
              have HKE : Hid (k = rs.length) := hide (by omega)
              rw [HKE.out]
              have e3 := (HW.out _ (Below.step HBV.out HNX.out.below)).2.2.2
              clear hbr
              go_wp2_with fail
              clear e3
              rename World => wz
              go_loopw [18, 103] (fun v i wr => ∃ (k : Nat) (oa' : Option Addr) (oc' : Nat), k ≤ os.length ∧ i = .int .i64 k ∧ v = .slice oa' k oc' ∧ Hid (BRow wz wr oa' oc' k ((List.range k).map fun i => look (outAt os i).toNat))) (fun _ i _ => os.length - (intOf i).toNat)
              case atStart => exact ⟨0, .none, 0, Nat.zero_le _, rfl, rfl, hide (BRow.none _)⟩
              case round =>
                obtain ⟨k, oa', oc', hk, rfl, rfl, hbr⟩ := hrel
                by_cases hlt : k < os.length
                · have hki : (k : Int) < (os.length : Int) := by omega
                  obtain ⟨b, off, hra, _, hbl, n0⟩ := (HO.out.below (Below.step HBW.out (Below.step HNX.out.below hbr.out.below))).ints hlt
                  have HA := hide hra
                  rw [HA.out]
                  have HRA : Hid ((List.range (k + 1)).map (fun i => look (outAt os i).toNat) = (List.range k).map (fun i => look (outAt os i).toNat) ++ [look (outAt os k).toNat]) := hide (by rw [List.range_succ, List.map_append]; rfl)
                  have hrx := HR.out.outs k hlt
                  generalize outAt os k = rn at *
                  obtain ⟨sg, rfl⟩ := Int.eq_ofNat_of_zero_le (inR_iff.1 hrx).1
                  have hsl := (inR_iff.1 hrx).2
                  rw [Int.toNat_natCast] at HRA
                  obtain ⟨vb, voff, hva, v1⟩ := HVL.out _ (Below.step HNX.out.below hbr.out.below) sg (by omega)
                  have HVA := hide hva
                  rw [HVA.out]
                  generalize look sg = bv at *
                  obtain ⟨na3, nc3, y3, happ, hbr3⟩ := hbr.out.app (below_alloc _ (.cells #[.bool bv] 4)) [bv] (some ⟨wr.heap.size, 0, none⟩) 1 1 (k + 1) (Lies.blk (cs := bitsC [bv]) (blk_new _ (.cells #[.bool bv] 4)) trivial) rfl rfl (by omega)
                  have HBR3 := hide hbr3
                  clear hbr3 hra hbl hva hrx
                  go_wp2_with (at_builtin; (refine wpl_append_run happ rfl _ _ rfl rfl rfl ?_))
                  exact ⟨⟨k + 1, na3, nc3, by omega, by go_num, rfl, hide (by rw [HRA.out]; exact HBR3.out)⟩, by simp [intOf]; omega⟩
                · have HOX : Hid (BRow wz wr oa' oc' os.length (outsL look os)) := hide (by
                    have e : k = os.length := by omega
                    have := hbr.out
                    rw [e] at this
                    exact this)
                  have HKO : Hid (k = os.length) := hide (by omega)
                  rw [HKO.out]
                  have HZ1 := hide HBW.out.size
                  have HZ2 := hide HNX.out.below.size
                  clear hbr
                  go_wp2_with fail
                  go_ret2
                  rw [HLQ.out]
                  refine ⟨⟨oa', oc', na, nc, rfl, HOX.out.lies.imp fun b _ hb => ?_, (HNX.out.lies.below HOX.out.below).imp fun b _ hb => ?_, HOX.out.cap⟩, Below.step HBW.out (Below.step HNX.out.below HOX.out.below)⟩
                  · have h1 := HZ1.out
                    have h2 := HZ2.out
                    have h3 : wz.heap.size ≤ b := hb
                    show w.heap.size ≤ b
                    omega
                  · have h1 := HZ1.out
                    have h3 : wv.heap.size ≤ b := hb
                    show w.heap.size ≤ b
                    omega
end Go.Proofs.YtndpehjbepfbkaaGreatDoor
