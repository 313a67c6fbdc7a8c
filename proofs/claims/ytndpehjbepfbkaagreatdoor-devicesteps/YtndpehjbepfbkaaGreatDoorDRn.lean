/-
  MEMORY: the reference's device. CONTRACT of its NewDevice.
-/
import Derived.Test.YtndpehjbepfbkaaGreatDoorDDv
import Derived.Test.YtndpehjbepfbkaaGreatDoorRPa
import Derived.Test.YtndpehjbepfbkaaGreatDoorLNew
set_option linter.unusedSimpArgs false
set_option linter.unusedVariables false
namespace Go.Proofs.YtndpehjbepfbkaaGreatDoor
open Go.RowKit

/-- the reference's device in memory: all that it leads to lies in blocks of which S holds -/
structure RefAt (R : Nat) (S : Nat → Prop) (w : World) (gn : Nat) (rs : List Rg) (ls : List Lt) (os : List Int) (held : List Bool) (ins outs : List Int) : Prop where
  me : ∃ (ra la oa ha ia ua : Option Addr) (rc lc oc hc ic uc : Nat) (A : Nat → Option Addr) (C : Nat → Nat), w.heap[R]? = some (.cells #[.int .i64 gn, .slice ra rs.length rc, .slice la ls.length lc, .slice oa os.length oc, .slice ha rs.length hc, .slice ia ins.length ic, .slice ua outs.length uc] 49 (0, 0)) ∧ Lies S w ra (rgsC rs) ∧ LutsAt S w la A C ls ∧ Lies S w oa (intsC os) ∧ Lies S w ha (bitsC held) ∧ Lies S w ia (intsC ins) ∧ Lies S w ua (intsC outs)
  len : held.length = rs.length
  own : ¬ S R
theorem RefAt.below {R : Nat} {S : Nat → Prop} {w w' : World} {gn : Nat} {rs : List Rg} {ls : List Lt} {os : List Int} {held : List Bool} {ins outs : List Int} (h : RefAt R S w gn rs ls os held ins outs) (hb : Below w.heap.size w w') : RefAt R S w' gn rs ls os held ins outs := by
  obtain ⟨ra, la, oa, ha, ia, ua, rc, lc, oc, hc, ic, uc, A, C, h1, h2, h3, h4, h5, h6, h7⟩ := h.me
  exact ⟨⟨ra, la, oa, ha, ia, ua, rc, lc, oc, hc, ic, uc, A, C, Below.blk hb h1, h2.below hb, h3.below hb, h4.below hb, h5.below hb, h6.below hb, h7.below hb⟩, h.len, h.own⟩
theorem RefAt.other {R : Nat} {S : Nat → Prop} {w w' : World} {gn : Nat} {rs : List Rg} {ls : List Lt} {os : List Int} {held : List Bool} {ins outs : List Int} {X : Nat} (h : RefAt R S w gn rs ls os held ins outs) (hb : Kept X w w') (hR : R ≠ X) (hS : ¬ S X) : RefAt R S w' gn rs ls os held ins outs := by
  obtain ⟨ra, la, oa, ha, ia, ua, rc, lc, oc, hc, ic, uc, A, C, h1, h2, h3, h4, h5, h6, h7⟩ := h.me
  have hk : ∀ b, S b → b < w.heap.size → w'.heap[b]? = w.heap[b]? := fun b hs hl => hb.block b hl fun e => hS (e ▸ hs)
  exact ⟨⟨ra, la, oa, ha, ia, ua, rc, lc, oc, hc, ic, uc, A, C, hb.blk h1 hR, h2.same hk, h3.same hk, h4.same hk, h5.same hk, h6.same hk, h7.same hk⟩, h.len, h.own⟩
theorem RefAt.imp {R : Nat} {S T : Nat → Prop} {w : World} {gn : Nat} {rs : List Rg} {ls : List Lt} {os : List Int} {held : List Bool} {ins outs : List Int} (h : RefAt R S w gn rs ls os held ins outs) (hb : ∀ b, b < w.heap.size → S b → T b) (hT : ¬ T R) : RefAt R T w gn rs ls os held ins outs := by
  obtain ⟨ra, la, oa, ha, ia, ua, rc, lc, oc, hc, ic, uc, A, C, h1, h2, h3, h4, h5, h6, h7⟩ := h.me
  exact ⟨⟨ra, la, oa, ha, ia, ua, rc, lc, oc, hc, ic, uc, A, C, h1, h2.imp hb, h3.imp hb, h4.imp hb, h5.imp hb, h6.imp hb, h7.imp hb⟩, h.len, hT⟩
theorem RefAt.lt {R : Nat} {S : Nat → Prop} {w : World} {gn : Nat} {rs : List Rg} {ls : List Lt} {os : List Int} {held : List Bool} {ins outs : List Int} (h : RefAt R S w gn rs ls os held ins outs) : R < w.heap.size := by
  obtain ⟨ra, la, oa, ha, ia, ua, rc, lc, oc, hc, ic, uc, A, C, h1, h2⟩ := h.me
  exact blk_lt h1
/-- it holds others now -/
theorem RefAt.turned {R : Nat} {S : Nat → Prop} {w : World} {gn : Nat} {rs : List Rg} {ls : List Lt} {os : List Int} {held held' : List Bool} {ins outs : List Int} (h : RefAt R S w gn rs ls os held ins outs) {ha : Option Addr} {hc : Nat} (hh : Lies S w ha (bitsC held')) (hl : held'.length = rs.length) : RefAt R S (w.setCell ⟨R, 4, none⟩ (.slice ha rs.length hc)) gn rs ls os held' ins outs := by
  obtain ⟨ra, la, oa, ha0, ia, ua, rc, lc, oc, hc0, ic, uc, A, C, h1, h2, h3, h4, h5, h6, h7⟩ := h.me
  have hk : ∀ b, S b → b < w.heap.size → (w.setCell ⟨R, 4, none⟩ (.slice ha rs.length hc)).heap[b]? = w.heap[b]? := fun b hs _ => Below.heap_setCell w ⟨R, 4, none⟩ _ b fun e => h.own (show S R from (show b = R from e) ▸ hs)
  refine ⟨⟨ra, la, oa, ha, ia, ua, rc, lc, oc, hc, ic, uc, A, C, ?_, h2.same hk, h3.same hk, h4.same hk, hh.same hk, h6.same hk, h7.same hk⟩, hl, h.own⟩
  rw [blk_set h1]; rfl

/-- what the reference's NewDevice comes to, of an image that was read -/
def RNewOf (gn : Nat) (rs : List Rg) (ls : List Lt) (os ins outs : List Int) (B : Nat) (e : Ending) (w' : World) : Prop :=
  (gn = wideTo ins ins.length ∧ os.length = wideTo outs outs.length ∧ ∃ R : Nat, e = .returned (.tuple #[.pointer (some ⟨R, 0, none⟩), .int .i64 0]) ∧ RefAt R (· ≠ R) w' gn rs ls os (initL rs) ins outs ∧ B ≤ R) ∨
  (¬ (gn = wideTo ins ins.length ∧ os.length = wideTo outs outs.length) ∧ e = .returned (.tuple #[.pointer none, .int .i64 2]))
/-- what it comes to -/
def NewR (l : List UInt8) (ins outs : List Int) (B : Nat) (e : Ending) (w' : World) : Prop :=
  ∃ (given : Nat) (rs : List Rg) (ls : List Lt) (os : List Int) (t : Tk), NetQd l given rs ls os t ∧
    ((RightT given rs ls os ∧ netB given rs ls os = l ∧ RNewOf given rs ls os ins outs B e w') ∨
      ((t ≠ ([], false) ∨ rightT given rs ls os = false ∨ netB given rs ls os ≠ l) ∧ e = .returned (.tuple #[.pointer none, .int .i64 3])))

set_option maxRecDepth 100000 in
set_option maxHeartbeats 12800000 in
theorem rdnew_at {S T : Nat → Prop} (l : List UInt8) (ins outs : List Int) (ia oa : Option Addr) (ic oc : Nat) (w : World) (hi : Lies S w ia (intsC ins)) (ho : Lies T w oa (intsC outs)) (hil : ins.length ≤ 10000) (hol : outs.length ≤ 10000) (hl : l.length ≤ 500) :
    Calls Tryz.prog 4 #[.string ⟨l.toArray⟩, .slice ia ins.length ic, .slice oa outs.length oc] w fun e w' => (((kindsOk ins ins.length && kindsOk outs outs.length) = false ∧ e = .returned (.tuple #[.pointer none, .int .i64 1])) ∨ ((kindsOk ins ins.length && kindsOk outs outs.length) = true ∧ NewR l ins outs w.heap.size e w')) ∧ Below w.heap.size w w' := by
  have HPA := hide (rparse_at l w hl)
  have HI := hide hi.any
  have HO := hide ho.any
  have HW := hide rwidth_any
  clear hi ho hl
  go_enter Tryz.func4, Tryz.ntmps4
  go_wp2_with fail
  go_loop [8, 11, 21] (fun m _ i => ∃ j q : Nat, j ≤ ins.length ∧ i = .int .i64 j ∧ m = .int .i64 q ∧ q ≤ 8 * j ∧ Hid (q = wideTo ins j) ∧ Hid (kindsOk ins j = true)) (fun _ _ i => ins.length - (intOf i).toNat)
  case atStart => exact ⟨0, 0, Nat.zero_le _, rfl, rfl, Nat.le_refl _, hide rfl, hide rfl⟩
  case round =>
    obtain ⟨j, q, hj, rfl, rfl, hq8, hq, hok⟩ := hrel
    by_cases hlt : j < ins.length
    · have hj1 : (j : Int) < (ins.length : Int) := by omega
      obtain ⟨b, off, ha, _, _, q0⟩ := HI.out.ints (i := j) hlt
      have HA := hide ha
      rw [HA.out]
      have HC := hide (HW.out (outAt ins j) w)
      have hw8 := wid_le (outAt ins j)
      have HST : Hid (wideTo ins (j + 1) = wideTo ins j + wid (outAt ins j)) := hide rfl
      have HKS : Hid (kindsOk ins (j + 1) = (wid (outAt ins j) != 0)) := hide (by simp only [kindsOk, hok.out, Bool.true_and])
      have HNO : Hid (kindsOk ins (j + 1) = false → kindsOk ins ins.length = false) := hide fun h => kindsOk_no h (by omega)
      generalize outAt ins j = kd at *
      generalize wid kd = wd at *
      clear ha
      by_cases h0 : wd = 0
      · subst h0
        have HN2 := hide (HNO.out (by rw [HKS.out]; rfl))
        go_wp2_with fail
        refine HC.out.mono ?_
        rintro e w1 ⟨rfl, rfl⟩
        go_wp2_with fail
        refine HC.out.mono ?_
        rintro e w1 ⟨rfl, rfl⟩
        go_wp2_with fail
        go_ret2
        exact ⟨.inl ⟨by rw [HN2.out]; rfl, rfl⟩, Below.refl _ _⟩
      · have hne : ((wd : Int) == 0) = false := by simp; omega
        have HN2 : Hid (kindsOk ins (j + 1) = true) := hide (by rw [HKS.out]; simp [h0])
        go_wp2_with fail
        refine HC.out.mono ?_
        rintro e w1 ⟨rfl, rfl⟩
        go_wp2_with fail
        refine HC.out.mono ?_
        rintro e w1 ⟨rfl, rfl⟩
        go_wp2_with fail
        exact ⟨⟨j + 1, q + wd, by omega, by go_num, by go_num, by omega, hide (by rw [HST.out, hq.out]), HN2⟩, by simp [intOf]; omega⟩
    · have HWA : Hid (q = wideTo ins ins.length) := hide (by
        have e : j = ins.length := by omega
        have := hq.out
        rwa [e] at this)
      have HKA : Hid (kindsOk ins ins.length = true) := hide (by
        have e : j = ins.length := by omega
        have := hok.out
        rwa [e] at this)
      have hqa : q ≤ 80000 := by omega
      clear hq hok hq8
      go_wp2_with fail
      go_loop [9, 13, 35] (fun m _ i => ∃ j p : Nat, j ≤ outs.length ∧ i = .int .i64 j ∧ m = .int .i64 p ∧ p ≤ 8 * j ∧ Hid (p = wideTo outs j) ∧ Hid (kindsOk outs j = true)) (fun _ _ i => outs.length - (intOf i).toNat)
      case atStart => exact ⟨0, 0, Nat.zero_le _, rfl, rfl, Nat.le_refl _, hide rfl, hide rfl⟩
      case round =>
        obtain ⟨j2, p, hj2, rfl, rfl, hp8, hp, hokp⟩ := hrel
        by_cases hlt2 : j2 < outs.length
        · have hj1 : (j2 : Int) < (outs.length : Int) := by omega
          obtain ⟨b, off, ha, _, _, q0⟩ := HO.out.ints (i := j2) hlt2
          have HA := hide ha
          rw [HA.out]
          have HC := hide (HW.out (outAt outs j2) w)
          have hw8 := wid_le (outAt outs j2)
          have HST : Hid (wideTo outs (j2 + 1) = wideTo outs j2 + wid (outAt outs j2)) := hide rfl
          have HKS : Hid (kindsOk outs (j2 + 1) = (wid (outAt outs j2) != 0)) := hide (by simp only [kindsOk, hokp.out, Bool.true_and])
          have HNO : Hid (kindsOk outs (j2 + 1) = false → kindsOk outs outs.length = false) := hide fun h => kindsOk_no h (by omega)
          generalize outAt outs j2 = kd at *
          generalize wid kd = wd at *
          clear ha
          by_cases h0 : wd = 0
          · subst h0
            have HN2 := hide (HNO.out (by rw [HKS.out]; rfl))
            go_wp2_with fail
            refine HC.out.mono ?_
            rintro e w1 ⟨rfl, rfl⟩
            go_wp2_with fail
            refine HC.out.mono ?_
            rintro e w1 ⟨rfl, rfl⟩
            go_wp2_with fail
            go_ret2
            exact ⟨.inl ⟨by rw [HN2.out, Bool.and_false], rfl⟩, Below.refl _ _⟩
          · have hne : ((wd : Int) == 0) = false := by simp; omega
            have HN2 : Hid (kindsOk outs (j2 + 1) = true) := hide (by rw [HKS.out]; simp [h0])
            go_wp2_with fail
            refine HC.out.mono ?_
            rintro e w1 ⟨rfl, rfl⟩
            go_wp2_with fail
            refine HC.out.mono ?_
            rintro e w1 ⟨rfl, rfl⟩
            go_wp2_with fail
            exact ⟨⟨j2 + 1, p + wd, by omega, by go_num, by go_num, by omega, hide (by rw [HST.out, hp.out]), HN2⟩, by simp [intOf]; omega⟩
        · have HWB : Hid (p = wideTo outs outs.length) := hide (by
            have e : j2 = outs.length := by omega
            have := hp.out
            rwa [e] at this)
          have HKB : Hid ((kindsOk ins ins.length && kindsOk outs outs.length) = true) := hide (by
            have e : j2 = outs.length := by omega
            have := hokp.out
            rw [e] at this
            rw [HKA.out, this]; rfl)
          have hpb : p ≤ 80000 := by omega
          clear hp hokp hp8 HKA HW
          go_wp2_with fail
          refine HPA.out.mono ?_
          rintro e w3 ⟨⟨gn, rs, ls, os, t, hrd, hc⟩, hb3⟩
          have HRD := hide hrd
          have HB3 := hide hb3
          clear hrd hb3 HPA
          rcases hc with ⟨hR, hN, ra, la, oa', rc, lc, oc', A, C, rfl, h1, h2, h3⟩ | ⟨hn, rfl⟩
          · have HR := hide hR
            have HN := hide hN
            have hgl := hR.g1
            have hol3 := hR.o1
            have hrl := hR.r1
            have H1 := hide h1
            have H2 := hide h2
            have H3 := hide h3
            clear hR hN h1 h2 h3
            have HX := hide (blk_new w3 (.cells #[.int .i64 gn, .slice ra rs.length rc, .slice la ls.length lc, .slice oa' os.length oc'] 44))
            have HBX := hide (below_alloc w3 (.cells #[.int .i64 gn, .slice ra rs.length rc, .slice la ls.length lc, .slice oa' os.length oc'] 44))
            by_cases hgi : gn = q
            · have he1 : ((gn : Int) != (q : Int)) = false := by simp [hgi]
              have HGI := hide hgi
              by_cases hoo : os.length = p
              · have he2 : ((os.length : Int) != (p : Int)) = false := by simp [hoo]
                have HOO := hide hoo
                clear hgi hoo
                have HB5 := hide (below_alloc (w3.alloc (.cells #[.int .i64 gn, .slice ra rs.length rc, .slice la ls.length lc, .slice oa' os.length oc'] 44)) (.cells #[.int .i64 gn, .slice ra rs.length rc, .slice la ls.length lc, .slice oa' os.length oc', .slice none 0 0, .slice ia ins.length ic, .slice oa outs.length oc] 49))
                have HN5 := hide (blk_new (w3.alloc (.cells #[.int .i64 gn, .slice ra rs.length rc, .slice la ls.length lc, .slice oa' os.length oc'] 44)) (.cells #[.int .i64 gn, .slice ra rs.length rc, .slice la ls.length lc, .slice oa' os.length oc', .slice none 0 0, .slice ia ins.length ic, .slice oa outs.length oc] 49))
                rw [show (w3.alloc (.cells #[.int .i64 gn, .slice ra rs.length rc, .slice la ls.length lc, .slice oa' os.length oc'] 44)).heap.size = w3.heap.size + 1 by simp] at HN5
                have HB35 := hide (Below.step HBX.out HB5.out)
                have HRZ : Hid (w3.heap.size < w3.heap.size + 1) := hide (Nat.lt_succ_self _)
                have HRW : Hid (w3.heap.size + 1 < ((w3.alloc (.cells #[.int .i64 gn, .slice ra rs.length rc, .slice la ls.length lc, .slice oa' os.length oc'] 44)).alloc (.cells #[.int .i64 gn, .slice ra rs.length rc, .slice la ls.length lc, .slice oa' os.length oc', .slice none 0 0, .slice ia ins.length ic, .slice oa outs.length oc] 49)).heap.size) := hide (blk_lt HN5.out)
                go_wp2_with fail
                clear HX HBX HB5 he1 he2
                generalize (w3.alloc (.cells #[.int .i64 gn, .slice ra rs.length rc, .slice la ls.length lc, .slice oa' os.length oc'] 44)).alloc (.cells #[.int .i64 gn, .slice ra rs.length rc, .slice la ls.length lc, .slice oa' os.length oc', .slice none 0 0, .slice ia ins.length ic, .slice oa outs.length oc] 49) = w5 at *
                generalize w3.heap.size + 1 = R at *
                have H15 : Hid (Lies (fun b => b < w5.heap.size ∧ b ≠ R) w5 ra (rgsC rs)) := hide ((H1.out.imp fun b hl _ => (⟨by have := HB35.out.size; omega, by have := HRZ.out; omega⟩ : b < w5.heap.size ∧ b ≠ R)).below HB35.out)
                go_loopw [78] (fun i wr => ∃ (k : Nat) (ha : Option Addr) (hc : Nat), k ≤ rs.length ∧ i = .int .i64 k ∧ Hid (RowS (· = R) 4 1 w5 wr ha hc k (bitsC ((List.range k).map fun i => (rgAt rs i).init))) ∧ Hid (wr.heap[R]? = some (.cells #[.int .i64 gn, .slice ra rs.length rc, .slice la ls.length lc, .slice oa' os.length oc', .slice ha k hc, .slice ia ins.length ic, .slice oa outs.length oc] 49 (0, 0)))) (fun i _ => rs.length - (intOf i).toNat)
                case atStart => exact ⟨0, none, 0, Nat.zero_le _, rfl, hide (RowS.none _ _ _ _), HN5⟩
                case round =>
                  obtain ⟨k, ha, hc, hk, rfl, hrow, hme⟩ := hrel
                  by_cases hlt3 : k < rs.length
                  · have hki : (k : Int) < (rs.length : Int) := by omega
                    obtain ⟨b, off, hra, _, hbl, n0, n1⟩ := (H15.out.same (w' := wr) fun x hx hxl => hrow.out.kept.block x hxl hx.2).pair hlt3
                    simp only [rgF, rgG] at n0 n1
                    have HA := hide hra
                    rw [HA.out]
                    have HINI : Hid ((List.range (k + 1)).map (fun i => (rgAt rs i).init) = (List.range k).map (fun i => (rgAt rs i).init) ++ [(rgAt rs k).init]) := hide (by rw [List.range_succ, List.map_append]; rfl)
                    generalize (rgAt rs k).init = bi at *
                    generalize (rgAt rs k).next = nx at n1
                    have HSX : Hid (∀ W, Below (wr.alloc (.cells #[.bool bi, .int .i64 nx] 51)).heap.size (wr.alloc (.cells #[.bool bi, .int .i64 nx] 51)) W → W.cell? ⟨wr.heap.size, 0, none⟩ = some (.bool bi)) := hide fun W hW => by rw [blk_cell (Below.blk hW (blk_new _ _))]; rfl
                    have HSY : Hid (∀ W : World, W.heap[wr.heap.size]? = (wr.alloc (.cells #[.bool bi, .int .i64 nx] 51)).heap[wr.heap.size]? → W.cell? ⟨wr.heap.size, 0, none⟩ = some (.bool bi)) := hide fun W hW => by rw [blk_cell (hW.trans (blk_new _ _))]; rfl
                    have HB6 : Hid (Below wr.heap.size wr (wr.alloc (.cells #[.bool bi, .int .i64 nx] 51))) := hide (below_alloc _ _)
                    have HR6 := hide (hrow.out.more (KeptS.of HB6.out) (fun x hx => by subst hx; exact HRW.out))
                    have HM6 := hide (Below.blk HB6.out hme.out)
                    have HWR : Hid (R < wr.heap.size) := hide (blk_lt hme.out)
                    have HXL : Hid (wr.heap.size < (wr.alloc (.cells #[.bool bi, .int .i64 nx] 51)).heap.size) := hide (by simp)
                    have HOW : Hid ((Value.slice ha k hc).ownBlock ≠ some wr.heap.size) := hide fun e => absurd (hrow.out.mine.lt _ e) (Nat.lt_irrefl _)
                    clear hra hbl hrow hme
                    go_wp2_with fail
                    refine wp_region_held_drew (S := fun W => W.cell? ⟨wr.heap.size, 0, none⟩ = some (.bool bi)) (by kernel_rfl) (HSX.out _ (Below.refl _ _).drew) (fun _ => ?_)
                    have HR7 : Hid (RowS (· = R) 4 1 w5 (wr.alloc (.cells #[.bool bi, .int .i64 nx] 51)).drew ha hc k (bitsC ((List.range k).map fun i => (rgAt rs i).init))) := hide (HR6.out.more (KeptS.of (Below.refl _ _).drew) (fun x hx => by subst hx; exact HRW.out))
                    have HM7 : Hid ((wr.alloc (.cells #[.bool bi, .int .i64 nx] 51)).drew.heap[R]? = some (.cells #[.int .i64 gn, .slice ra rs.length rc, .slice la ls.length lc, .slice oa' os.length oc', .slice ha k hc, .slice ia ins.length ic, .slice oa outs.length oc] 49 (0, 0))) := HM6
                    have HE7 : Hid ((wr.alloc (.cells #[.bool bi, .int .i64 nx] 51)).drew.heap[wr.heap.size]? = (wr.alloc (.cells #[.bool bi, .int .i64 nx] 51)).heap[wr.heap.size]?) := hide rfl
                    have HXL7 : Hid (wr.heap.size < (wr.alloc (.cells #[.bool bi, .int .i64 nx] 51)).drew.heap.size) := HXL
                    generalize (wr.alloc (.cells #[.bool bi, .int .i64 nx] 51)).heap[wr.heap.size]? = ox at *
                    clear HR6 HM6 HSX HB6 HXL
                    generalize (wr.alloc (.cells #[.bool bi, .int .i64 nx] 51)).drew = y1 at *
                    have HLW : Hid (RowS (· = R) 4 1 w5 y1 ha hc k (bitsC ((List.range k).map fun i => (rgAt rs i).init))) := HR7
                    have HRY : Hid (R < y1.heap.size) := hide (blk_lt HM7.out)
                    obtain ⟨ha2, hc2, w2, happ, hrow2, hnb, hgr⟩ := (HR7.out.more (KeptS.of (below_alloc y1 (.cells #[.bool bi] 4))) (fun x hx => by subst hx; exact HRW.out)).app (t := 47) info_bo (by decide) (by decide) rfl (by kernel_rfl) (fun x hx => by subst hx; exact HRW.out) (bitsC [bi]) (some ⟨y1.heap.size, 0, none⟩) 1 1 (k + 1) (Lies.blk (cs := bitsC [bi]) (blk_new y1 (.cells #[.bool bi] 4)) trivial) rfl (bits_one _) rfl (by omega)
                    rw [← bitsC_app, ← HINI.out] at hrow2
                    have HME2 : Hid (w2.heap[R]? = some (.cells #[.int .i64 gn, .slice ra rs.length rc, .slice la ls.length lc, .slice oa' os.length oc', .slice ha k hc, .slice ia ins.length ic, .slice oa outs.length oc] 49 (0, 0))) := hide ((hgr.block R (by simp; have := HRY.out; omega) (fun e => by have := HR7.out.mine.new _ e.symm; have := HRW.out; omega)).trans (Below.blk (below_alloc y1 _) HM7.out))
                    have HR2 := hide hrow2
                    have HCX1 := HSY.out y1 HE7.out
                    have HCX2 : Hid ((y1.alloc (.cells #[.bool bi] 4)).cell? ⟨wr.heap.size, 0, none⟩ = some (.bool bi)) := hide (cell_alloc HCX1 _)
                    have HCX3 : Hid (w2.cell? ⟨wr.heap.size, 0, none⟩ = some (.bool bi)) := hide (by
                      by_cases hown : some wr.heap.size = (Value.slice ha k hc).ownBlock
                      · exact absurd hown.symm HOW.out
                      · exact HSY.out w2 ((hgr.block wr.heap.size (by simp; have := HXL7.out; omega) hown).trans ((Below.block (below_alloc y1 _) _ HXL7.out).trans HE7.out)))
                    have HC1 := hide HCX1
                    clear HCX1 hrow2 hgr hnb
                    have q4 : y1.cell? ⟨R, 4, none⟩ = some (.slice ha k hc) := by rw [blk_cell HM7.out]; rfl
                    have q4a := cell_alloc q4 (.cells #[.bool bi] 4)
                    have z4 : w2.frozen? ⟨R, 4, none⟩ = false := blk_frozen HME2.out 4
                    have q42 : w2.cell? ⟨R, 4, none⟩ = some (.slice ha k hc) := by rw [blk_cell HME2.out]; rfl
                    have HC4 : Hid ((w2.setCell ⟨R, 4, none⟩ (.slice ha2 (k + 1) hc2)).cell? ⟨wr.heap.size, 0, none⟩ = some (.bool bi)) := hide ((cell_other (by have := HWR.out; omega)).trans HCX3.out)
                    refine wpAnyH_take (i := 0) (oi := ⟨some 82, _, _, _, _, _⟩) (v := (.pointer (some ⟨R, 0, none⟩))) rfl (by kernel_rfl) (by kernel_rfl) (by kernel_rfl) (fun _ _ _ h => h) (Or.inl ⟨by rfl, fun W hS => by (have s0 := hS; go_simp)⟩) HC1.out ?_
                    simp only [Act.put, List.setIfInBounds_toArray, List.set_cons_zero, List.set_cons_succ]
                    refine wpAnyH_take (i := 1) (oi := ⟨some 83, _, _, _, _, _⟩) (v := (.pointer (some ⟨R, 0, none⟩))) rfl (by kernel_rfl) (by kernel_rfl) (by kernel_rfl) (fun _ _ _ h => h) (Or.inl ⟨by rfl, fun W hS => by (have s0 := hS; go_simp)⟩) HC1.out ?_
                    simp only [Act.put, List.setIfInBounds_toArray, List.set_cons_zero, List.set_cons_succ]
                    refine wpAnyH_take (i := 5) (oi := ⟨some 87, _, _, _, _, _⟩) (v := (.pointer (some ⟨wr.heap.size, 0, none⟩))) rfl (by kernel_rfl) (by kernel_rfl) (by kernel_rfl) (fun _ _ _ h => h) (Or.inl ⟨by rfl, fun W hS => by (have s0 := hS; go_simp)⟩) HC1.out ?_
                    simp only [Act.put, List.setIfInBounds_toArray, List.set_cons_zero, List.set_cons_succ]
                    refine wpAnyH_take (i := 2) (oi := ⟨some 84, _, _, _, _, _⟩) (v := (.pointer (some ⟨R, 0, none⟩))) rfl (by kernel_rfl) (by kernel_rfl) (by kernel_rfl) (fun _ _ _ h => h) (Or.inl ⟨by rfl, fun W hS => by (have s0 := hS; go_simp)⟩) HC1.out ?_
                    simp only [Act.put, List.setIfInBounds_toArray, List.set_cons_zero, List.set_cons_succ]
                    refine wpAnyH_take (i := 6) (oi := ⟨some 88, _, _, _, _, _⟩) (v := (.bool bi)) rfl (by kernel_rfl) (by kernel_rfl) (by kernel_rfl) (fun _ _ _ h => h) (Or.inl ⟨by rfl, fun W hS => by (have s0 := hS; go_simp)⟩) HC1.out ?_
                    simp only [Act.put, List.setIfInBounds_toArray, List.set_cons_zero, List.set_cons_succ]
                    refine wpAnyH_take (i := 3) (oi := ⟨some 85, _, _, _, _, _⟩) (v := (.pointer (some ⟨R, 4, none⟩))) rfl (by kernel_rfl) (by kernel_rfl) (by kernel_rfl) (fun _ _ _ h => h) (Or.inl ⟨by rfl, fun W hS => by (have s0 := hS; go_simp)⟩) HC1.out ?_
                    simp only [Act.put, List.setIfInBounds_toArray, List.set_cons_zero, List.set_cons_succ]
                    refine wpAnyH_ready (rs := [4, 7]) (by kernel_rfl) (by simp) ?_
                    refine AllReadyH.cons rfl (fun K hK => ?_) (AllReadyH.cons rfl (fun K hK => ?_) AllReadyH.nil)
                    · go_simp
                      refine hK.out _ _ HC1.out (fun _ => ?_)
                      clear hK K
                      refine wpAnyH_ready (rs := [7]) (by kernel_rfl) (by simp) ?_
                      refine AllReadyH.cons rfl (fun K hK => ?_) AllReadyH.nil
                      go_simp
                      refine hK.out _ _ HCX2.out (fun _ => ?_)
                      clear hK K
                      refine wpAnyH_ready (rs := [8]) (by kernel_rfl) (by simp) ?_
                      refine AllReadyH.cons rfl (fun K hK => ?_) AllReadyH.nil
                      refine (if_pos (by kernel_rfl)).mpr ?_
                      refine wp_append_run happ _ _ rfl rfl rfl ?_
                      simp only [Act.put, List.setIfInBounds_toArray, List.set_cons_zero, List.set_cons_succ]
                      refine hK.out _ _ HCX3.out (fun _ => ?_)
                      clear hK K
                      refine wpAnyH_take (i := 9) (oi := ⟨some 91, _, _, _, _, _⟩) (v := (.pointer (some ⟨R, 0, none⟩))) rfl (by kernel_rfl) (by kernel_rfl) (by kernel_rfl) (fun _ _ _ h => h) (Or.inl ⟨by rfl, fun W hS => by (have s0 := hS; go_simp)⟩) HCX3.out ?_
                      simp only [Act.put, List.setIfInBounds_toArray, List.set_cons_zero, List.set_cons_succ]
                      refine wpAnyH_take (i := 10) (oi := ⟨some 92, _, _, _, _, _⟩) (v := (.pointer (some ⟨R, 4, none⟩))) rfl (by kernel_rfl) (by kernel_rfl) (by kernel_rfl) (fun _ _ _ h => h) (Or.inl ⟨by rfl, fun W hS => by (have s0 := hS; go_simp)⟩) HCX3.out ?_
                      simp only [Act.put, List.setIfInBounds_toArray, List.set_cons_zero, List.set_cons_succ]
                      refine wpAnyH_ready (rs := [11]) (by kernel_rfl) (by simp) ?_
                      refine AllReadyH.cons rfl (fun K hK => ?_) AllReadyH.nil
                      go_simp
                      refine hK.out _ _ HC4.out (fun _ => ?_)
                      clear hK K
                      refine wpAnyH_done (by kernel_rfl) ?_ _
                      go_wp2_with fail
                      refine ⟨⟨k + 1, ha2, hc2, by omega, by go_num, hide (HR2.out.more ((KeptS.refl _ _).set R 4 _ rfl) (fun x hx => by subst hx; exact HRW.out)), hide (by rw [blk_set HME2.out, ← HA.out]; rfl)⟩, by simp [intOf]; omega⟩
                    · go_simp
                      refine hK.out _ _ HCX2.out (fun _ => ?_)
                      clear hK K
                      refine wpAnyH_ready (rs := [4]) (by kernel_rfl) (by simp) ?_
                      refine AllReadyH.cons rfl (fun K hK => ?_) AllReadyH.nil
                      go_simp
                      refine hK.out _ _ HCX2.out (fun _ => ?_)
                      clear hK K
                      refine wpAnyH_ready (rs := [8]) (by kernel_rfl) (by simp) ?_
                      refine AllReadyH.cons rfl (fun K hK => ?_) AllReadyH.nil
                      refine (if_pos (by kernel_rfl)).mpr ?_
                      refine wp_append_run happ _ _ rfl rfl rfl ?_
                      simp only [Act.put, List.setIfInBounds_toArray, List.set_cons_zero, List.set_cons_succ]
                      refine hK.out _ _ HCX3.out (fun _ => ?_)
                      clear hK K
                      refine wpAnyH_take (i := 9) (oi := ⟨some 91, _, _, _, _, _⟩) (v := (.pointer (some ⟨R, 0, none⟩))) rfl (by kernel_rfl) (by kernel_rfl) (by kernel_rfl) (fun _ _ _ h => h) (Or.inl ⟨by rfl, fun W hS => by (have s0 := hS; go_simp)⟩) HCX3.out ?_
                      simp only [Act.put, List.setIfInBounds_toArray, List.set_cons_zero, List.set_cons_succ]
                      refine wpAnyH_take (i := 10) (oi := ⟨some 92, _, _, _, _, _⟩) (v := (.pointer (some ⟨R, 4, none⟩))) rfl (by kernel_rfl) (by kernel_rfl) (by kernel_rfl) (fun _ _ _ h => h) (Or.inl ⟨by rfl, fun W hS => by (have s0 := hS; go_simp)⟩) HCX3.out ?_
                      simp only [Act.put, List.setIfInBounds_toArray, List.set_cons_zero, List.set_cons_succ]
                      refine wpAnyH_ready (rs := [11]) (by kernel_rfl) (by simp) ?_
                      refine AllReadyH.cons rfl (fun K hK => ?_) AllReadyH.nil
                      go_simp
                      refine hK.out _ _ HC4.out (fun _ => ?_)
                      clear hK K
                      refine wpAnyH_done (by kernel_rfl) ?_ _
                      go_wp2_with fail
                      refine ⟨⟨k + 1, ha2, hc2, by omega, by go_num, hide (HR2.out.more ((KeptS.refl _ _).set R 4 _ rfl) (fun x hx => by subst hx; exact HRW.out)), hide (by rw [blk_set HME2.out, ← HA.out]; rfl)⟩, by simp [intOf]; omega⟩
                  · have HK : Hid (k = rs.length) := hide (by omega)
                    have HIN : Hid ((List.range rs.length).map (fun i => (rgAt rs i).init) = initL rs) := hide rfl
                    go_wp2_with fail
                    go_ret2
                    have hr := hrow.out
                    have hm := hme.out
                    rw [HK.out] at hr hm
                    rw [HIN.out] at hr
                    have hk5 : ∀ b, (b < w5.heap.size ∧ b ≠ R) → b < w5.heap.size → wr.heap[b]? = w5.heap[b]? := fun b hb hl => hr.kept.block b hl hb.2
                    have hbw : Below w.heap.size w wr := ⟨hr.kept.os.trans (Below.step HB3.out HB35.out).os, hr.kept.tape.trans (Below.step HB3.out HB35.out).tape, hr.kept.output.trans (Below.step HB3.out HB35.out).output, Nat.le_trans (Below.step HB3.out HB35.out).size hr.kept.size, fun x hx => (hr.kept.block x (by have := HB3.out.size; have := HB35.out.size; omega) (by have := HB3.out.size; have := HRZ.out; omega)).trans ((Below.step HB3.out HB35.out).block x hx)⟩
                    refine ⟨.inr ⟨HKB.out, gn, rs, ls, os, t, HRD.out, .inl ⟨HR.out, HN.out, .inl ⟨HGI.out.trans HWA.out, HOO.out.trans HWB.out, R, rfl, ⟨⟨ra, la, oa', ha, ia, oa, rc, lc, oc', hc, ic, oc, A, C, hm, ?_, ?_, ?_, ?_, ?_, ?_⟩, initL_len rs, fun h => h rfl⟩, by have := HB3.out.size; have := HRZ.out; omega⟩⟩⟩, hbw⟩
                    · exact (H15.out.same hk5).imp fun b _ hb => hb.2
                    · exact (((H2.out.imp fun b hl _ => (⟨by have := HB35.out.size; omega, by have := HRZ.out; omega⟩ : b < w5.heap.size ∧ b ≠ R)).below HB35.out).same hk5).imp fun b _ hb => hb.2
                    · exact (((H3.out.imp fun b hl _ => (⟨by have := HB35.out.size; omega, by have := HRZ.out; omega⟩ : b < w5.heap.size ∧ b ≠ R)).below HB35.out).same hk5).imp fun b _ hb => hb.2
                    · exact hr.lies.imp fun b _ hb => by have : w5.heap.size ≤ b := hb; have := HRW.out; omega
                    · exact ((((HI.out.imp fun b hl _ => hl).below HB3.out).imp fun b hl hb => (⟨by have := HB35.out.size; omega, by have := HB3.out.size; have : b < w.heap.size := hb; have := HRZ.out; omega⟩ : b < w5.heap.size ∧ b ≠ R)).below HB35.out |>.same hk5).imp fun b _ hb => hb.2
                    · exact ((((HO.out.imp fun b hl _ => hl).below HB3.out).imp fun b hl hb => (⟨by have := HB35.out.size; omega, by have := HB3.out.size; have : b < w.heap.size := hb; have := HRZ.out; omega⟩ : b < w5.heap.size ∧ b ≠ R)).below HB35.out |>.same hk5).imp fun b _ hb => hb.2
              · have he2 : ((os.length : Int) != (p : Int)) = true := by simp; omega
                have HOO : Hid (os.length ≠ p) := hide hoo
                clear hgi hoo
                go_wp2_with fail
                go_ret2
                exact ⟨.inr ⟨HKB.out, gn, rs, ls, os, t, HRD.out, .inl ⟨HR.out, HN.out, .inr ⟨fun h => HOO.out (h.2.trans HWB.out.symm), rfl⟩⟩⟩, Below.step HB3.out HBX.out⟩
            · have he1 : ((gn : Int) != (q : Int)) = true := by simp; omega
              have HGI : Hid (gn ≠ q) := hide hgi
              clear hgi
              go_wp2_with fail
              go_ret2
              exact ⟨.inr ⟨HKB.out, gn, rs, ls, os, t, HRD.out, .inl ⟨HR.out, HN.out, .inr ⟨fun h => HGI.out (h.1.trans HWA.out.symm), rfl⟩⟩⟩, Below.step HB3.out HBX.out⟩
          · have HN := hide hn
            clear hn
            go_wp2_with fail
            go_ret2
            exact ⟨.inr ⟨HKB.out, gn, rs, ls, os, t, HRD.out, .inr ⟨HN.out, rfl⟩⟩, Below.step HB3.out (below_alloc _ _)⟩
end Go.Proofs.YtndpehjbepfbkaaGreatDoor
