/-
  MEMORY: a device. CONTRACT of its bits.
-/
import Derived.Test.YtndpehjbepfbkaaGreatDoorDDv
set_option linter.unusedSimpArgs false
set_option linter.unusedVariables false
namespace Go.Proofs.YtndpehjbepfbkaaGreatDoor
open Go.RowKit

/-- a device in memory: all that it leads to lies in blocks of which S holds -/
structure DevAt (D : Nat) (s : NetQ) (S : Nat → Prop) (w : World) (gn : Nat) (rs : List Rg) (ls : List Lt) (os : List Int) (held : List Bool) (ins outs : List Int) : Prop where
  me : ∃ ia ic oa oc, w.heap[D]? = some (.cells #[.pointer (some ⟨s.p, 0, none⟩), .slice ia ins.length ic, .slice oa outs.length oc] 65 (0, 0)) ∧ Lies S w ia (intsC ins) ∧ Lies S w oa (intsC outs)
  sim : SimT s S w gn rs ls os held
  ne : D ≠ s.p
  own : ¬ S D
theorem DevAt.below {D : Nat} {s : NetQ} {S : Nat → Prop} {w w' : World} {gn : Nat} {rs : List Rg} {ls : List Lt} {os : List Int} {held : List Bool} {ins outs : List Int} (h : DevAt D s S w gn rs ls os held ins outs) (hb : Below w.heap.size w w') : DevAt D s S w' gn rs ls os held ins outs := by
  obtain ⟨ia, ic, oa, oc, h1, h2, h3⟩ := h.me
  exact ⟨⟨ia, ic, oa, oc, Below.blk hb h1, h2.below hb, h3.below hb⟩, h.sim.below hb, h.ne, h.own⟩
theorem DevAt.other {D : Nat} {s : NetQ} {S : Nat → Prop} {w w' : World} {gn : Nat} {rs : List Rg} {ls : List Lt} {os : List Int} {held : List Bool} {ins outs : List Int} {R : Nat} (h : DevAt D s S w gn rs ls os held ins outs) (hb : Kept R w w') (hD : D ≠ R) (hp : s.p ≠ R) (hS : ¬ S R) : DevAt D s S w' gn rs ls os held ins outs := by
  obtain ⟨ia, ic, oa, oc, h1, h2, h3⟩ := h.me
  have hk : ∀ b, S b → b < w.heap.size → w'.heap[b]? = w.heap[b]? := fun b hs hl => hb.block b hl fun e => hS (e ▸ hs)
  exact ⟨⟨ia, ic, oa, oc, hb.blk h1 hD, h2.same hk, h3.same hk⟩, h.sim.other hb hp hS, h.ne, h.own⟩
/-- its net goes on -/
theorem DevAt.turned {D : Nat} {s : NetQ} {S : Nat → Prop} {w w' : World} {gn : Nat} {rs : List Rg} {ls : List Lt} {os : List Int} {held held' : List Bool} {ins outs : List Int} (h : DevAt D s S w gn rs ls os held ins outs) (hk : Kept s.p w w') (hs : SimT s S w' gn rs ls os held') : DevAt D s S w' gn rs ls os held' ins outs := by
  obtain ⟨ia, ic, oa, oc, h1, h2, h3⟩ := h.me
  have hk2 : ∀ b, S b → b < w.heap.size → w'.heap[b]? = w.heap[b]? := fun b hs hl => hk.block b hl fun e => h.sim.own (e ▸ hs)
  exact ⟨⟨ia, ic, oa, oc, hk.blk h1 h.ne, h2.same hk2, h3.same hk2⟩, hs, h.ne, h.own⟩
theorem DevAt.lt {D : Nat} {s : NetQ} {S : Nat → Prop} {w : World} {gn : Nat} {rs : List Rg} {ls : List Lt} {os : List Int} {held : List Bool} {ins outs : List Int} (h : DevAt D s S w gn rs ls os held ins outs) : D < w.heap.size := by
  obtain ⟨ia, ic, oa, oc, h1, h2, h3⟩ := h.me
  exact blk_lt h1

theorem outAt_none {gv : List Int} {j : Nat} (h : ¬ j < gv.length) : outAt gv j = 0 := by
  unfold outAt; rw [List.getElem?_eq_none (by omega)]; rfl

set_option maxRecDepth 100000 in
set_option maxHeartbeats 6400000 in
theorem dbits_at {D : Nat} {s : NetQ} {S : Nat → Prop} {w : World} {gn : Nat} {rs : List Rg} {ls : List Lt} {os : List Int} {held : List Bool} {ins outs : List Int} (h : DevAt D s S w gn rs ls os held ins outs) (gv : List Int) (ga : Option Addr) (gc : Nat) (hg : Lies AnyB w ga (intsC gv)) (hil : ins.length ≤ 10000) (hgl : gv.length ≤ 1000000) :
    Calls Tryz.prog 25 #[.pointer (some ⟨D, 0, none⟩), .slice ga gv.length gc] w fun e w' => ∃ va vc, e = .returned (.slice va (wideTo ins ins.length) vc) ∧ BRow w w' va vc (wideTo ins ins.length) (givenTo ins gv ins.length) := by
  obtain ⟨ia, ic, oa, oc, h1, h2, h3⟩ := h.me
  have HI := hide h2
  have HG := hide hg
  have m1 : w.cell? ⟨D, 1, none⟩ = some (.slice ia ins.length ic) := by rw [blk_cell h1]; rfl
  clear h h1 h2 h3 hg
  go_enter Tryz.func25, Tryz.ntmps25
  go_wp2_with fail
  clear m1
  go_loopw [5, 14] (fun v i wr => ∃ (j : Nat) (va : Option Addr) (vc q : Nat), j ≤ ins.length ∧ i = .int .i64 j ∧ v = .slice va q vc ∧ q ≤ 8 * j ∧ Hid (q = wideTo ins j) ∧ Hid (BRow w wr va vc q (givenTo ins gv j))) (fun _ i _ => ins.length - (intOf i).toNat)
  case atStart => exact ⟨0, none, 0, 0, Nat.zero_le _, rfl, rfl, Nat.le_refl _, hide rfl, hide (BRow.none _)⟩
  case round =>
    obtain ⟨j, va, vc, q, hj, rfl, rfl, hq8, hq, hbr⟩ := hrel
    by_cases hlt : j < ins.length
    · have hj1 : (j : Int) < (ins.length : Int) := by omega
      obtain ⟨b, off, ha, _, _, q0⟩ := (HI.out.below hbr.out.below).ints (i := j) hlt
      have HA := hide ha
      rw [HA.out]
      have HWS : Hid (wideTo ins (j + 1) = wideTo ins j + wid (outAt ins j)) := hide rfl
      have HGS : Hid (givenTo ins gv (j + 1) = givenTo ins gv j ++ bitsTo (outAt gv j) (wid (outAt ins j))) := hide rfl
      have hw8 := wid_le (outAt ins j)
      generalize outAt ins j = kd at *
      clear ha
      by_cases hlg : j < gv.length
      · have hj2 : (j : Int) < (gv.length : Int) := by omega
        obtain ⟨b2, off2, hga, _, _, q2⟩ := (HG.out.below hbr.out.below).ints (i := j) hlg
        have HGA := hide hga
        rw [HGA.out]
        generalize outAt gv j = nv at *
        clear hga
        have HVB := hide (vbits_at kd nv wr)
        have HBL := hide (bitsTo_len nv (wid kd))
        generalize bitsTo nv (wid kd) = bl at *
        generalize wid kd = wd at *
        go_wp2_with fail
        refine HVB.out.mono ?_
        rintro e w1 ⟨va1, vc1, rfl, hb1⟩
        obtain ⟨va2, vc2, w2, happ, hbr2⟩ := hbr.out.app hb1.below bl va1 vc1 wd (q + wd) hb1.lies.any HBL.out rfl (by omega)
        have HBR2 := hide hbr2
        clear hbr2 hbr hb1 HVB q0 q2
        go_wp2_with (at_builtin; (refine wpl_append_run happ rfl _ _ rfl rfl rfl ?_))
        exact ⟨⟨j + 1, va2, vc2, q + wd, by omega, by go_num, rfl, by omega, hide (by rw [HWS.out, hq.out]), hide (by rw [HGS.out]; exact HBR2.out)⟩, by simp [intOf]; omega⟩
      · have HZ : Hid (outAt gv j = 0) := hide (outAt_none hlg)
        rw [HZ.out] at HGS
        have HVB := hide (vbits_at kd 0 wr)
        have HBL := hide (bitsTo_len 0 (wid kd))
        generalize bitsTo 0 (wid kd) = bl at *
        generalize wid kd = wd at *
        go_wp2_with fail
        refine HVB.out.mono ?_
        rintro e w1 ⟨va1, vc1, rfl, hb1⟩
        obtain ⟨va2, vc2, w2, happ, hbr2⟩ := hbr.out.app hb1.below bl va1 vc1 wd (q + wd) hb1.lies.any HBL.out rfl (by omega)
        have HBR2 := hide hbr2
        clear hbr2 hbr hb1 HVB q0
        go_wp2_with (at_builtin; (refine wpl_append_run happ rfl _ _ rfl rfl rfl ?_))
        exact ⟨⟨j + 1, va2, vc2, q + wd, by omega, by go_num, rfl, by omega, hide (by rw [HWS.out, hq.out]), hide (by rw [HGS.out]; exact HBR2.out)⟩, by simp [intOf]; omega⟩
    · have hjn : j = ins.length := by omega
      subst hjn
      have HQ := hide hq.out
      go_wp2_with fail
      go_ret
      rw [← HQ.out]
      exact ⟨va, vc, rfl, hbr.out⟩
end Go.Proofs.YtndpehjbepfbkaaGreatDoor
