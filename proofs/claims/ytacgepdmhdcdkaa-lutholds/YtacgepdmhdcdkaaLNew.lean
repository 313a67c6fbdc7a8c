/-
  CONTRACT of New.
-/
import Derived.Test.YtacgepdmhdcdkaaLCop
set_option linter.unusedSimpArgs false
set_option linter.unusedVariables false
namespace Go.Proofs.Ytacgepdmhdcdkaa
open Go.RowKit

set_option maxRecDepth 100000 in
set_option maxHeartbeats 1600000 in
theorem lnew_no {s : NetQ} {S : Nat → Prop} {w : World} {given : Int} {rs : List Rg} {ls : List Lt} {os : List Int} (h : NetT s S w given rs ls os) (hr1 : rs.length ≤ 20000) (hl1 : ls.length ≤ 20000) (ho1 : os.length ≤ 20000) (hr : rightT given rs ls os = false) :
    Calls Try.prog 6 #[.pointer (some ⟨s.p, 0, none⟩)] w fun e w' => e = .returned (.tuple #[.pointer none, .iface 54 (.int .i64 1)]) ∧ Below w.heap.size w w' := by
  have HC := LRight_at h hr1 hl1 ho1
  rw [hr] at HC
  have HC := hide HC
  clear h hr
  go_enter Try.func6, Try.ntmps6
  go_wp2_with fail
  refine HC.out.mono ?_
  rintro e w1 ⟨rfl, hb⟩
  have HB := hide hb
  clear hb
  go_wp2_with fail
  go_ret2
  exact ⟨rfl, HB.out⟩

/-- made, of a net of tables, so far -/
structure NwT (w wr : World) (p H : Nat) (given : Int) (ra : Option Addr) (rc : Nat) (la : Option Addr) (lc : Nat) (oa : Option Addr) (oc : Nat) (A : Nat → Option Addr) (C : Nat → Nat) (rs : List Rg) (ls : List Lt) (os : List Int) (k : Nat) : Prop where
  below : Below w.heap.size w wr
  me : wr.heap[p]? = some (.cells #[.int .i64 given, .slice ra rs.length rc, .slice la ls.length lc, .slice oa os.length oc, .slice (some ⟨H, 0, none⟩) rs.length rs.length] 57 (0, 0))
  hold : wr.heap[H]? = some (.cells (bitsC (rowTo (fun i => (rgAt rs i).init) rs.length k)).toArray 4 (0, 0))
  regs : Lies (fun b => w.heap.size ≤ b ∧ b ≠ p ∧ b ≠ H) wr ra (rgsC rs)
  luts : LutsAt (fun b => w.heap.size ≤ b ∧ b ≠ p ∧ b ≠ H) wr la A C ls
  outs : Lies (fun b => w.heap.size ≤ b ∧ b ≠ p ∧ b ≠ H) wr oa (intsC os)
  ne : H ≠ p
  pB : w.heap.size ≤ p
  hB : w.heap.size ≤ H
theorem NwT.next {w wr : World} {p H : Nat} {given : Int} {ra : Option Addr} {rc : Nat} {la : Option Addr} {lc : Nat} {oa : Option Addr} {oc : Nat} {A : Nat → Option Addr} {C : Nat → Nat} {rs : List Rg} {ls : List Lt} {os : List Int} {k : Nat} (c : NwT w wr p H given ra rc la lc oa oc A C rs ls os k) {b : Bool} (hb : (rgAt rs k).init = b) {wy : World} (hy : Below (wr.setCell ⟨H, k, none⟩ (.bool b)).heap.size (wr.setCell ⟨H, k, none⟩ (.bool b)) wy) : NwT w wy p H given ra rc la lc oa oc A C rs ls os (k + 1) := by
  have hk : ∀ b', (w.heap.size ≤ b' ∧ b' ≠ p ∧ b' ≠ H) → b' < wr.heap.size → (wr.setCell ⟨H, k, none⟩ (.bool b)).heap[b']? = wr.heap[b']? := fun b' h _ => Below.heap_setCell wr ⟨H, k, none⟩ _ b' h.2.2
  refine ⟨(c.below.setCell c.hB _).trans (hy.mono (by simpa [World.setCell] using c.below.size)), Below.blk hy ((Below.heap_setCell wr ⟨H, k, none⟩ _ p (fun e => c.ne e.symm)).trans c.me), Below.blk hy ?_, (c.regs.same hk).below hy, (c.luts.same hk).below hy, (c.outs.same hk).below hy, c.ne, c.pB, c.hB⟩
  have := rowTo_set (fun i => (rgAt rs i).init) rs.length k
  simp only [hb] at this
  rw [blk_set c.hold, bits_set, this]
theorem NwT.sim {w wr : World} {p H : Nat} {given : Int} {ra : Option Addr} {rc : Nat} {la : Option Addr} {lc : Nat} {oa : Option Addr} {oc : Nat} {A : Nat → Option Addr} {C : Nat → Nat} {rs : List Rg} {ls : List Lt} {os : List Int} (c : NwT w wr p H given ra rc la lc oa oc A C rs ls os rs.length) : SimT ⟨p, ra, rc, la, lc, oa, oc, A, C⟩ (fun b => w.heap.size ≤ b ∧ b ≠ p) wr given rs ls os (initL rs) := by
  have hi : ∀ b, b < wr.heap.size → (w.heap.size ≤ b ∧ b ≠ p ∧ b ≠ H) → (w.heap.size ≤ b ∧ b ≠ p) := fun b _ h => ⟨h.1, h.2.1⟩
  refine ⟨⟨some ⟨H, 0, none⟩, rs.length, c.me, ?_⟩, c.regs.imp hi, c.luts.imp hi, c.outs.imp hi, initL_len rs, fun h => h.2 rfl⟩
  have := c.hold
  rw [rowTo_all] at this
  exact Lies.blk this ⟨c.hB, c.ne⟩

set_option maxRecDepth 100000 in
set_option maxHeartbeats 6400000 in
theorem lnew_at {s : NetQ} {S : Nat → Prop} {w : World} {gn : Nat} {rs : List Rg} {ls : List Lt} {os : List Int} (h : NetT s S w gn rs ls os) (hr : RightT gn rs ls os) :
    Calls Try.prog 6 #[.pointer (some ⟨s.p, 0, none⟩)] w fun e w' => (∃ sp : NetQ, e = .returned (.tuple #[.pointer (some ⟨sp.p, 0, none⟩), .nilIface]) ∧ SimT sp (fun b => w.heap.size ≤ b ∧ b ≠ sp.p) w' gn rs ls os (initL rs) ∧ w.heap.size ≤ sp.p) ∧ Below w.heap.size w w' := by
  have HC := LRight_at h hr.r1 hr.l1 hr.o1
  rw [rightT_iff.2 hr] at HC
  have HC := hide HC
  have H := hide h
  have HR := hide hr
  have hrl := hr.r1
  have hmk := mk_bits rs.length hr.r1
  clear h hr
  go_enter Try.func6, Try.ntmps6
  go_wp2_with fail
  refine HC.out.mono ?_
  rintro e w1 ⟨rfl, hb⟩
  have HB := hide hb
  clear hb HC
  go_wp2_with fail
  go_cut [4] from 11 to 21 (fun v wx => ∃ p H ra rc la lc oa oc A C, v = .pointer (some ⟨p, 0, none⟩) ∧ Hid (NwT w wx p H gn ra rc la lc oa oc A C rs ls os 0))
  case first =>
    have HSW : Hid (∀ W, Below w1.heap.size w1 W → W.cell? ⟨s.p, 1, none⟩ = some (.slice s.ra rs.length s.rc)) := hide fun W hb => ((H.out.below HB.out).below hb).c1
    have HBw2 : Hid (Below w1.heap.size w1 w1.drew) := hide (Below.refl _ _).drew
    refine wp_region_held_drew (S := fun W => W.cell? ⟨s.p, 1, none⟩ = some (.slice s.ra rs.length s.rc)) (by kernel_rfl) (HSW.out _ HBw2.out) (fun _ => ?_)
    generalize w1.drew = w2 at *
    refine wpAnyH_take (i := 0) (oi := ⟨some 11, _, _, _, _, _⟩) (v := (.pointer (some ⟨s.p, 0, none⟩))) rfl (by kernel_rfl) (by kernel_rfl) (by kernel_rfl) (fun _ _ _ h => h) (Or.inl ⟨by rfl, fun W hS => by (have s0 := hS; go_simp)⟩) (HSW.out _ HBw2.out) ?_
    simp only [Act.put, List.setIfInBounds_toArray, List.set_cons_zero, List.set_cons_succ]
    refine wpAnyH_take (i := 2) (oi := ⟨some 13, _, _, _, _, _⟩) (v := (.pointer (some ⟨s.p, 0, none⟩))) rfl (by kernel_rfl) (by kernel_rfl) (by kernel_rfl) (fun _ _ _ h => h) (Or.inl ⟨by rfl, fun W hS => by (have s0 := hS; go_simp)⟩) (HSW.out _ HBw2.out) ?_
    simp only [Act.put, List.setIfInBounds_toArray, List.set_cons_zero, List.set_cons_succ]
    refine wpAnyH_take (i := 3) (oi := ⟨some 14, _, _, _, _, _⟩) (v := (.pointer (some ⟨s.p, 0, none⟩))) rfl (by kernel_rfl) (by kernel_rfl) (by kernel_rfl) (fun _ _ _ h => h) (Or.inl ⟨by rfl, fun W hS => by (have s0 := hS; go_simp)⟩) (HSW.out _ HBw2.out) ?_
    simp only [Act.put, List.setIfInBounds_toArray, List.set_cons_zero, List.set_cons_succ]
    refine wpAnyH_take (i := 4) (oi := ⟨some 15, _, _, _, _, _⟩) (v := (.pointer (some ⟨s.p, 1, none⟩))) rfl (by kernel_rfl) (by kernel_rfl) (by kernel_rfl) (fun _ _ _ h => h) (Or.inl ⟨by rfl, fun W hS => by (have s0 := hS; go_simp)⟩) (HSW.out _ HBw2.out) ?_
    simp only [Act.put, List.setIfInBounds_toArray, List.set_cons_zero, List.set_cons_succ]
    refine wpAnyH_take (i := 5) (oi := ⟨some 16, _, _, _, _, _⟩) (v := (.slice s.ra rs.length s.rc)) rfl (by kernel_rfl) (by kernel_rfl) (by kernel_rfl) (fun _ _ _ h => h) (Or.inl ⟨by rfl, fun W hS => by (have s0 := hS; go_simp)⟩) (HSW.out _ HBw2.out) ?_
    simp only [Act.put, List.setIfInBounds_toArray, List.set_cons_zero, List.set_cons_succ]
    refine wpAnyH_take (i := 6) (oi := ⟨some 17, _, _, _, _, _⟩) (v := (.int .i64 rs.length)) rfl (by kernel_rfl) (by kernel_rfl) (by kernel_rfl) (fun _ _ _ h => h) (Or.inl ⟨by rfl, fun W hS => by (have s0 := hS; go_simp)⟩) (HSW.out _ HBw2.out) ?_
    simp only [Act.put, List.setIfInBounds_toArray, List.set_cons_zero, List.set_cons_succ]
    refine wpAnyH_ready (rs := [1, 7]) (by kernel_rfl) (by simp) ?_
    refine AllReadyH.cons rfl (fun K hK => ?_) (AllReadyH.cons rfl (fun K hK => ?_) AllReadyH.nil)
    · skip
      go_simp
      refine (copied_at ((H.out.below HB.out).below HBw2.out) HR.out.r1 HR.out.l1 HR.out.o1 (fun i hi => (rightL_iff.1 (HR.out.luts i hi)).n4)).mono ?_
      rintro e w3 ⟨⟨ra, rc, la, lc, oa, oc, A, C, rfl, h1, h2, h3⟩, hb⟩
      have HR1 := hide (h1.imp (fun b hlt hS => (⟨hS, hlt⟩ : w2.heap.size ≤ b ∧ b < w3.heap.size)))
      have HL1 := hide (h2.imp (fun b hlt hS => (⟨hS, hlt⟩ : w2.heap.size ≤ b ∧ b < w3.heap.size)))
      have HO1 := hide (h3.imp (fun b hlt hS => (⟨hS, hlt⟩ : w2.heap.size ≤ b ∧ b < w3.heap.size)))
      have HSw3 := hide hb
      have HBw3 : Hid (Below w1.heap.size w1 w3) := hide (Below.step HBw2.out hb)
      clear h1 h2 h3 hb
      refine hK.out _ _ (HSW.out _ HBw3.out) (fun _ => ?_)
      clear hK K
      refine wpAnyH_ready (rs := [7]) (by kernel_rfl) (by simp) ?_
      refine AllReadyH.cons rfl (fun K hK => ?_) AllReadyH.nil
      go_simp
      have HHH := hide (blk_new w3 (.cells (bitsC (List.replicate rs.length false)).toArray 4))
      have HHL : Hid (w3.heap.size < (w3.alloc (.cells (bitsC (List.replicate rs.length false)).toArray 4)).heap.size) := hide (by simp)
      have HSw4 : Hid (Below w3.heap.size w3 (w3.alloc (.cells (bitsC (List.replicate rs.length false)).toArray 4))) := hide (below_alloc _ _)
      have HBw4 : Hid (Below w1.heap.size w1 (w3.alloc (.cells (bitsC (List.replicate rs.length false)).toArray 4))) := hide (Below.step HBw3.out HSw4.out)
      refine hK.out _ _ (HSW.out _ HBw4.out) (fun _ => ?_)
      clear hK K
      generalize (w3.alloc (.cells (bitsC (List.replicate rs.length false)).toArray 4)) = w4 at *
      refine wpAnyH_take (i := 8) (oi := ⟨some 19, _, _, _, _, _⟩) (v := (.agg #[.int .i64 gn, .slice ra rs.length rc, .slice la ls.length lc, .slice oa os.length oc, .slice (some ⟨w3.heap.size, 0, none⟩) rs.length rs.length])) rfl (by kernel_rfl) (by kernel_rfl) (by kernel_rfl) (fun _ _ _ h => h) (Or.inl ⟨by rfl, fun W hS => by (have s0 := hS; go_simp)⟩) (HSW.out _ HBw4.out) ?_
      simp only [Act.put, List.setIfInBounds_toArray, List.set_cons_zero, List.set_cons_succ]
      refine wpAnyH_ready (rs := [9]) (by kernel_rfl) (by simp) ?_
      refine AllReadyH.cons rfl (fun K hK => ?_) AllReadyH.nil
      go_simp
      have HPP := hide (blk_new w4 (.cells #[.int .i64 gn, .slice ra rs.length rc, .slice la ls.length lc, .slice oa os.length oc, .slice (some ⟨w3.heap.size, 0, none⟩) rs.length rs.length] 57))
      have HSw5 : Hid (Below w4.heap.size w4 (w4.alloc (.cells #[.int .i64 gn, .slice ra rs.length rc, .slice la ls.length lc, .slice oa os.length oc, .slice (some ⟨w3.heap.size, 0, none⟩) rs.length rs.length] 57))) := hide (below_alloc _ _)
      have HBw5 : Hid (Below w1.heap.size w1 (w4.alloc (.cells #[.int .i64 gn, .slice ra rs.length rc, .slice la ls.length lc, .slice oa os.length oc, .slice (some ⟨w3.heap.size, 0, none⟩) rs.length rs.length] 57))) := hide (Below.step HBw4.out HSw5.out)
      refine hK.out _ _ (HSW.out _ HBw5.out) (fun _ => ?_)
      clear hK K
      generalize (w4.alloc (.cells #[.int .i64 gn, .slice ra rs.length rc, .slice la ls.length lc, .slice oa os.length oc, .slice (some ⟨w3.heap.size, 0, none⟩) rs.length rs.length] 57)) = w5 at *
      refine wpAnyH_take (i := 10) (oi := ⟨some 4, _, _, _, _, _⟩) (v := (.pointer (some ⟨w4.heap.size, 0, none⟩))) rfl (by kernel_rfl) (by kernel_rfl) (by kernel_rfl) (fun _ _ _ h => h) (Or.inl ⟨by rfl, fun W hS => by (have s0 := hS; go_simp)⟩) (HSW.out _ HBw5.out) ?_
      simp only [Act.put, List.setIfInBounds_toArray, List.set_cons_zero, List.set_cons_succ]
      refine wpAnyH_done (by kernel_rfl) ?_ _
      go_wp2_with fail
      go_meet
      case rel =>
        have z3 := HSw3.out.size
        have z4 := HSw4.out.size
        have z5 := HSw5.out.size
        have zb := HB.out.size
        have zc := HBw2.out.size
        have zh := HHL.out
        refine ⟨w4.heap.size, w3.heap.size, ra, rc, la, lc, oa, oc, A, C, rfl, hide ⟨Below.step HB.out HBw5.out, HPP.out, by rw [rowTo_zero]; exact (Below.blk HSw5.out HHH.out), ((HR1.out.below HSw4.out).below HSw5.out).imp (fun b _ hb => (⟨by omega, by omega, by omega⟩ : w.heap.size ≤ b ∧ b ≠ w4.heap.size ∧ b ≠ w3.heap.size)), ((HL1.out.below HSw4.out).below HSw5.out).imp (fun b _ hb => (⟨by omega, by omega, by omega⟩ : w.heap.size ≤ b ∧ b ≠ w4.heap.size ∧ b ≠ w3.heap.size)), ((HO1.out.below HSw4.out).below HSw5.out).imp (fun b _ hb => (⟨by omega, by omega, by omega⟩ : w.heap.size ≤ b ∧ b ≠ w4.heap.size ∧ b ≠ w3.heap.size)), by omega, by omega, by omega⟩⟩
    · skip
      go_simp
      have HHH := hide (blk_new w2 (.cells (bitsC (List.replicate rs.length false)).toArray 4))
      have HHL : Hid (w2.heap.size < (w2.alloc (.cells (bitsC (List.replicate rs.length false)).toArray 4)).heap.size) := hide (by simp)
      have HSw3 : Hid (Below w2.heap.size w2 (w2.alloc (.cells (bitsC (List.replicate rs.length false)).toArray 4))) := hide (below_alloc _ _)
      have HBw3 : Hid (Below w1.heap.size w1 (w2.alloc (.cells (bitsC (List.replicate rs.length false)).toArray 4))) := hide (Below.step HBw2.out HSw3.out)
      refine hK.out _ _ (HSW.out _ HBw3.out) (fun _ => ?_)
      clear hK K
      generalize (w2.alloc (.cells (bitsC (List.replicate rs.length false)).toArray 4)) = w3 at *
      refine wpAnyH_ready (rs := [1]) (by kernel_rfl) (by simp) ?_
      refine AllReadyH.cons rfl (fun K hK => ?_) AllReadyH.nil
      go_simp
      refine (copied_at ((H.out.below HB.out).below HBw3.out) HR.out.r1 HR.out.l1 HR.out.o1 (fun i hi => (rightL_iff.1 (HR.out.luts i hi)).n4)).mono ?_
      rintro e w4 ⟨⟨ra, rc, la, lc, oa, oc, A, C, rfl, h1, h2, h3⟩, hb⟩
      have HR1 := hide (h1.imp (fun b hlt hS => (⟨hS, hlt⟩ : w3.heap.size ≤ b ∧ b < w4.heap.size)))
      have HL1 := hide (h2.imp (fun b hlt hS => (⟨hS, hlt⟩ : w3.heap.size ≤ b ∧ b < w4.heap.size)))
      have HO1 := hide (h3.imp (fun b hlt hS => (⟨hS, hlt⟩ : w3.heap.size ≤ b ∧ b < w4.heap.size)))
      have HSw4 := hide hb
      have HBw4 : Hid (Below w1.heap.size w1 w4) := hide (Below.step HBw3.out hb)
      clear h1 h2 h3 hb
      refine hK.out _ _ (HSW.out _ HBw4.out) (fun _ => ?_)
      clear hK K
      refine wpAnyH_take (i := 8) (oi := ⟨some 19, _, _, _, _, _⟩) (v := (.agg #[.int .i64 gn, .slice ra rs.length rc, .slice la ls.length lc, .slice oa os.length oc, .slice (some ⟨w2.heap.size, 0, none⟩) rs.length rs.length])) rfl (by kernel_rfl) (by kernel_rfl) (by kernel_rfl) (fun _ _ _ h => h) (Or.inl ⟨by rfl, fun W hS => by (have s0 := hS; go_simp)⟩) (HSW.out _ HBw4.out) ?_
      simp only [Act.put, List.setIfInBounds_toArray, List.set_cons_zero, List.set_cons_succ]
      refine wpAnyH_ready (rs := [9]) (by kernel_rfl) (by simp) ?_
      refine AllReadyH.cons rfl (fun K hK => ?_) AllReadyH.nil
      go_simp
      have HPP := hide (blk_new w4 (.cells #[.int .i64 gn, .slice ra rs.length rc, .slice la ls.length lc, .slice oa os.length oc, .slice (some ⟨w2.heap.size, 0, none⟩) rs.length rs.length] 57))
      have HSw5 : Hid (Below w4.heap.size w4 (w4.alloc (.cells #[.int .i64 gn, .slice ra rs.length rc, .slice la ls.length lc, .slice oa os.length oc, .slice (some ⟨w2.heap.size, 0, none⟩) rs.length rs.length] 57))) := hide (below_alloc _ _)
      have HBw5 : Hid (Below w1.heap.size w1 (w4.alloc (.cells #[.int .i64 gn, .slice ra rs.length rc, .slice la ls.length lc, .slice oa os.length oc, .slice (some ⟨w2.heap.size, 0, none⟩) rs.length rs.length] 57))) := hide (Below.step HBw4.out HSw5.out)
      refine hK.out _ _ (HSW.out _ HBw5.out) (fun _ => ?_)
      clear hK K
      generalize (w4.alloc (.cells #[.int .i64 gn, .slice ra rs.length rc, .slice la ls.length lc, .slice oa os.length oc, .slice (some ⟨w2.heap.size, 0, none⟩) rs.length rs.length] 57)) = w5 at *
      refine wpAnyH_take (i := 10) (oi := ⟨some 4, _, _, _, _, _⟩) (v := (.pointer (some ⟨w4.heap.size, 0, none⟩))) rfl (by kernel_rfl) (by kernel_rfl) (by kernel_rfl) (fun _ _ _ h => h) (Or.inl ⟨by rfl, fun W hS => by (have s0 := hS; go_simp)⟩) (HSW.out _ HBw5.out) ?_
      simp only [Act.put, List.setIfInBounds_toArray, List.set_cons_zero, List.set_cons_succ]
      refine wpAnyH_done (by kernel_rfl) ?_ _
      go_wp2_with fail
      go_meet
      case rel =>
        have z3 := HSw3.out.size
        have z4 := HSw4.out.size
        have z5 := HSw5.out.size
        have zb := HB.out.size
        have zc := HBw2.out.size
        have zh := HHL.out
        refine ⟨w4.heap.size, w2.heap.size, ra, rc, la, lc, oa, oc, A, C, rfl, hide ⟨Below.step HB.out HBw5.out, HPP.out, by rw [rowTo_zero]; exact (Below.blk HSw5.out (Below.blk HSw4.out HHH.out)), (HR1.out.below HSw5.out).imp (fun b _ hb => (⟨by omega, by omega, by omega⟩ : w.heap.size ≤ b ∧ b ≠ w4.heap.size ∧ b ≠ w2.heap.size)), (HL1.out.below HSw5.out).imp (fun b _ hb => (⟨by omega, by omega, by omega⟩ : w.heap.size ≤ b ∧ b ≠ w4.heap.size ∧ b ≠ w2.heap.size)), (HO1.out.below HSw5.out).imp (fun b _ hb => (⟨by omega, by omega, by omega⟩ : w.heap.size ≤ b ∧ b ≠ w4.heap.size ∧ b ≠ w2.heap.size)), by omega, by omega, by omega⟩⟩
  case rest =>
    obtain ⟨p, Hh, ra, rc, la, lc, oa, oc, A, C, rfl, hnw⟩ := hcut
    have m1 := (H.out.below hnw.out.below).c1
    clear hmk
    go_wp2_with fail
    clear m1
    go_loopw [5, 6, 26] (fun _ _ i wr => ∃ k : Nat, k ≤ rs.length ∧ i = .int .i64 k ∧ Hid (NwT w wr p Hh gn ra rc la lc oa oc A C rs ls os k)) (fun _ _ i _ => rs.length - (intOf i).toNat)
    case atStart => exact ⟨0, Nat.zero_le _, rfl, hnw⟩
    case round =>
      clear hnw
      obtain ⟨k, hk, rfl, hc⟩ := hrel
      by_cases hlt : k < rs.length
      · have hki : (k : Int) < (rs.length : Int) := by omega
        obtain ⟨b, off, hra, _, hbl, n0, n1⟩ := (H.out.regs.below hc.out.below).pair hlt
        simp only [rgF, rgG] at n0 n1
        have HA := hide hra
        rw [HA.out]
        have hpl := blk_lt hc.out.me
        have hhl := blk_lt hc.out.hold
        have HIN : Hid ((rgAt rs k).init = (rgAt rs k).init) := hide rfl
        generalize hini : (rgAt rs k).init = bi at n0 HIN
        have HINI := hide hini
        generalize (rgAt rs k).next = nx at n1
        clear hra hbl hini HIN
        have m4 : (wr.alloc (.cells #[.bool bi, .int .i64 nx] 59)).cell? ⟨p, 4, none⟩ = some (.slice (some ⟨Hh, 0, none⟩) rs.length rs.length) := cell_alloc (by rw [blk_cell hc.out.me]; rfl) _
        have mh : (wr.alloc (.cells #[.bool bi, .int .i64 nx] 59)).cell? ⟨Hh, k, none⟩ = some (.bool (bit (rowTo (fun i => (rgAt rs i).init) rs.length k) k)) := cell_alloc (bits_cell hc.out.hold (by rw [rowTo_len]; exact hlt)) _
        have mz : (wr.alloc (.cells #[.bool bi, .int .i64 nx] 59)).frozen? ⟨Hh, k, none⟩ = false := blk_frozen (Below.blk (below_alloc _ _) hc.out.hold) k
        have x0 : (wr.alloc (.cells #[.bool bi, .int .i64 nx] 59)).cell? ⟨wr.heap.size, 0, none⟩ = some (.bool bi) := by rw [blk_cell (blk_new _ _)]; rfl
        go_wp2_with fail
        go_region
        all_goals go_wp2_with fail
        all_goals
          exact ⟨⟨k + 1, by omega, by go_num, hide (hc.out.next HINI.out (by first | exact below_alloc _ _ | exact (below_alloc _ _).drew))⟩, by simp [intOf]; omega⟩
      · have HK : Hid (k = rs.length) := hide (by omega)
        go_wp2_with fail
        go_ret2
        have hc2 := hc.out
        rw [HK.out] at hc2
        exact ⟨⟨⟨p, ra, rc, la, lc, oa, oc, A, C⟩, rfl, hc2.sim, hc2.pB⟩, hc2.below⟩
end Go.Proofs.Ytacgepdmhdcdkaa
