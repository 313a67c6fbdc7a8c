/-
  CONTRACT of the reader's list.
-/
import Derived.Test.YtndpehjbepfbkaaGreatDoorIMn
set_option linter.unusedSimpArgs false
set_option linter.unusedVariables false
namespace Go.Proofs.YtndpehjbepfbkaaGreatDoor
open Go.RowKit

theorem numsTo_le (l : List UInt8) : ∀ q, (numsTo l q).2.length ≤ l.length
  | 0 => Nat.le_refl _
  | q + 1 => Nat.le_trans (numP_len _) (numsTo_le l q)
theorem regsRd_le (l : List UInt8) : ∀ q, (regsRd l q).2.length ≤ l.length
  | 0 => Nat.le_refl _
  | q + 1 => Nat.le_trans (numP_len _) (Nat.le_trans (numP_len _) (regsRd_le l q))
theorem ListRd.le {most : Nat} {l l' : List UInt8} {os : List Int} (h : ListRd most l os l') : l'.length ≤ l.length := by
  obtain ⟨c, _, he⟩ := h
  have : l' = (numsTo (numP l).2 c).2 := congrArg Prod.snd he
  rw [this]
  exact Nat.le_trans (numsTo_le _ _) (numP_len _)
theorem ListRd.len {most : Nat} {l l' : List UInt8} {os : List Int} (h : ListRd most l os l') : os.length ≤ most := by
  obtain ⟨c, hc, he⟩ := h
  have : os = (numsTo (numP l).2 c).1 := congrArg Prod.fst he
  rw [this, numsTo_len]
  exact hc.1
theorem LutsRd.le {l : List UInt8} {q : Nat} {ls : List Lt} {l' : List UInt8} (h : LutsRd l q ls l') : l'.length ≤ l.length := by
  induction h with
  | none => exact Nat.le_refl _
  | more _ hi ih => exact Nat.le_trans (numP_len _) (Nat.le_trans hi.le ih)
/-- another block than the row's stays -/
theorem RowS.other {S : Nat → Prop} {e size : Nat} {w0 wr w2 : World} {va : Option Addr} {vc k : Nat} {cs : List Value} (h : RowS S e size w0 wr va vc k cs) (hg : wr.grownBy w2 (Value.slice va k vc).ownBlock) {R : Nat} (hR : R < w0.heap.size) : w2.heap[R]? = wr.heap[R]? :=
  hg.block R (Nat.lt_of_lt_of_le hR h.kept.size) fun e => by have := h.mine.new R e.symm; omega

set_option maxRecDepth 100000 in
set_option maxHeartbeats 6400000 in
theorem list_at (R : Nat) (l : List UInt8) (most : Nat) (w : World) (h : RdrAt R l w) (hl : l.length ≤ 1000000) (hm : most ≤ 20000) :
    Calls Tryz.prog 62 #[.pointer (some ⟨R, 0, none⟩), .int .i64 most] w fun e w' => ∃ (oa : Option Addr) (oc : Nat) (os : List Int) (l' : List UInt8), e = .returned (.slice oa os.length oc) ∧ ListRd most l os l' ∧ RdrAt R l' w' ∧ Lies (FromB w.heap.size) w' oa (intsC os) ∧ Kept R w w' := by
  have HC := hide (many_at R l most w h hl)
  have hRl : R < w.heap.size := blk_lt h
  have HS : Hid (∀ b, b = R → b < w.heap.size) := hide fun b hb => hb ▸ hRl
  have hle := numP_len l
  clear h
  go_enter Tryz.func62, Tryz.ntmps62
  go_wp2_with fail
  refine HC.out.mono ?_
  rintro e w1 ⟨c, rfl, hc, hr, hk⟩
  have HC1 := hide hc
  have HR1 := hide hr
  have HK1 := hide hk
  have hcm := hc.1
  clear hc hr hk HC
  generalize hl1 : (numP l).2 = l1 at *
  have HL1 := hide hl1
  clear hl1
  go_wp2_with fail
  go_loopw [5, 9] (fun v i wr => ∃ (q : Nat) (va : Option Addr) (vc : Nat), q ≤ c ∧ i = .int .i64 q ∧ v = .slice va q vc ∧ Hid (RowS (fun b => b = R) 3 1 w wr va vc q (intsC (numsTo l1 q).1)) ∧ Hid (RdrAt R (numsTo l1 q).2 wr)) (fun _ i _ => c - (intOf i).toNat)
  case atStart => exact ⟨0, .none, 0, Nat.zero_le _, rfl, rfl, hide (RowS.start _ _ (KeptS.one HK1.out rfl)), HR1⟩
  case round =>
    obtain ⟨q, va, vc, hq, rfl, rfl, hrow, hr⟩ := hrel
    by_cases hlt : q < c
    · have hqi : (q : Int) < (c : Int) := by omega
      have hle2 := numsTo_le l1 q
      have HNU := hide (number_at R _ wr hr.out (by omega))
      have HSU : Hid ((numsTo l1 (q + 1)).1 = (numsTo l1 q).1 ++ [((numP (numsTo l1 q).2).1 : Int)] ∧ (numsTo l1 (q + 1)).2 = (numP (numsTo l1 q).2).2) := hide ⟨rfl, rfl⟩
      generalize numsTo l1 q = s1 at *
      generalize numP s1.2 = np at *
      obtain ⟨nv, lq⟩ := np
      simp only at HSU HNU
      clear hr
      go_wp2_with fail
      refine HNU.out.mono ?_
      rintro e wy ⟨rfl, hr2, hk2⟩
      have hrow2 := hrow.out.more (KeptS.one hk2 rfl) HS.out
      have hrow3 := hrow2.more (KeptS.of (below_alloc wy (.cells #[.int .i64 nv] 3))) HS.out
      obtain ⟨va2, vc2, w2, happ, hrow4, hnb, hg⟩ := hrow3.app (t := 22) info_in (by decide) (by decide) rfl (by kernel_rfl) HS.out (intsC [(nv : Int)]) (some ⟨wy.heap.size, 0, none⟩) 1 1 (q + 1) (one_lies (blk_new wy (.cells #[.int .i64 nv] 3))) rfl (ints_one _) rfl (by omega)
      have HR4 : Hid (RdrAt R lq w2) := hide ((hrow3.other hg hRl).trans (hr2.below (below_alloc wy _)))
      rw [← intsC_app] at hrow4
      have HROW4 := hide hrow4
      clear hr2 hk2 hrow hrow2 hrow3 hrow4 hnb hg HNU
      go_wp2_with (at_builtin; (refine wpl_append_run happ rfl _ _ rfl rfl rfl ?_))
      exact ⟨⟨q + 1, va2, vc2, by omega, by go_num, rfl, hide (by rw [HSU.out.1]; exact HROW4.out), hide (by rw [HSU.out.2]; exact HR4.out)⟩, by simp [intOf]; omega⟩
    · have HQ : Hid (q = c) := hide (by omega)
      have HLEN := hide (numsTo_len l1 q)
      go_wp2_with fail
      go_ret
      refine ⟨va, vc, (numsTo l1 q).1, (numsTo l1 q).2, by rw [HLEN.out]; rfl, ⟨c, by rw [HL1.out]; exact HC1.out, by rw [HL1.out, HQ.out]⟩, hr.out, hrow.out.lies, Kept.ofS hrow.out.kept fun k _ hk => hk⟩
end Go.Proofs.YtndpehjbepfbkaaGreatDoor
