/-
  CONTRACT of the reader's net.
-/
import Derived.Test.YtndpehjbepfbkaaGreatDoorILi
set_option linter.unusedSimpArgs false
set_option linter.unusedVariables false
namespace Go.Proofs.YtndpehjbepfbkaaGreatDoor
open Go.RowKit

theorem rgAt_old (rs : List Rg) (r : Rg) (i : Nat) (h : i < rs.length) : rgAt (rs ++ [r]) i = rgAt rs i := by unfold rgAt; rw [List.getElem?_append_left h]
theorem rgAt_new (rs : List Rg) (r : Rg) : rgAt (rs ++ [r]) rs.length = r := by unfold rgAt; simp
theorem ltAt_old (ls : List Lt) (l : Lt) (i : Nat) (h : i < ls.length) : ltAt (ls ++ [l]) i = ltAt ls i := by unfold ltAt; rw [List.getElem?_append_left h]
theorem ltAt_new (ls : List Lt) (l : Lt) : ltAt (ls ++ [l]) ls.length = l := by unfold ltAt; simp
theorem rgsC_snoc (rs : List Rg) (r : Rg) : rgsC (rs ++ [r]) = rgsC rs ++ [.bool r.init, .int .i64 r.next] := by
  unfold rgsC
  rw [List.length_append]
  show pairC _ _ (rs.length + 1) = _
  simp only [pairC]
  congr 1
  · exact pairC_congr fun i hi => ⟨by simp only [rgF, rgAt_old rs r i hi], by simp only [rgG, rgAt_old rs r i hi]⟩
  · simp only [rgF, rgG, rgAt_new]
def atNew {α : Type} (n : Nat) (a : α) (f : Nat → α) (i : Nat) : α := if i = n then a else f i
theorem atNew_new {α : Type} (n : Nat) (a : α) (f : Nat → α) : atNew n a f n = a := if_pos rfl
theorem atNew_old {α : Type} (n : Nat) (a : α) (f : Nat → α) (i : Nat) (h : i < n) : atNew n a f i = f i := if_neg (by omega)
theorem lutsC_snoc (A : Nat → Option Addr) (C : Nat → Nat) (ls : List Lt) (l : Lt) (a : Option Addr) (c : Nat) : lutsC (atNew ls.length a A) (atNew ls.length c C) (ls ++ [l]) = lutsC A C ls ++ [.slice a l.ins.length c, .int .i64 l.table] := by
  unfold lutsC
  rw [List.length_append]
  show pairC _ _ (ls.length + 1) = _
  simp only [pairC]
  congr 1
  · exact pairC_congr fun i hi => ⟨by simp only [lutF, ltAt_old ls l i hi, atNew_old _ _ _ i hi], by simp only [lutG, ltAt_old ls l i hi]⟩
  · simp only [lutF, lutG, ltAt_new, atNew_new]

/-- a row of tables that is built behind a world, with the rows of their signals -/
structure LRow (S : Nat → Prop) (w0 wr : World) (va : Option Addr) (vc : Nat) (A : Nat → Option Addr) (C : Nat → Nat) (ls : List Lt) : Prop where
  row : RowS S 124 2 w0 wr va vc ls.length (lutsC A C ls)
  ins : ∀ i, i < ls.length → Lies (fun b => w0.heap.size ≤ b ∧ b < wr.heap.size ∧ (Value.slice va ls.length vc).ownBlock ≠ some b) wr (A i) (intsC (ltAt ls i).ins)
theorem LRow.none (S : Nat → Prop) (w : World) : LRow S w w .none 0 (fun _ => .none) (fun _ => 0) [] := ⟨RowS.none S _ _ w, fun i hi => absurd hi (Nat.not_lt_zero _)⟩
theorem LRow.more {S : Nat → Prop} {w0 wr wy : World} {va : Option Addr} {vc : Nat} {A : Nat → Option Addr} {C : Nat → Nat} {ls : List Lt} (h : LRow S w0 wr va vc A C ls) (hb : KeptS S wr wy) (hS : ∀ b, S b → b < w0.heap.size) : LRow S w0 wy va vc A C ls :=
  ⟨h.row.more hb hS, fun i hi => ((h.ins i hi).same fun b hs hl => hb.block b hl fun hh => by have := hS b hh; omega).imp fun b hl hs => ⟨hs.1, hl, hs.2.2⟩⟩
theorem LRow.app {S : Nat → Prop} {w0 wr : World} {va : Option Addr} {vc : Nat} {A : Nat → Option Addr} {C : Nat → Nat} {ls : List Lt} (h : LRow S w0 wr va vc A C ls) (hS : ∀ b, S b → b < w0.heap.size) (l : Lt) (a : Option Addr) (c : Nat) (ha : Lies (fun b => w0.heap.size ≤ b ∧ b < wr.heap.size ∧ (Value.slice va ls.length vc).ownBlock ≠ some b) wr a (intsC l.ins)) (ao : Option Addr) (hnew : Lies AnyB wr ao [.slice a l.ins.length c, .int .i64 l.table]) (n' : Nat) (hn : n' = ls.length + 1) (hbig : ls.length < 1000000) :
    ∃ va' vc' w2, (Builtin.append_ #[57, 57] 57 #[.slice va ls.length vc, .slice ao 1 1]).run Tryz.prog wr = .ok (.slice va' n' vc') w2 ∧ LRow S w0 w2 va' vc' (atNew ls.length a A) (atNew ls.length c C) (ls ++ [l]) ∧ wr.grownBy w2 (Value.slice va ls.length vc).ownBlock := by
  subst hn
  obtain ⟨va', vc', w2, happ, hrow, hnb, hg⟩ := h.row.app (t := 57) info_lt (by decide) (by decide) rfl (by kernel_rfl) hS [.slice a l.ins.length c, .int .i64 l.table] ao 1 1 (ls.length + 1) hnew rfl (by intro u hu; simp at hu; rcases hu with rfl | rfl <;> rfl) rfl (by omega)
  have hlen : (ls ++ [l]).length = ls.length + 1 := by simp
  have carry : ∀ {x : Option Addr} {cs : List Value}, Lies (fun b => w0.heap.size ≤ b ∧ b < wr.heap.size ∧ (Value.slice va ls.length vc).ownBlock ≠ some b) wr x cs → Lies (fun b => w0.heap.size ≤ b ∧ b < w2.heap.size ∧ (Value.slice va' (ls.length + 1) vc').ownBlock ≠ some b) w2 x cs := fun hx =>
    (hx.same fun b hs hl => hg.block b hl fun e => hs.2.2 e.symm).imp fun b hl hs => ⟨hs.1, hl, fun e => (hnb b e).elim hs.2.2 fun hge => by have := hs.2.1; omega⟩
  refine ⟨va', vc', w2, happ, ⟨by rw [hlen, lutsC_snoc]; exact hrow, fun i hi => ?_⟩, hg⟩
  rw [hlen] at hi ⊢
  by_cases e : i = ls.length
  · subst e
    rw [atNew_new, ltAt_new]
    exact carry ha
  · rw [atNew_old _ _ _ i (by omega), ltAt_old ls l i (by omega)]
    exact carry (h.ins i (by omega))
theorem RdrAt.other {R : Nat} {l : List UInt8} {w w' : World} (h : RdrAt R l w) (e : w'.heap[R]? = w.heap[R]?) : RdrAt R l w' := e.trans h
theorem natI (n m : Nat) : (((n : Nat) : Int) == (m : Int)) = (n == m) := by
  cases h : (n == m) with
  | true => rw [beq_iff_eq] at *; omega
  | false => rw [beq_eq_false_iff_ne] at *; omega
/-- the two blocks that change while a net is read -/
def TwoB (R N b : Nat) : Prop := b = R ∨ b = N
/-- a net's block -/
def NetB (N : Nat) (g : Int) (a1 : Option Addr) (n1 c1 : Nat) (a2 : Option Addr) (n2 c2 : Nat) (a3 : Option Addr) (n3 c3 : Nat) (w : World) : Prop := w.heap[N]? = some (.cells #[.int .i64 g, .slice a1 n1 c1, .slice a2 n2 c2, .slice a3 n3 c3] 59 (0, 0))
theorem NetB.other {N : Nat} {g : Int} {a1 : Option Addr} {n1 c1 : Nat} {a2 : Option Addr} {n2 c2 : Nat} {a3 : Option Addr} {n3 c3 : Nat} {w w' : World} (h : NetB N g a1 n1 c1 a2 n2 c2 a3 n3 c3 w) (e : w'.heap[N]? = w.heap[N]?) : NetB N g a1 n1 c1 a2 n2 c2 a3 n3 c3 w' := e.trans h
theorem NetB.c1 {N : Nat} {g : Int} {a1 : Option Addr} {n1 c1 : Nat} {a2 : Option Addr} {n2 c2 : Nat} {a3 : Option Addr} {n3 c3 : Nat} {w : World} (h : NetB N g a1 n1 c1 a2 n2 c2 a3 n3 c3 w) : w.cell? ⟨N, 1, none⟩ = some (.slice a1 n1 c1) := by rw [blk_cell h]; rfl
theorem NetB.c2 {N : Nat} {g : Int} {a1 : Option Addr} {n1 c1 : Nat} {a2 : Option Addr} {n2 c2 : Nat} {a3 : Option Addr} {n3 c3 : Nat} {w : World} (h : NetB N g a1 n1 c1 a2 n2 c2 a3 n3 c3 w) : w.cell? ⟨N, 2, none⟩ = some (.slice a2 n2 c2) := by rw [blk_cell h]; rfl
theorem NetB.c3 {N : Nat} {g : Int} {a1 : Option Addr} {n1 c1 : Nat} {a2 : Option Addr} {n2 c2 : Nat} {a3 : Option Addr} {n3 c3 : Nat} {w : World} (h : NetB N g a1 n1 c1 a2 n2 c2 a3 n3 c3 w) : w.cell? ⟨N, 3, none⟩ = some (.slice a3 n3 c3) := by rw [blk_cell h]; rfl
theorem NetB.set1 {N : Nat} {g : Int} {a1 : Option Addr} {n1 c1 : Nat} {a2 : Option Addr} {n2 c2 : Nat} {a3 : Option Addr} {n3 c3 : Nat} {w : World} (h : NetB N g a1 n1 c1 a2 n2 c2 a3 n3 c3 w) (a : Option Addr) (n c : Nat) : NetB N g a n c a2 n2 c2 a3 n3 c3 (w.setCell ⟨N, 1, none⟩ (.slice a n c)) := by unfold NetB; rw [blk_set h]; rfl
theorem NetB.set2 {N : Nat} {g : Int} {a1 : Option Addr} {n1 c1 : Nat} {a2 : Option Addr} {n2 c2 : Nat} {a3 : Option Addr} {n3 c3 : Nat} {w : World} (h : NetB N g a1 n1 c1 a2 n2 c2 a3 n3 c3 w) (a : Option Addr) (n c : Nat) : NetB N g a1 n1 c1 a n c a3 n3 c3 (w.setCell ⟨N, 2, none⟩ (.slice a n c)) := by unfold NetB; rw [blk_set h]; rfl
theorem NetB.set3 {N : Nat} {g : Int} {a1 : Option Addr} {n1 c1 : Nat} {a2 : Option Addr} {n2 c2 : Nat} {a3 : Option Addr} {n3 c3 : Nat} {w : World} (h : NetB N g a1 n1 c1 a2 n2 c2 a3 n3 c3 w) (a : Option Addr) (n c : Nat) : NetB N g a1 n1 c1 a2 n2 c2 a n c (w.setCell ⟨N, 3, none⟩ (.slice a n c)) := by unfold NetB; rw [blk_set h]; rfl
theorem NetRd.lens {l : List UInt8} {given : Nat} {rs : List Rg} {ls : List Lt} {os : List Int} {l' : List UInt8} (h : NetRd l given rs ls os l') : rs.length ≤ 20000 ∧ ls.length ≤ 20000 ∧ os.length ≤ 20000 := by
  obtain ⟨_, c1, l1, c2, l2, h1, h2, h3, h4, h5⟩ := h
  have e : rs = (regsRd (numP (numP l).2).2 c1).1 := congrArg Prod.fst h2
  exact ⟨by rw [e, regsRd_len]; exact h1.1, by rw [h4.len]; exact h3.1, h5.len⟩

set_option maxRecDepth 100000 in
set_option maxHeartbeats 12800000 in
theorem net_at (R : Nat) (l : List UInt8) (w : World) (h : RdrAt R l w) (hl : l.length ≤ 1000000) :
    Calls Tryz.prog 39 #[.pointer (some ⟨R, 0, none⟩)] w fun e w' => ∃ (s : NetQ) (given : Nat) (rs : List Rg) (ls : List Lt) (os : List Int) (l' : List UInt8), e = .returned (.pointer (some ⟨s.p, 0, none⟩)) ∧ NetRd l given rs ls os l' ∧ NetT s (FromB w.heap.size) w' given rs ls os ∧ Kept R w w' ∧ w.heap.size ≤ s.p := by
  have HN0 := hide (number_at R l w h hl)
  have hRl : R < w.heap.size := blk_lt h
  have hle0 := numP_len l
  clear h
  go_enter Tryz.func39, Tryz.ntmps39
  go_wp2_with fail
  refine HN0.out.mono ?_
  rintro e w1 ⟨rfl, hr1, hk1⟩
  generalize hnp : numP l = np at *
  have HNP := hide hnp
  clear hnp HN0
  obtain ⟨gv, l1⟩ := np
  simp only at hr1 hle0
  have HK1 := hide hk1
  have HR2 : Hid (RdrAt R l1 (w1.alloc (.cells #[.int .i64 gv, .slice none 0 0, .slice none 0 0, .slice none 0 0] 59))) := hide (hr1.below (below_alloc _ _))
  have HB2 : Hid (NetB w1.heap.size gv none 0 0 none 0 0 none 0 0 (w1.alloc (.cells #[.int .i64 gv, .slice none 0 0, .slice none 0 0, .slice none 0 0] 59))) := hide (blk_new _ _)
  have HK2 := hide (hk1.below (below_alloc w1 (.cells #[.int .i64 gv, .slice none 0 0, .slice none 0 0, .slice none 0 0] 59)))
  have hw1 := hk1.size
  have hNl : w1.heap.size < (w1.alloc (.cells #[.int .i64 gv, .slice none 0 0, .slice none 0 0, .slice none 0 0] 59)).heap.size := by simp
  clear hr1 hk1
  go_wp2_with fail
  generalize w1.alloc (.cells #[.int .i64 gv, .slice none 0 0, .slice none 0 0, .slice none 0 0] 59) = w2 at *
  generalize w1.heap.size = N at *
  have HNR : Hid (N ≠ R) := hide (by omega)
  have HNW : Hid (w.heap.size ≤ N) := hide hw1
  refine (many_at R l1 20000 w2 HR2.out (by omega)).mono ?_
  rintro e w3 ⟨c1, rfl, hc1, hr3, hk3⟩
  have HC1 := hide hc1
  have hc1m := hc1.1
  have HR3 := hide hr3
  have HK3 := hide (HK2.out.trans hk3)
  have HB3 := hide (HB2.out.other (hk3.block N hNl HNR.out))
  have HS : Hid (∀ b, TwoB R N b → b < w3.heap.size) := hide fun b hb => by
    have := hk3.size
    rcases hb with rfl | rfl
    · have := HK2.out.size; omega
    · omega
  clear hc1 hr3 hk3 hw1 hNl HB2 HR2
  have hle1 := numP_len l1
  generalize hnp1 : numP l1 = np1 at *
  have HNP1 := hide hnp1
  clear hnp1
  obtain ⟨nr, l2⟩ := np1
  simp only at HR3 hle1 HC1
  go_wp2_with fail
  go_loopw [10] (fun i wr => ∃ (q : Nat) (va : Option Addr) (vc : Nat), q ≤ c1 ∧ i = .int .i64 q ∧ Hid (RowS (TwoB R N) 106 2 w3 wr va vc q (rgsC (regsRd l2 q).1)) ∧ Hid (RdrAt R (regsRd l2 q).2 wr) ∧ Hid (NetB N gv va q vc none 0 0 none 0 0 wr)) (fun i _ => c1 - (intOf i).toNat)
  case atStart => exact ⟨0, none, 0, Nat.zero_le _, rfl, hide (RowS.none _ _ _ _), HR3, HB3⟩
  case round =>
    obtain ⟨q, va, vc, hq, rfl, hrow, hr, hnb⟩ := hrel
    by_cases hlt : q < c1
    · have hqi : (q : Int) < (c1 : Int) := by omega
      have hle2 := regsRd_le l2 q
      have HSU : Hid ((regsRd l2 (q + 1)).1 = (regsRd l2 q).1 ++ [⟨(numP (regsRd l2 q).2).1 == 1, ((numP (numP (regsRd l2 q).2).2).1 : Int)⟩] ∧ (regsRd l2 (q + 1)).2 = (numP (numP (regsRd l2 q).2).2).2) := hide ⟨rfl, rfl⟩
      have HNA := hide (fun W (h : RdrAt R (regsRd l2 q).2 W) => number_at R _ W h (by omega))
      have hle3 := numP_len (regsRd l2 q).2
      have HNC := hide (fun W (h : RdrAt R (numP (regsRd l2 q).2).2 W) => number_at R _ W h (by omega))
      generalize regsRd l2 q = s1 at *
      generalize numP s1.2 = na at *
      obtain ⟨n1, la⟩ := na
      generalize hlaq : (n1, la).2 = laq at *
      simp only at hlaq
      subst hlaq
      simp only at HSU HNA HNC
      generalize numP la = nb at *
      obtain ⟨n2, lb⟩ := nb
      simp only at HSU HNC
      clear hle2 hle3
      go_wp2_with fail
      refine wp_region_held_drew (S := fun _ => True) (by kernel_rfl) trivial (fun _ => ?_)
      have HW0 : Hid (RowS (TwoB R N) 106 2 w3 wr.drew va vc q (rgsC s1.1)) := hide (hrow.out.more (KeptS.of (Below.refl _ _).drew) HS.out)
      have HR0 : Hid (RdrAt R s1.2 wr.drew) := hide (hr.out.below (Below.refl _ _).drew)
      have HB0 : Hid (NetB N gv va q vc none 0 0 none 0 0 wr.drew) := hide (hnb.out.other rfl)
      generalize wr.drew = x0 at *
      clear hrow hr hnb
      have n1b : Hid (((n1 : Int) == 1) = (n1 == 1)) := hide (natI n1 1)
      refine wpAnyH_take (i := 0) (oi := ⟨some 12, _, _, _, _, _⟩) (v := (.pointer (some ⟨N, 0, none⟩))) rfl (by kernel_rfl) (by kernel_rfl) (by kernel_rfl) (fun _ _ _ h => h) (Or.inl ⟨by rfl, fun W hS => by (go_simp)⟩) trivial ?_
      simp only [Act.put, List.setIfInBounds_toArray, List.set_cons_zero, List.set_cons_succ]
      refine wpAnyH_take (i := 1) (oi := ⟨some 13, _, _, _, _, _⟩) (v := (.pointer (some ⟨N, 0, none⟩))) rfl (by kernel_rfl) (by kernel_rfl) (by kernel_rfl) (fun _ _ _ h => h) (Or.inl ⟨by rfl, fun W hS => by (go_simp)⟩) trivial ?_
      simp only [Act.put, List.setIfInBounds_toArray, List.set_cons_zero, List.set_cons_succ]
      refine wpAnyH_take (i := 5) (oi := ⟨some 17, _, _, _, _, _⟩) (v := (.pointer (some ⟨R, 0, none⟩))) rfl (by kernel_rfl) (by kernel_rfl) (by kernel_rfl) (fun _ _ _ h => h) (Or.inl ⟨by rfl, fun W hS => by (go_simp)⟩) trivial ?_
      simp only [Act.put, List.setIfInBounds_toArray, List.set_cons_zero, List.set_cons_succ]
      refine wpAnyH_take (i := 8) (oi := ⟨some 20, _, _, _, _, _⟩) (v := (.pointer (some ⟨R, 0, none⟩))) rfl (by kernel_rfl) (by kernel_rfl) (by kernel_rfl) (fun _ _ _ h => h) (Or.inl ⟨by rfl, fun W hS => by (go_simp)⟩) trivial ?_
      simp only [Act.put, List.setIfInBounds_toArray, List.set_cons_zero, List.set_cons_succ]
      refine wpAnyH_take (i := 2) (oi := ⟨some 14, _, _, _, _, _⟩) (v := (.pointer (some ⟨N, 0, none⟩))) rfl (by kernel_rfl) (by kernel_rfl) (by kernel_rfl) (fun _ _ _ h => h) (Or.inl ⟨by rfl, fun W hS => by (go_simp)⟩) trivial ?_
      simp only [Act.put, List.setIfInBounds_toArray, List.set_cons_zero, List.set_cons_succ]
      refine wpAnyH_take (i := 3) (oi := ⟨some 15, _, _, _, _, _⟩) (v := (.pointer (some ⟨N, 1, none⟩))) rfl (by kernel_rfl) (by kernel_rfl) (by kernel_rfl) (fun _ _ _ h => h) (Or.inl ⟨by rfl, fun W hS => by (go_simp)⟩) trivial ?_
      simp only [Act.put, List.setIfInBounds_toArray, List.set_cons_zero, List.set_cons_succ]
      refine wpAnyH_ready (rs := [4, 6]) (by kernel_rfl) (by simp) ?_
      refine AllReadyH.cons rfl (fun K hK => ?_) (AllReadyH.cons rfl (fun K hK => ?_) AllReadyH.nil)
      · skip
        have k1 := HB0.out.c1
        go_simp
        clear k1
        refine hK.out _ _ trivial (fun _ => ?_)
        clear hK K
        refine wpAnyH_ready (rs := [6]) (by kernel_rfl) (by simp) ?_
        refine AllReadyH.cons rfl (fun K hK => ?_) AllReadyH.nil
        go_simp
        refine (HNA.out x0 HR0.out).mono ?_
        rintro e x1 ⟨rfl, hr1, hk1⟩
        have HR1 := hide hr1
        have HW1 := hide (HW0.out.more (KeptS.one hk1 (Or.inl rfl)) HS.out)
        have HB1 := hide (HB0.out.other (hk1.block N (blk_lt HB0.out) HNR.out))
        clear hr1 hk1 HR0 HW0 HB0
        refine hK.out _ _ trivial (fun _ => ?_)
        clear hK K
        refine wpAnyH_take (i := 7) (oi := ⟨some 19, _, _, _, _, _⟩) (v := (.bool ((n1 : Int) == 1))) rfl (by kernel_rfl) (by kernel_rfl) (by kernel_rfl) (fun _ _ _ h => h) (Or.inl ⟨by rfl, fun W hS => by (go_simp)⟩) trivial ?_
        simp only [Act.put, List.setIfInBounds_toArray, List.set_cons_zero, List.set_cons_succ]
        refine wpAnyH_ready (rs := [9]) (by kernel_rfl) (by simp) ?_
        refine AllReadyH.cons rfl (fun K hK => ?_) AllReadyH.nil
        go_simp
        refine (HNC.out x1 HR1.out).mono ?_
        rintro e x2 ⟨rfl, hr1, hk1⟩
        have HR2 := hide hr1
        have HW2 := hide (HW1.out.more (KeptS.one hk1 (Or.inl rfl)) HS.out)
        have HB2 := hide (HB1.out.other (hk1.block N (blk_lt HB1.out) HNR.out))
        clear hr1 hk1 HR1 HW1 HB1
        refine hK.out _ _ trivial (fun _ => ?_)
        clear hK K
        refine wpAnyH_ready (rs := [10]) (by kernel_rfl) (by simp) ?_
        refine AllReadyH.cons rfl (fun K hK => ?_) AllReadyH.nil
        go_simp
        refine hK.out _ _ trivial (fun _ => ?_)
        clear hK K
        refine wpAnyH_ready (rs := [11]) (by kernel_rfl) (by simp) ?_
        refine AllReadyH.cons rfl (fun K hK => ?_) AllReadyH.nil
        have HR3 : Hid (RdrAt R lb (x2.alloc (.cells #[.bool ((n1 : Int) == 1), .int .i64 n2] 106))) := hide (HR2.out.below (below_alloc _ _))
        have HW3 := hide (HW2.out.more (KeptS.of (below_alloc x2 (.cells #[.bool ((n1 : Int) == 1), .int .i64 n2] 106))) HS.out)
        have HB3 := hide (HB2.out.other ((below_alloc x2 (.cells #[.bool ((n1 : Int) == 1), .int .i64 n2] 106)).block N (blk_lt HB2.out)))
        have HL3 : Hid (Lies AnyB (x2.alloc (.cells #[.bool ((n1 : Int) == 1), .int .i64 n2] 106)) (some ⟨x2.heap.size, 0, none⟩) [.bool ((n1 : Int) == 1), .int .i64 n2]) := hide (Lies.blk (cs := [.bool ((n1 : Int) == 1), .int .i64 n2]) (blk_new x2 (.cells #[.bool ((n1 : Int) == 1), .int .i64 n2] 106)) trivial)
        go_simp
        generalize x2.alloc (.cells #[.bool ((n1 : Int) == 1), .int .i64 n2] 106) = x3 at *
        generalize x2.heap.size = B2 at *
        refine hK.out _ _ trivial (fun _ => ?_)
        clear hK K
        refine wpAnyH_ready (rs := [12]) (by kernel_rfl) (by simp) ?_
        refine AllReadyH.cons rfl (fun K hK => ?_) AllReadyH.nil
        obtain ⟨va2, vc2, x4, happ, hrow4, hnb4, hg⟩ := HW3.out.app (t := 56) info_rg (by decide) (by decide) rfl (by kernel_rfl) HS.out [.bool ((n1 : Int) == 1), .int .i64 n2] (some ⟨B2, 0, none⟩) 1 1 (q + 1) HL3.out rfl (by intro u hu; simp at hu; rcases hu with rfl | rfl <;> rfl) rfl (by omega)
        have HR4 : Hid (RdrAt R lb x4) := hide (HR3.out.other (HW3.out.other hg (HS.out R (Or.inl rfl))))
        have HB4 := hide (HB3.out.other (HW3.out.other hg (HS.out N (Or.inr rfl))))
        have HW4 := hide hrow4
        clear hrow4 hnb4 hg HL3
        refine (if_pos (by kernel_rfl)).mpr ?_
        refine wp_append_run happ _ _ rfl rfl rfl ?_
        simp only [Act.put, List.getElem_toArray, List.getElem_cons_succ, List.getElem_cons_zero, List.setIfInBounds_toArray, List.set_cons_zero, List.set_cons_succ]
        refine hK.out _ _ trivial (fun _ => ?_)
        clear hK K
        clear happ
        refine wpAnyH_take (i := 13) (oi := ⟨some 25, _, _, _, _, _⟩) (v := (.pointer (some ⟨N, 0, none⟩))) rfl (by kernel_rfl) (by kernel_rfl) (by kernel_rfl) (fun _ _ _ h => h) (Or.inl ⟨by rfl, fun W hS => by (go_simp)⟩) trivial ?_
        simp only [Act.put, List.setIfInBounds_toArray, List.set_cons_zero, List.set_cons_succ]
        refine wpAnyH_take (i := 14) (oi := ⟨some 26, _, _, _, _, _⟩) (v := (.pointer (some ⟨N, 1, none⟩))) rfl (by kernel_rfl) (by kernel_rfl) (by kernel_rfl) (fun _ _ _ h => h) (Or.inl ⟨by rfl, fun W hS => by (go_simp)⟩) trivial ?_
        simp only [Act.put, List.setIfInBounds_toArray, List.set_cons_zero, List.set_cons_succ]
        refine wpAnyH_ready (rs := [15]) (by kernel_rfl) (by simp) ?_
        refine AllReadyH.cons rfl (fun K hK => ?_) AllReadyH.nil
        have f4 : x4.frozen? ⟨N, 1, none⟩ = false := blk_frozen HB4.out 1
        have k4 := HB4.out.c1
        go_simp
        clear f4 k4
        refine hK.out _ _ trivial (fun _ => ?_)
        clear hK K
        refine wpAnyH_done (by kernel_rfl) ?_ _
        have HBF := hide (HB4.out.set1 va2 (q + 1) vc2)
        have HRF : Hid (RdrAt R lb (x4.setCell ⟨N, 1, none⟩ (.slice va2 (q + 1) vc2))) := hide (HR4.out.other (Below.heap_setCell x4 ⟨N, 1, none⟩ _ R (fun e => HNR.out e.symm)))
        have HWF := hide (HW4.out.more ((KeptS.refl _ x4).set N 1 (.slice va2 (q + 1) vc2) (Or.inr rfl)) HS.out)
        go_wp2_with fail
        exact ⟨⟨q + 1, va2, vc2, by omega, by go_num, hide (by rw [HSU.out.1, rgsC_snoc, ← n1b.out]; exact HWF.out), hide (by rw [HSU.out.2]; exact HRF.out), HBF⟩, by simp [intOf]; omega⟩
      · skip
        go_simp
        refine (HNA.out x0 HR0.out).mono ?_
        rintro e x1 ⟨rfl, hr1, hk1⟩
        have HR1 := hide hr1
        have HW1 := hide (HW0.out.more (KeptS.one hk1 (Or.inl rfl)) HS.out)
        have HB1 := hide (HB0.out.other (hk1.block N (blk_lt HB0.out) HNR.out))
        clear hr1 hk1 HR0 HW0 HB0
        refine hK.out _ _ trivial (fun _ => ?_)
        clear hK K
        refine wpAnyH_take (i := 7) (oi := ⟨some 19, _, _, _, _, _⟩) (v := (.bool ((n1 : Int) == 1))) rfl (by kernel_rfl) (by kernel_rfl) (by kernel_rfl) (fun _ _ _ h => h) (Or.inl ⟨by rfl, fun W hS => by (go_simp)⟩) trivial ?_
        simp only [Act.put, List.setIfInBounds_toArray, List.set_cons_zero, List.set_cons_succ]
        refine wpAnyH_ready (rs := [4, 9]) (by kernel_rfl) (by simp) ?_
        refine AllReadyH.cons rfl (fun K hK => ?_) (AllReadyH.cons rfl (fun K hK => ?_) AllReadyH.nil)
        · skip
          have k1 := HB1.out.c1
          go_simp
          clear k1
          refine hK.out _ _ trivial (fun _ => ?_)
          clear hK K
          refine wpAnyH_ready (rs := [9]) (by kernel_rfl) (by simp) ?_
          refine AllReadyH.cons rfl (fun K hK => ?_) AllReadyH.nil
          go_simp
          refine (HNC.out x1 HR1.out).mono ?_
          rintro e x2 ⟨rfl, hr1, hk1⟩
          have HR2 := hide hr1
          have HW2 := hide (HW1.out.more (KeptS.one hk1 (Or.inl rfl)) HS.out)
          have HB2 := hide (HB1.out.other (hk1.block N (blk_lt HB1.out) HNR.out))
          clear hr1 hk1 HR1 HW1 HB1
          refine hK.out _ _ trivial (fun _ => ?_)
          clear hK K
          refine wpAnyH_ready (rs := [10]) (by kernel_rfl) (by simp) ?_
          refine AllReadyH.cons rfl (fun K hK => ?_) AllReadyH.nil
          go_simp
          refine hK.out _ _ trivial (fun _ => ?_)
          clear hK K
          refine wpAnyH_ready (rs := [11]) (by kernel_rfl) (by simp) ?_
          refine AllReadyH.cons rfl (fun K hK => ?_) AllReadyH.nil
          have HR3 : Hid (RdrAt R lb (x2.alloc (.cells #[.bool ((n1 : Int) == 1), .int .i64 n2] 106))) := hide (HR2.out.below (below_alloc _ _))
          have HW3 := hide (HW2.out.more (KeptS.of (below_alloc x2 (.cells #[.bool ((n1 : Int) == 1), .int .i64 n2] 106))) HS.out)
          have HB3 := hide (HB2.out.other ((below_alloc x2 (.cells #[.bool ((n1 : Int) == 1), .int .i64 n2] 106)).block N (blk_lt HB2.out)))
          have HL3 : Hid (Lies AnyB (x2.alloc (.cells #[.bool ((n1 : Int) == 1), .int .i64 n2] 106)) (some ⟨x2.heap.size, 0, none⟩) [.bool ((n1 : Int) == 1), .int .i64 n2]) := hide (Lies.blk (cs := [.bool ((n1 : Int) == 1), .int .i64 n2]) (blk_new x2 (.cells #[.bool ((n1 : Int) == 1), .int .i64 n2] 106)) trivial)
          go_simp
          generalize x2.alloc (.cells #[.bool ((n1 : Int) == 1), .int .i64 n2] 106) = x3 at *
          generalize x2.heap.size = B2 at *
          refine hK.out _ _ trivial (fun _ => ?_)
          clear hK K
          refine wpAnyH_ready (rs := [12]) (by kernel_rfl) (by simp) ?_
          refine AllReadyH.cons rfl (fun K hK => ?_) AllReadyH.nil
          obtain ⟨va2, vc2, x4, happ, hrow4, hnb4, hg⟩ := HW3.out.app (t := 56) info_rg (by decide) (by decide) rfl (by kernel_rfl) HS.out [.bool ((n1 : Int) == 1), .int .i64 n2] (some ⟨B2, 0, none⟩) 1 1 (q + 1) HL3.out rfl (by intro u hu; simp at hu; rcases hu with rfl | rfl <;> rfl) rfl (by omega)
          have HR4 : Hid (RdrAt R lb x4) := hide (HR3.out.other (HW3.out.other hg (HS.out R (Or.inl rfl))))
          have HB4 := hide (HB3.out.other (HW3.out.other hg (HS.out N (Or.inr rfl))))
          have HW4 := hide hrow4
          clear hrow4 hnb4 hg HL3
          refine (if_pos (by kernel_rfl)).mpr ?_
          refine wp_append_run happ _ _ rfl rfl rfl ?_
          simp only [Act.put, List.getElem_toArray, List.getElem_cons_succ, List.getElem_cons_zero, List.setIfInBounds_toArray, List.set_cons_zero, List.set_cons_succ]
          refine hK.out _ _ trivial (fun _ => ?_)
          clear hK K
          clear happ
          refine wpAnyH_take (i := 13) (oi := ⟨some 25, _, _, _, _, _⟩) (v := (.pointer (some ⟨N, 0, none⟩))) rfl (by kernel_rfl) (by kernel_rfl) (by kernel_rfl) (fun _ _ _ h => h) (Or.inl ⟨by rfl, fun W hS => by (go_simp)⟩) trivial ?_
          simp only [Act.put, List.setIfInBounds_toArray, List.set_cons_zero, List.set_cons_succ]
          refine wpAnyH_take (i := 14) (oi := ⟨some 26, _, _, _, _, _⟩) (v := (.pointer (some ⟨N, 1, none⟩))) rfl (by kernel_rfl) (by kernel_rfl) (by kernel_rfl) (fun _ _ _ h => h) (Or.inl ⟨by rfl, fun W hS => by (go_simp)⟩) trivial ?_
          simp only [Act.put, List.setIfInBounds_toArray, List.set_cons_zero, List.set_cons_succ]
          refine wpAnyH_ready (rs := [15]) (by kernel_rfl) (by simp) ?_
          refine AllReadyH.cons rfl (fun K hK => ?_) AllReadyH.nil
          have f4 : x4.frozen? ⟨N, 1, none⟩ = false := blk_frozen HB4.out 1
          have k4 := HB4.out.c1
          go_simp
          clear f4 k4
          refine hK.out _ _ trivial (fun _ => ?_)
          clear hK K
          refine wpAnyH_done (by kernel_rfl) ?_ _
          have HBF := hide (HB4.out.set1 va2 (q + 1) vc2)
          have HRF : Hid (RdrAt R lb (x4.setCell ⟨N, 1, none⟩ (.slice va2 (q + 1) vc2))) := hide (HR4.out.other (Below.heap_setCell x4 ⟨N, 1, none⟩ _ R (fun e => HNR.out e.symm)))
          have HWF := hide (HW4.out.more ((KeptS.refl _ x4).set N 1 (.slice va2 (q + 1) vc2) (Or.inr rfl)) HS.out)
          go_wp2_with fail
          exact ⟨⟨q + 1, va2, vc2, by omega, by go_num, hide (by rw [HSU.out.1, rgsC_snoc, ← n1b.out]; exact HWF.out), hide (by rw [HSU.out.2]; exact HRF.out), HBF⟩, by simp [intOf]; omega⟩
        · skip
          go_simp
          refine (HNC.out x1 HR1.out).mono ?_
          rintro e x2 ⟨rfl, hr1, hk1⟩
          have HR2 := hide hr1
          have HW2 := hide (HW1.out.more (KeptS.one hk1 (Or.inl rfl)) HS.out)
          have HB2 := hide (HB1.out.other (hk1.block N (blk_lt HB1.out) HNR.out))
          clear hr1 hk1 HR1 HW1 HB1
          refine hK.out _ _ trivial (fun _ => ?_)
          clear hK K
          refine wpAnyH_ready (rs := [4, 10]) (by kernel_rfl) (by simp) ?_
          refine AllReadyH.cons rfl (fun K hK => ?_) (AllReadyH.cons rfl (fun K hK => ?_) AllReadyH.nil)
          · skip
            have k1 := HB2.out.c1
            go_simp
            clear k1
            refine hK.out _ _ trivial (fun _ => ?_)
            clear hK K
            refine wpAnyH_ready (rs := [10]) (by kernel_rfl) (by simp) ?_
            refine AllReadyH.cons rfl (fun K hK => ?_) AllReadyH.nil
            go_simp
            refine hK.out _ _ trivial (fun _ => ?_)
            clear hK K
            refine wpAnyH_ready (rs := [11]) (by kernel_rfl) (by simp) ?_
            refine AllReadyH.cons rfl (fun K hK => ?_) AllReadyH.nil
            have HR3 : Hid (RdrAt R lb (x2.alloc (.cells #[.bool ((n1 : Int) == 1), .int .i64 n2] 106))) := hide (HR2.out.below (below_alloc _ _))
            have HW3 := hide (HW2.out.more (KeptS.of (below_alloc x2 (.cells #[.bool ((n1 : Int) == 1), .int .i64 n2] 106))) HS.out)
            have HB3 := hide (HB2.out.other ((below_alloc x2 (.cells #[.bool ((n1 : Int) == 1), .int .i64 n2] 106)).block N (blk_lt HB2.out)))
            have HL3 : Hid (Lies AnyB (x2.alloc (.cells #[.bool ((n1 : Int) == 1), .int .i64 n2] 106)) (some ⟨x2.heap.size, 0, none⟩) [.bool ((n1 : Int) == 1), .int .i64 n2]) := hide (Lies.blk (cs := [.bool ((n1 : Int) == 1), .int .i64 n2]) (blk_new x2 (.cells #[.bool ((n1 : Int) == 1), .int .i64 n2] 106)) trivial)
            go_simp
            generalize x2.alloc (.cells #[.bool ((n1 : Int) == 1), .int .i64 n2] 106) = x3 at *
            generalize x2.heap.size = B2 at *
            refine hK.out _ _ trivial (fun _ => ?_)
            clear hK K
            refine wpAnyH_ready (rs := [12]) (by kernel_rfl) (by simp) ?_
            refine AllReadyH.cons rfl (fun K hK => ?_) AllReadyH.nil
            obtain ⟨va2, vc2, x4, happ, hrow4, hnb4, hg⟩ := HW3.out.app (t := 56) info_rg (by decide) (by decide) rfl (by kernel_rfl) HS.out [.bool ((n1 : Int) == 1), .int .i64 n2] (some ⟨B2, 0, none⟩) 1 1 (q + 1) HL3.out rfl (by intro u hu; simp at hu; rcases hu with rfl | rfl <;> rfl) rfl (by omega)
            have HR4 : Hid (RdrAt R lb x4) := hide (HR3.out.other (HW3.out.other hg (HS.out R (Or.inl rfl))))
            have HB4 := hide (HB3.out.other (HW3.out.other hg (HS.out N (Or.inr rfl))))
            have HW4 := hide hrow4
            clear hrow4 hnb4 hg HL3
            refine (if_pos (by kernel_rfl)).mpr ?_
            refine wp_append_run happ _ _ rfl rfl rfl ?_
            simp only [Act.put, List.getElem_toArray, List.getElem_cons_succ, List.getElem_cons_zero, List.setIfInBounds_toArray, List.set_cons_zero, List.set_cons_succ]
            refine hK.out _ _ trivial (fun _ => ?_)
            clear hK K
            clear happ
            refine wpAnyH_take (i := 13) (oi := ⟨some 25, _, _, _, _, _⟩) (v := (.pointer (some ⟨N, 0, none⟩))) rfl (by kernel_rfl) (by kernel_rfl) (by kernel_rfl) (fun _ _ _ h => h) (Or.inl ⟨by rfl, fun W hS => by (go_simp)⟩) trivial ?_
            simp only [Act.put, List.setIfInBounds_toArray, List.set_cons_zero, List.set_cons_succ]
            refine wpAnyH_take (i := 14) (oi := ⟨some 26, _, _, _, _, _⟩) (v := (.pointer (some ⟨N, 1, none⟩))) rfl (by kernel_rfl) (by kernel_rfl) (by kernel_rfl) (fun _ _ _ h => h) (Or.inl ⟨by rfl, fun W hS => by (go_simp)⟩) trivial ?_
            simp only [Act.put, List.setIfInBounds_toArray, List.set_cons_zero, List.set_cons_succ]
            refine wpAnyH_ready (rs := [15]) (by kernel_rfl) (by simp) ?_
            refine AllReadyH.cons rfl (fun K hK => ?_) AllReadyH.nil
            have f4 : x4.frozen? ⟨N, 1, none⟩ = false := blk_frozen HB4.out 1
            have k4 := HB4.out.c1
            go_simp
            clear f4 k4
            refine hK.out _ _ trivial (fun _ => ?_)
            clear hK K
            refine wpAnyH_done (by kernel_rfl) ?_ _
            have HBF := hide (HB4.out.set1 va2 (q + 1) vc2)
            have HRF : Hid (RdrAt R lb (x4.setCell ⟨N, 1, none⟩ (.slice va2 (q + 1) vc2))) := hide (HR4.out.other (Below.heap_setCell x4 ⟨N, 1, none⟩ _ R (fun e => HNR.out e.symm)))
            have HWF := hide (HW4.out.more ((KeptS.refl _ x4).set N 1 (.slice va2 (q + 1) vc2) (Or.inr rfl)) HS.out)
            go_wp2_with fail
            exact ⟨⟨q + 1, va2, vc2, by omega, by go_num, hide (by rw [HSU.out.1, rgsC_snoc, ← n1b.out]; exact HWF.out), hide (by rw [HSU.out.2]; exact HRF.out), HBF⟩, by simp [intOf]; omega⟩
          · skip
            go_simp
            refine hK.out _ _ trivial (fun _ => ?_)
            clear hK K
            refine wpAnyH_ready (rs := [4, 11]) (by kernel_rfl) (by simp) ?_
            refine AllReadyH.cons rfl (fun K hK => ?_) (AllReadyH.cons rfl (fun K hK => ?_) AllReadyH.nil)
            · skip
              have k1 := HB2.out.c1
              go_simp
              clear k1
              refine hK.out _ _ trivial (fun _ => ?_)
              clear hK K
              refine wpAnyH_ready (rs := [11]) (by kernel_rfl) (by simp) ?_
              refine AllReadyH.cons rfl (fun K hK => ?_) AllReadyH.nil
              have HR3 : Hid (RdrAt R lb (x2.alloc (.cells #[.bool ((n1 : Int) == 1), .int .i64 n2] 106))) := hide (HR2.out.below (below_alloc _ _))
              have HW3 := hide (HW2.out.more (KeptS.of (below_alloc x2 (.cells #[.bool ((n1 : Int) == 1), .int .i64 n2] 106))) HS.out)
              have HB3 := hide (HB2.out.other ((below_alloc x2 (.cells #[.bool ((n1 : Int) == 1), .int .i64 n2] 106)).block N (blk_lt HB2.out)))
              have HL3 : Hid (Lies AnyB (x2.alloc (.cells #[.bool ((n1 : Int) == 1), .int .i64 n2] 106)) (some ⟨x2.heap.size, 0, none⟩) [.bool ((n1 : Int) == 1), .int .i64 n2]) := hide (Lies.blk (cs := [.bool ((n1 : Int) == 1), .int .i64 n2]) (blk_new x2 (.cells #[.bool ((n1 : Int) == 1), .int .i64 n2] 106)) trivial)
              go_simp
              generalize x2.alloc (.cells #[.bool ((n1 : Int) == 1), .int .i64 n2] 106) = x3 at *
              generalize x2.heap.size = B2 at *
              refine hK.out _ _ trivial (fun _ => ?_)
              clear hK K
              refine wpAnyH_ready (rs := [12]) (by kernel_rfl) (by simp) ?_
              refine AllReadyH.cons rfl (fun K hK => ?_) AllReadyH.nil
              obtain ⟨va2, vc2, x4, happ, hrow4, hnb4, hg⟩ := HW3.out.app (t := 56) info_rg (by decide) (by decide) rfl (by kernel_rfl) HS.out [.bool ((n1 : Int) == 1), .int .i64 n2] (some ⟨B2, 0, none⟩) 1 1 (q + 1) HL3.out rfl (by intro u hu; simp at hu; rcases hu with rfl | rfl <;> rfl) rfl (by omega)
              have HR4 : Hid (RdrAt R lb x4) := hide (HR3.out.other (HW3.out.other hg (HS.out R (Or.inl rfl))))
              have HB4 := hide (HB3.out.other (HW3.out.other hg (HS.out N (Or.inr rfl))))
              have HW4 := hide hrow4
              clear hrow4 hnb4 hg HL3
              refine (if_pos (by kernel_rfl)).mpr ?_
              refine wp_append_run happ _ _ rfl rfl rfl ?_
              simp only [Act.put, List.getElem_toArray, List.getElem_cons_succ, List.getElem_cons_zero, List.setIfInBounds_toArray, List.set_cons_zero, List.set_cons_succ]
              refine hK.out _ _ trivial (fun _ => ?_)
              clear hK K
              clear happ
              refine wpAnyH_take (i := 13) (oi := ⟨some 25, _, _, _, _, _⟩) (v := (.pointer (some ⟨N, 0, none⟩))) rfl (by kernel_rfl) (by kernel_rfl) (by kernel_rfl) (fun _ _ _ h => h) (Or.inl ⟨by rfl, fun W hS => by (go_simp)⟩) trivial ?_
              simp only [Act.put, List.setIfInBounds_toArray, List.set_cons_zero, List.set_cons_succ]
              refine wpAnyH_take (i := 14) (oi := ⟨some 26, _, _, _, _, _⟩) (v := (.pointer (some ⟨N, 1, none⟩))) rfl (by kernel_rfl) (by kernel_rfl) (by kernel_rfl) (fun _ _ _ h => h) (Or.inl ⟨by rfl, fun W hS => by (go_simp)⟩) trivial ?_
              simp only [Act.put, List.setIfInBounds_toArray, List.set_cons_zero, List.set_cons_succ]
              refine wpAnyH_ready (rs := [15]) (by kernel_rfl) (by simp) ?_
              refine AllReadyH.cons rfl (fun K hK => ?_) AllReadyH.nil
              have f4 : x4.frozen? ⟨N, 1, none⟩ = false := blk_frozen HB4.out 1
              have k4 := HB4.out.c1
              go_simp
              clear f4 k4
              refine hK.out _ _ trivial (fun _ => ?_)
              clear hK K
              refine wpAnyH_done (by kernel_rfl) ?_ _
              have HBF := hide (HB4.out.set1 va2 (q + 1) vc2)
              have HRF : Hid (RdrAt R lb (x4.setCell ⟨N, 1, none⟩ (.slice va2 (q + 1) vc2))) := hide (HR4.out.other (Below.heap_setCell x4 ⟨N, 1, none⟩ _ R (fun e => HNR.out e.symm)))
              have HWF := hide (HW4.out.more ((KeptS.refl _ x4).set N 1 (.slice va2 (q + 1) vc2) (Or.inr rfl)) HS.out)
              go_wp2_with fail
              exact ⟨⟨q + 1, va2, vc2, by omega, by go_num, hide (by rw [HSU.out.1, rgsC_snoc, ← n1b.out]; exact HWF.out), hide (by rw [HSU.out.2]; exact HRF.out), HBF⟩, by simp [intOf]; omega⟩
            · skip
              have HR3 : Hid (RdrAt R lb (x2.alloc (.cells #[.bool ((n1 : Int) == 1), .int .i64 n2] 106))) := hide (HR2.out.below (below_alloc _ _))
              have HW3 := hide (HW2.out.more (KeptS.of (below_alloc x2 (.cells #[.bool ((n1 : Int) == 1), .int .i64 n2] 106))) HS.out)
              have HB3 := hide (HB2.out.other ((below_alloc x2 (.cells #[.bool ((n1 : Int) == 1), .int .i64 n2] 106)).block N (blk_lt HB2.out)))
              have HL3 : Hid (Lies AnyB (x2.alloc (.cells #[.bool ((n1 : Int) == 1), .int .i64 n2] 106)) (some ⟨x2.heap.size, 0, none⟩) [.bool ((n1 : Int) == 1), .int .i64 n2]) := hide (Lies.blk (cs := [.bool ((n1 : Int) == 1), .int .i64 n2]) (blk_new x2 (.cells #[.bool ((n1 : Int) == 1), .int .i64 n2] 106)) trivial)
              go_simp
              generalize x2.alloc (.cells #[.bool ((n1 : Int) == 1), .int .i64 n2] 106) = x3 at *
              generalize x2.heap.size = B2 at *
              refine hK.out _ _ trivial (fun _ => ?_)
              clear hK K
              refine wpAnyH_ready (rs := [4]) (by kernel_rfl) (by simp) ?_
              refine AllReadyH.cons rfl (fun K hK => ?_) AllReadyH.nil
              have k1 := HB3.out.c1
              go_simp
              clear k1
              refine hK.out _ _ trivial (fun _ => ?_)
              clear hK K
              refine wpAnyH_ready (rs := [12]) (by kernel_rfl) (by simp) ?_
              refine AllReadyH.cons rfl (fun K hK => ?_) AllReadyH.nil
              obtain ⟨va2, vc2, x4, happ, hrow4, hnb4, hg⟩ := HW3.out.app (t := 56) info_rg (by decide) (by decide) rfl (by kernel_rfl) HS.out [.bool ((n1 : Int) == 1), .int .i64 n2] (some ⟨B2, 0, none⟩) 1 1 (q + 1) HL3.out rfl (by intro u hu; simp at hu; rcases hu with rfl | rfl <;> rfl) rfl (by omega)
              have HR4 : Hid (RdrAt R lb x4) := hide (HR3.out.other (HW3.out.other hg (HS.out R (Or.inl rfl))))
              have HB4 := hide (HB3.out.other (HW3.out.other hg (HS.out N (Or.inr rfl))))
              have HW4 := hide hrow4
              clear hrow4 hnb4 hg HL3
              refine (if_pos (by kernel_rfl)).mpr ?_
              refine wp_append_run happ _ _ rfl rfl rfl ?_
              simp only [Act.put, List.getElem_toArray, List.getElem_cons_succ, List.getElem_cons_zero, List.setIfInBounds_toArray, List.set_cons_zero, List.set_cons_succ]
              refine hK.out _ _ trivial (fun _ => ?_)
              clear hK K
              clear happ
              refine wpAnyH_take (i := 13) (oi := ⟨some 25, _, _, _, _, _⟩) (v := (.pointer (some ⟨N, 0, none⟩))) rfl (by kernel_rfl) (by kernel_rfl) (by kernel_rfl) (fun _ _ _ h => h) (Or.inl ⟨by rfl, fun W hS => by (go_simp)⟩) trivial ?_
              simp only [Act.put, List.setIfInBounds_toArray, List.set_cons_zero, List.set_cons_succ]
              refine wpAnyH_take (i := 14) (oi := ⟨some 26, _, _, _, _, _⟩) (v := (.pointer (some ⟨N, 1, none⟩))) rfl (by kernel_rfl) (by kernel_rfl) (by kernel_rfl) (fun _ _ _ h => h) (Or.inl ⟨by rfl, fun W hS => by (go_simp)⟩) trivial ?_
              simp only [Act.put, List.setIfInBounds_toArray, List.set_cons_zero, List.set_cons_succ]
              refine wpAnyH_ready (rs := [15]) (by kernel_rfl) (by simp) ?_
              refine AllReadyH.cons rfl (fun K hK => ?_) AllReadyH.nil
              have f4 : x4.frozen? ⟨N, 1, none⟩ = false := blk_frozen HB4.out 1
              have k4 := HB4.out.c1
              go_simp
              clear f4 k4
              refine hK.out _ _ trivial (fun _ => ?_)
              clear hK K
              refine wpAnyH_done (by kernel_rfl) ?_ _
              have HBF := hide (HB4.out.set1 va2 (q + 1) vc2)
              have HRF : Hid (RdrAt R lb (x4.setCell ⟨N, 1, none⟩ (.slice va2 (q + 1) vc2))) := hide (HR4.out.other (Below.heap_setCell x4 ⟨N, 1, none⟩ _ R (fun e => HNR.out e.symm)))
              have HWF := hide (HW4.out.more ((KeptS.refl _ x4).set N 1 (.slice va2 (q + 1) vc2) (Or.inr rfl)) HS.out)
              go_wp2_with fail
              exact ⟨⟨q + 1, va2, vc2, by omega, by go_num, hide (by rw [HSU.out.1, rgsC_snoc, ← n1b.out]; exact HWF.out), hide (by rw [HSU.out.2]; exact HRF.out), HBF⟩, by simp [intOf]; omega⟩
    · have HQ : Hid (q = c1) := hide (by omega)
      have HRL := hide (regsRd_len l2 c1)
      rw [HQ.out] at hrow hr hnb
      have hle2 := regsRd_le l2 c1
      have HRG : Hid (∀ W, KeptS (TwoB R N) wr W → Lies (FromB w.heap.size) W va (rgsC (regsRd l2 c1).1)) := hide fun W hk => by
        have h1 := hrow.out.lies
        have h2 := hrow.out.kept.size
        refine (h1.same fun b hb hl => hk.block b hl fun hs => ?_).imp fun b _ hb => ?_
        · have := HS.out b hs; unfold FromB at hb; omega
        · have := HK3.out.size; unfold FromB at hb ⊢; omega
      have HK4 : Hid (Kept R w wr) := hide (Kept.ofS ((KeptS.one HK3.out (Or.inl rfl)).trans hrow.out.kept) fun k hk hs => by
        rcases hs with rfl | rfl
        · rfl
        · have := HNW.out; omega)
      have hsz4 := hrow.out.kept.size
      have HS4 : Hid (∀ b, TwoB R N b → b < wr.heap.size) := hide fun b hb => Nat.lt_of_lt_of_le (HS.out b hb) hsz4
      clear hrow HS HR3 HB3
      have HSE : Hid ((((regsRd l2 c1).1, (regsRd l2 c1).2)) = regsRd l2 c1) := hide rfl
      generalize (regsRd l2 c1).1 = rs at *
      generalize (regsRd l2 c1).2 = l3 at *
      go_wp2_with fail
      refine (many_at R l3 20000 wr hr.out (by omega)).mono ?_
      rintro e w5 ⟨c2, rfl, hc2, hr5, hk5⟩
      have HC2 := hide hc2
      have hc2m := hc2.1
      have HR5 := hide hr5
      have HB5 := hide (hnb.out.other (hk5.block N (HS4.out N (Or.inr rfl)) HNR.out))
      have HK5 := hide (HK4.out.trans hk5)
      have HRG5 : Hid (∀ W, KeptS (TwoB R N) w5 W → Lies (FromB w.heap.size) W va (rgsC rs)) := hide fun W hk => HRG.out W ((KeptS.one hk5 (Or.inl rfl)).trans hk)
      have HS : Hid (∀ b, TwoB R N b → b < w5.heap.size) := hide fun b hb => Nat.lt_of_lt_of_le (HS4.out b hb) hk5.size
      clear hc2 hr5 hk5 HS4 HRG hnb hr hsz4
      have hle4 := numP_len l3
      generalize hnp3 : numP l3 = np3 at *
      have HNP3 := hide hnp3
      clear hnp3
      obtain ⟨nl, l4⟩ := np3
      simp only at HR5 hle4 HC2
      clear hq hlt
      go_wp2_with fail
      go_loopw [30] (fun i wr => ∃ (ya : Option Addr) (yc : Nat) (A : Nat → Option Addr) (C : Nat → Nat) (ls : List Lt) (lq : List UInt8), ls.length ≤ c2 ∧ i = .int .i64 ls.length ∧ Hid (LRow (TwoB R N) w5 wr ya yc A C ls) ∧ Hid (RdrAt R lq wr) ∧ Hid (NetB N gv va c1 vc ya ls.length yc none 0 0 wr) ∧ Hid (LutsRd l4 ls.length ls lq)) (fun i _ => c2 - (intOf i).toNat)
      case atStart => exact ⟨none, 0, fun _ => none, fun _ => 0, [], l4, Nat.zero_le _, rfl, hide (LRow.none _ _), HR5, HB5, hide LutsRd.none⟩
      case round =>
        obtain ⟨ya, yc, A, C, ls, lq, hq, rfl, hrow, hr, hnb, hrd⟩ := hrel
        by_cases hlt : ls.length < c2
        · have hqi : (ls.length : Int) < (c2 : Int) := by omega
          have hle5 := hrd.out.le
          have HLI := hide (fun W (h : RdrAt R lq W) => list_at R lq 4 W h (by omega) (by decide))
          clear HR5 HB5
          go_wp2_with fail
          refine wp_region_held_drew (S := fun _ => True) (by kernel_rfl) trivial (fun _ => ?_)
          have HW0 : Hid (LRow (TwoB R N) w5 wr.drew ya yc A C ls) := hide (hrow.out.more (KeptS.of (Below.refl _ _).drew) HS.out)
          have HR0 : Hid (RdrAt R lq wr.drew) := hide (hr.out.below (Below.refl _ _).drew)
          have HB0 : Hid (NetB N gv va c1 vc ya ls.length yc none 0 0 wr.drew) := hide (hnb.out.other rfl)
          generalize wr.drew = x0 at *
          clear hrow hr hnb
          have hqi1 : ls.length + 1 ≤ c2 := by omega
          refine wpAnyH_take (i := 0) (oi := ⟨some 32, _, _, _, _, _⟩) (v := (.pointer (some ⟨N, 0, none⟩))) rfl (by kernel_rfl) (by kernel_rfl) (by kernel_rfl) (fun _ _ _ h => h) (Or.inl ⟨by rfl, fun W hS => by (go_simp)⟩) trivial ?_
          simp only [Act.put, List.setIfInBounds_toArray, List.set_cons_zero, List.set_cons_succ]
          refine wpAnyH_take (i := 1) (oi := ⟨some 33, _, _, _, _, _⟩) (v := (.pointer (some ⟨N, 0, none⟩))) rfl (by kernel_rfl) (by kernel_rfl) (by kernel_rfl) (fun _ _ _ h => h) (Or.inl ⟨by rfl, fun W hS => by (go_simp)⟩) trivial ?_
          simp only [Act.put, List.setIfInBounds_toArray, List.set_cons_zero, List.set_cons_succ]
          refine wpAnyH_take (i := 5) (oi := ⟨some 37, _, _, _, _, _⟩) (v := (.pointer (some ⟨R, 0, none⟩))) rfl (by kernel_rfl) (by kernel_rfl) (by kernel_rfl) (fun _ _ _ h => h) (Or.inl ⟨by rfl, fun W hS => by (go_simp)⟩) trivial ?_
          simp only [Act.put, List.setIfInBounds_toArray, List.set_cons_zero, List.set_cons_succ]
          refine wpAnyH_take (i := 7) (oi := ⟨some 39, _, _, _, _, _⟩) (v := (.pointer (some ⟨R, 0, none⟩))) rfl (by kernel_rfl) (by kernel_rfl) (by kernel_rfl) (fun _ _ _ h => h) (Or.inl ⟨by rfl, fun W hS => by (go_simp)⟩) trivial ?_
          simp only [Act.put, List.setIfInBounds_toArray, List.set_cons_zero, List.set_cons_succ]
          refine wpAnyH_take (i := 2) (oi := ⟨some 34, _, _, _, _, _⟩) (v := (.pointer (some ⟨N, 0, none⟩))) rfl (by kernel_rfl) (by kernel_rfl) (by kernel_rfl) (fun _ _ _ h => h) (Or.inl ⟨by rfl, fun W hS => by (go_simp)⟩) trivial ?_
          simp only [Act.put, List.setIfInBounds_toArray, List.set_cons_zero, List.set_cons_succ]
          refine wpAnyH_take (i := 3) (oi := ⟨some 35, _, _, _, _, _⟩) (v := (.pointer (some ⟨N, 2, none⟩))) rfl (by kernel_rfl) (by kernel_rfl) (by kernel_rfl) (fun _ _ _ h => h) (Or.inl ⟨by rfl, fun W hS => by (go_simp)⟩) trivial ?_
          simp only [Act.put, List.setIfInBounds_toArray, List.set_cons_zero, List.set_cons_succ]
          refine wpAnyH_ready (rs := [4, 6]) (by kernel_rfl) (by simp) ?_
          refine AllReadyH.cons rfl (fun K hK => ?_) (AllReadyH.cons rfl (fun K hK => ?_) AllReadyH.nil)
          · skip
            have k1 := HB0.out.c2
            go_simp
            clear k1
            refine hK.out _ _ trivial (fun _ => ?_)
            clear hK K
            refine wpAnyH_ready (rs := [6]) (by kernel_rfl) (by simp) ?_
            refine AllReadyH.cons rfl (fun K hK => ?_) AllReadyH.nil
            go_simp
            refine (HLI.out x0 HR0.out).mono ?_
            rintro e x1 ⟨ia, ic, ins, l2, rfl, hli, hr1, hil, hk1⟩
            have hle6 := hli.le
            have HLR := hide hli
            have HIN : Hid (Lies (fun b => w5.heap.size ≤ b ∧ b < x1.heap.size ∧ (Value.slice ya ls.length yc).ownBlock ≠ some b) x1 ia (intsC ins)) := hide (hil.imp fun b hlt hb => ⟨by have := HW0.out.row.kept.size; unfold FromB at hb; omega, hlt, fun e => by have := HW0.out.row.mine.lt b e; unfold FromB at hb; omega⟩)
            have HR1 := hide hr1
            have HW1 := hide (HW0.out.more (KeptS.one hk1 (Or.inl rfl)) HS.out)
            have HB1 := hide (HB0.out.other (hk1.block N (blk_lt HB0.out) HNR.out))
            clear hr1 hk1 hil hli HR0 HW0 HB0
            refine hK.out _ _ trivial (fun _ => ?_)
            clear hK K
            refine wpAnyH_ready (rs := [8]) (by kernel_rfl) (by simp) ?_
            refine AllReadyH.cons rfl (fun K hK => ?_) AllReadyH.nil
            go_simp
            refine (number_at R l2 x1 HR1.out (by omega)).mono ?_
            rintro e x2 ⟨rfl, hr1, hk1⟩
            generalize hn2 : numP l2 = nn at *
            have HN2 := hide hn2
            clear hn2
            obtain ⟨n2, l6⟩ := nn
            simp only at hr1
            have HIN2 : Hid (Lies (fun b => w5.heap.size ≤ b ∧ b < x2.heap.size ∧ (Value.slice ya ls.length yc).ownBlock ≠ some b) x2 ia (intsC ins)) := hide ((HIN.out.same fun b hs hl => hk1.block b hl fun e => by have h1 := HS.out R (Or.inl rfl); have h2 := hs.1; omega).imp fun b hl hs => ⟨hs.1, hl, hs.2.2⟩)
            have HR2 := hide hr1
            have HW2 := hide (HW1.out.more (KeptS.one hk1 (Or.inl rfl)) HS.out)
            have HB2 := hide (HB1.out.other (hk1.block N (blk_lt HB1.out) HNR.out))
            clear hr1 hk1 HIN HR1 HW1 HB1
            refine hK.out _ _ trivial (fun _ => ?_)
            clear hK K
            refine wpAnyH_ready (rs := [9]) (by kernel_rfl) (by simp) ?_
            refine AllReadyH.cons rfl (fun K hK => ?_) AllReadyH.nil
            go_simp
            refine hK.out _ _ trivial (fun _ => ?_)
            clear hK K
            refine wpAnyH_ready (rs := [10]) (by kernel_rfl) (by simp) ?_
            refine AllReadyH.cons rfl (fun K hK => ?_) AllReadyH.nil
            have HIN3 : Hid (Lies (fun b => w5.heap.size ≤ b ∧ b < (x2.alloc (.cells #[.slice ia ins.length ic, .int .i64 n2] 124)).heap.size ∧ (Value.slice ya ls.length yc).ownBlock ≠ some b) (x2.alloc (.cells #[.slice ia ins.length ic, .int .i64 n2] 124)) ia (intsC ins)) := hide ((HIN2.out.below (below_alloc x2 (.cells #[.slice ia ins.length ic, .int .i64 n2] 124))).imp fun b hl hs => ⟨hs.1, hl, hs.2.2⟩)
            have HR3 : Hid (RdrAt R l6 (x2.alloc (.cells #[.slice ia ins.length ic, .int .i64 n2] 124))) := hide (HR2.out.below (below_alloc _ _))
            have HW3 := hide (HW2.out.more (KeptS.of (below_alloc x2 (.cells #[.slice ia ins.length ic, .int .i64 n2] 124))) HS.out)
            have HB3 := hide (HB2.out.other ((below_alloc x2 (.cells #[.slice ia ins.length ic, .int .i64 n2] 124)).block N (blk_lt HB2.out)))
            have HL3 : Hid (Lies AnyB (x2.alloc (.cells #[.slice ia ins.length ic, .int .i64 n2] 124)) (some ⟨x2.heap.size, 0, none⟩) [.slice ia ins.length ic, .int .i64 n2]) := hide (Lies.blk (cs := [.slice ia ins.length ic, .int .i64 n2]) (blk_new x2 (.cells #[.slice ia ins.length ic, .int .i64 n2] 124)) trivial)
            go_simp
            generalize x2.alloc (.cells #[.slice ia ins.length ic, .int .i64 n2] 124) = x3 at *
            generalize x2.heap.size = B2 at *
            refine hK.out _ _ trivial (fun _ => ?_)
            clear hK K
            refine wpAnyH_ready (rs := [11]) (by kernel_rfl) (by simp) ?_
            refine AllReadyH.cons rfl (fun K hK => ?_) AllReadyH.nil
            obtain ⟨ya2, yc2, x4, happ, hrow4, hg⟩ := HW3.out.app HS.out ⟨ins, (n2 : Int)⟩ ia ic HIN3.out (some ⟨B2, 0, none⟩) HL3.out (ls.length + 1) rfl (by omega)
            have HR4 : Hid (RdrAt R l6 x4) := hide (HR3.out.other (HW3.out.row.other hg (HS.out R (Or.inl rfl))))
            have HB4 := hide (HB3.out.other (HW3.out.row.other hg (HS.out N (Or.inr rfl))))
            have HW4 := hide hrow4
            clear hrow4 hg HL3
            refine (if_pos (by kernel_rfl)).mpr ?_
            refine wp_append_run happ _ _ rfl rfl rfl ?_
            simp only [Act.put, List.getElem_toArray, List.getElem_cons_succ, List.getElem_cons_zero, List.setIfInBounds_toArray, List.set_cons_zero, List.set_cons_succ]
            refine hK.out _ _ trivial (fun _ => ?_)
            clear hK K
            clear happ
            refine wpAnyH_take (i := 12) (oi := ⟨some 44, _, _, _, _, _⟩) (v := (.pointer (some ⟨N, 0, none⟩))) rfl (by kernel_rfl) (by kernel_rfl) (by kernel_rfl) (fun _ _ _ h => h) (Or.inl ⟨by rfl, fun W hS => by (go_simp)⟩) trivial ?_
            simp only [Act.put, List.setIfInBounds_toArray, List.set_cons_zero, List.set_cons_succ]
            refine wpAnyH_take (i := 13) (oi := ⟨some 45, _, _, _, _, _⟩) (v := (.pointer (some ⟨N, 2, none⟩))) rfl (by kernel_rfl) (by kernel_rfl) (by kernel_rfl) (fun _ _ _ h => h) (Or.inl ⟨by rfl, fun W hS => by (go_simp)⟩) trivial ?_
            simp only [Act.put, List.setIfInBounds_toArray, List.set_cons_zero, List.set_cons_succ]
            refine wpAnyH_ready (rs := [14]) (by kernel_rfl) (by simp) ?_
            refine AllReadyH.cons rfl (fun K hK => ?_) AllReadyH.nil
            have f4 : x4.frozen? ⟨N, 2, none⟩ = false := blk_frozen HB4.out 2
            have k4 := HB4.out.c2
            go_simp
            clear f4 k4
            refine hK.out _ _ trivial (fun _ => ?_)
            clear hK K
            refine wpAnyH_done (by kernel_rfl) ?_ _
            have HBF : Hid (NetB N gv va c1 vc ya2 (ls ++ [(⟨ins, (n2 : Int)⟩ : Lt)]).length yc2 none 0 0 (x4.setCell ⟨N, 2, none⟩ (.slice ya2 (ls.length + 1) yc2))) := hide (by rw [List.length_append]; exact HB4.out.set2 ya2 (ls.length + 1) yc2)
            have HRF : Hid (RdrAt R l6 (x4.setCell ⟨N, 2, none⟩ (.slice ya2 (ls.length + 1) yc2))) := hide (HR4.out.other (Below.heap_setCell x4 ⟨N, 2, none⟩ _ R (fun e => HNR.out e.symm)))
            have HWF := hide (HW4.out.more ((KeptS.refl _ x4).set N 2 (.slice ya2 (ls.length + 1) yc2) (Or.inr rfl)) HS.out)
            have HRDF : Hid (LutsRd l4 (ls ++ [(⟨ins, (n2 : Int)⟩ : Lt)]).length (ls ++ [⟨ins, (n2 : Int)⟩]) l6) := hide (by
              have h := LutsRd.more hrd.out HLR.out
              rw [HN2.out] at h
              rw [List.length_append]; exact h)
            go_wp2_with fail
            exact ⟨⟨ya2, yc2, _, _, ls ++ [⟨ins, (n2 : Int)⟩], l6, by rw [List.length_append]; exact hqi1, by rw [List.length_append]; go_num, HWF, HRF, HBF, HRDF⟩, by simp [intOf]; omega⟩
          · skip
            go_simp
            refine (HLI.out x0 HR0.out).mono ?_
            rintro e x1 ⟨ia, ic, ins, l2, rfl, hli, hr1, hil, hk1⟩
            have hle6 := hli.le
            have HLR := hide hli
            have HIN : Hid (Lies (fun b => w5.heap.size ≤ b ∧ b < x1.heap.size ∧ (Value.slice ya ls.length yc).ownBlock ≠ some b) x1 ia (intsC ins)) := hide (hil.imp fun b hlt hb => ⟨by have := HW0.out.row.kept.size; unfold FromB at hb; omega, hlt, fun e => by have := HW0.out.row.mine.lt b e; unfold FromB at hb; omega⟩)
            have HR1 := hide hr1
            have HW1 := hide (HW0.out.more (KeptS.one hk1 (Or.inl rfl)) HS.out)
            have HB1 := hide (HB0.out.other (hk1.block N (blk_lt HB0.out) HNR.out))
            clear hr1 hk1 hil hli HR0 HW0 HB0
            refine hK.out _ _ trivial (fun _ => ?_)
            clear hK K
            refine wpAnyH_ready (rs := [4, 8]) (by kernel_rfl) (by simp) ?_
            refine AllReadyH.cons rfl (fun K hK => ?_) (AllReadyH.cons rfl (fun K hK => ?_) AllReadyH.nil)
            · skip
              have k1 := HB1.out.c2
              go_simp
              clear k1
              refine hK.out _ _ trivial (fun _ => ?_)
              clear hK K
              refine wpAnyH_ready (rs := [8]) (by kernel_rfl) (by simp) ?_
              refine AllReadyH.cons rfl (fun K hK => ?_) AllReadyH.nil
              go_simp
              refine (number_at R l2 x1 HR1.out (by omega)).mono ?_
              rintro e x2 ⟨rfl, hr1, hk1⟩
              generalize hn2 : numP l2 = nn at *
              have HN2 := hide hn2
              clear hn2
              obtain ⟨n2, l6⟩ := nn
              simp only at hr1
              have HIN2 : Hid (Lies (fun b => w5.heap.size ≤ b ∧ b < x2.heap.size ∧ (Value.slice ya ls.length yc).ownBlock ≠ some b) x2 ia (intsC ins)) := hide ((HIN.out.same fun b hs hl => hk1.block b hl fun e => by have h1 := HS.out R (Or.inl rfl); have h2 := hs.1; omega).imp fun b hl hs => ⟨hs.1, hl, hs.2.2⟩)
              have HR2 := hide hr1
              have HW2 := hide (HW1.out.more (KeptS.one hk1 (Or.inl rfl)) HS.out)
              have HB2 := hide (HB1.out.other (hk1.block N (blk_lt HB1.out) HNR.out))
              clear hr1 hk1 HIN HR1 HW1 HB1
              refine hK.out _ _ trivial (fun _ => ?_)
              clear hK K
              refine wpAnyH_ready (rs := [9]) (by kernel_rfl) (by simp) ?_
              refine AllReadyH.cons rfl (fun K hK => ?_) AllReadyH.nil
              go_simp
              refine hK.out _ _ trivial (fun _ => ?_)
              clear hK K
              refine wpAnyH_ready (rs := [10]) (by kernel_rfl) (by simp) ?_
              refine AllReadyH.cons rfl (fun K hK => ?_) AllReadyH.nil
              have HIN3 : Hid (Lies (fun b => w5.heap.size ≤ b ∧ b < (x2.alloc (.cells #[.slice ia ins.length ic, .int .i64 n2] 124)).heap.size ∧ (Value.slice ya ls.length yc).ownBlock ≠ some b) (x2.alloc (.cells #[.slice ia ins.length ic, .int .i64 n2] 124)) ia (intsC ins)) := hide ((HIN2.out.below (below_alloc x2 (.cells #[.slice ia ins.length ic, .int .i64 n2] 124))).imp fun b hl hs => ⟨hs.1, hl, hs.2.2⟩)
              have HR3 : Hid (RdrAt R l6 (x2.alloc (.cells #[.slice ia ins.length ic, .int .i64 n2] 124))) := hide (HR2.out.below (below_alloc _ _))
              have HW3 := hide (HW2.out.more (KeptS.of (below_alloc x2 (.cells #[.slice ia ins.length ic, .int .i64 n2] 124))) HS.out)
              have HB3 := hide (HB2.out.other ((below_alloc x2 (.cells #[.slice ia ins.length ic, .int .i64 n2] 124)).block N (blk_lt HB2.out)))
              have HL3 : Hid (Lies AnyB (x2.alloc (.cells #[.slice ia ins.length ic, .int .i64 n2] 124)) (some ⟨x2.heap.size, 0, none⟩) [.slice ia ins.length ic, .int .i64 n2]) := hide (Lies.blk (cs := [.slice ia ins.length ic, .int .i64 n2]) (blk_new x2 (.cells #[.slice ia ins.length ic, .int .i64 n2] 124)) trivial)
              go_simp
              generalize x2.alloc (.cells #[.slice ia ins.length ic, .int .i64 n2] 124) = x3 at *
              generalize x2.heap.size = B2 at *
              refine hK.out _ _ trivial (fun _ => ?_)
              clear hK K
              refine wpAnyH_ready (rs := [11]) (by kernel_rfl) (by simp) ?_
              refine AllReadyH.cons rfl (fun K hK => ?_) AllReadyH.nil
              obtain ⟨ya2, yc2, x4, happ, hrow4, hg⟩ := HW3.out.app HS.out ⟨ins, (n2 : Int)⟩ ia ic HIN3.out (some ⟨B2, 0, none⟩) HL3.out (ls.length + 1) rfl (by omega)
              have HR4 : Hid (RdrAt R l6 x4) := hide (HR3.out.other (HW3.out.row.other hg (HS.out R (Or.inl rfl))))
              have HB4 := hide (HB3.out.other (HW3.out.row.other hg (HS.out N (Or.inr rfl))))
              have HW4 := hide hrow4
              clear hrow4 hg HL3
              refine (if_pos (by kernel_rfl)).mpr ?_
              refine wp_append_run happ _ _ rfl rfl rfl ?_
              simp only [Act.put, List.getElem_toArray, List.getElem_cons_succ, List.getElem_cons_zero, List.setIfInBounds_toArray, List.set_cons_zero, List.set_cons_succ]
              refine hK.out _ _ trivial (fun _ => ?_)
              clear hK K
              clear happ
              refine wpAnyH_take (i := 12) (oi := ⟨some 44, _, _, _, _, _⟩) (v := (.pointer (some ⟨N, 0, none⟩))) rfl (by kernel_rfl) (by kernel_rfl) (by kernel_rfl) (fun _ _ _ h => h) (Or.inl ⟨by rfl, fun W hS => by (go_simp)⟩) trivial ?_
              simp only [Act.put, List.setIfInBounds_toArray, List.set_cons_zero, List.set_cons_succ]
              refine wpAnyH_take (i := 13) (oi := ⟨some 45, _, _, _, _, _⟩) (v := (.pointer (some ⟨N, 2, none⟩))) rfl (by kernel_rfl) (by kernel_rfl) (by kernel_rfl) (fun _ _ _ h => h) (Or.inl ⟨by rfl, fun W hS => by (go_simp)⟩) trivial ?_
              simp only [Act.put, List.setIfInBounds_toArray, List.set_cons_zero, List.set_cons_succ]
              refine wpAnyH_ready (rs := [14]) (by kernel_rfl) (by simp) ?_
              refine AllReadyH.cons rfl (fun K hK => ?_) AllReadyH.nil
              have f4 : x4.frozen? ⟨N, 2, none⟩ = false := blk_frozen HB4.out 2
              have k4 := HB4.out.c2
              go_simp
              clear f4 k4
              refine hK.out _ _ trivial (fun _ => ?_)
              clear hK K
              refine wpAnyH_done (by kernel_rfl) ?_ _
              have HBF : Hid (NetB N gv va c1 vc ya2 (ls ++ [(⟨ins, (n2 : Int)⟩ : Lt)]).length yc2 none 0 0 (x4.setCell ⟨N, 2, none⟩ (.slice ya2 (ls.length + 1) yc2))) := hide (by rw [List.length_append]; exact HB4.out.set2 ya2 (ls.length + 1) yc2)
              have HRF : Hid (RdrAt R l6 (x4.setCell ⟨N, 2, none⟩ (.slice ya2 (ls.length + 1) yc2))) := hide (HR4.out.other (Below.heap_setCell x4 ⟨N, 2, none⟩ _ R (fun e => HNR.out e.symm)))
              have HWF := hide (HW4.out.more ((KeptS.refl _ x4).set N 2 (.slice ya2 (ls.length + 1) yc2) (Or.inr rfl)) HS.out)
              have HRDF : Hid (LutsRd l4 (ls ++ [(⟨ins, (n2 : Int)⟩ : Lt)]).length (ls ++ [⟨ins, (n2 : Int)⟩]) l6) := hide (by
                have h := LutsRd.more hrd.out HLR.out
                rw [HN2.out] at h
                rw [List.length_append]; exact h)
              go_wp2_with fail
              exact ⟨⟨ya2, yc2, _, _, ls ++ [⟨ins, (n2 : Int)⟩], l6, by rw [List.length_append]; exact hqi1, by rw [List.length_append]; go_num, HWF, HRF, HBF, HRDF⟩, by simp [intOf]; omega⟩
            · skip
              go_simp
              refine (number_at R l2 x1 HR1.out (by omega)).mono ?_
              rintro e x2 ⟨rfl, hr1, hk1⟩
              generalize hn2 : numP l2 = nn at *
              have HN2 := hide hn2
              clear hn2
              obtain ⟨n2, l6⟩ := nn
              simp only at hr1
              have HIN2 : Hid (Lies (fun b => w5.heap.size ≤ b ∧ b < x2.heap.size ∧ (Value.slice ya ls.length yc).ownBlock ≠ some b) x2 ia (intsC ins)) := hide ((HIN.out.same fun b hs hl => hk1.block b hl fun e => by have h1 := HS.out R (Or.inl rfl); have h2 := hs.1; omega).imp fun b hl hs => ⟨hs.1, hl, hs.2.2⟩)
              have HR2 := hide hr1
              have HW2 := hide (HW1.out.more (KeptS.one hk1 (Or.inl rfl)) HS.out)
              have HB2 := hide (HB1.out.other (hk1.block N (blk_lt HB1.out) HNR.out))
              clear hr1 hk1 HIN HR1 HW1 HB1
              refine hK.out _ _ trivial (fun _ => ?_)
              clear hK K
              refine wpAnyH_ready (rs := [4, 9]) (by kernel_rfl) (by simp) ?_
              refine AllReadyH.cons rfl (fun K hK => ?_) (AllReadyH.cons rfl (fun K hK => ?_) AllReadyH.nil)
              · skip
                have k1 := HB2.out.c2
                go_simp
                clear k1
                refine hK.out _ _ trivial (fun _ => ?_)
                clear hK K
                refine wpAnyH_ready (rs := [9]) (by kernel_rfl) (by simp) ?_
                refine AllReadyH.cons rfl (fun K hK => ?_) AllReadyH.nil
                go_simp
                refine hK.out _ _ trivial (fun _ => ?_)
                clear hK K
                refine wpAnyH_ready (rs := [10]) (by kernel_rfl) (by simp) ?_
                refine AllReadyH.cons rfl (fun K hK => ?_) AllReadyH.nil
                have HIN3 : Hid (Lies (fun b => w5.heap.size ≤ b ∧ b < (x2.alloc (.cells #[.slice ia ins.length ic, .int .i64 n2] 124)).heap.size ∧ (Value.slice ya ls.length yc).ownBlock ≠ some b) (x2.alloc (.cells #[.slice ia ins.length ic, .int .i64 n2] 124)) ia (intsC ins)) := hide ((HIN2.out.below (below_alloc x2 (.cells #[.slice ia ins.length ic, .int .i64 n2] 124))).imp fun b hl hs => ⟨hs.1, hl, hs.2.2⟩)
                have HR3 : Hid (RdrAt R l6 (x2.alloc (.cells #[.slice ia ins.length ic, .int .i64 n2] 124))) := hide (HR2.out.below (below_alloc _ _))
                have HW3 := hide (HW2.out.more (KeptS.of (below_alloc x2 (.cells #[.slice ia ins.length ic, .int .i64 n2] 124))) HS.out)
                have HB3 := hide (HB2.out.other ((below_alloc x2 (.cells #[.slice ia ins.length ic, .int .i64 n2] 124)).block N (blk_lt HB2.out)))
                have HL3 : Hid (Lies AnyB (x2.alloc (.cells #[.slice ia ins.length ic, .int .i64 n2] 124)) (some ⟨x2.heap.size, 0, none⟩) [.slice ia ins.length ic, .int .i64 n2]) := hide (Lies.blk (cs := [.slice ia ins.length ic, .int .i64 n2]) (blk_new x2 (.cells #[.slice ia ins.length ic, .int .i64 n2] 124)) trivial)
                go_simp
                generalize x2.alloc (.cells #[.slice ia ins.length ic, .int .i64 n2] 124) = x3 at *
                generalize x2.heap.size = B2 at *
                refine hK.out _ _ trivial (fun _ => ?_)
                clear hK K
                refine wpAnyH_ready (rs := [11]) (by kernel_rfl) (by simp) ?_
                refine AllReadyH.cons rfl (fun K hK => ?_) AllReadyH.nil
                obtain ⟨ya2, yc2, x4, happ, hrow4, hg⟩ := HW3.out.app HS.out ⟨ins, (n2 : Int)⟩ ia ic HIN3.out (some ⟨B2, 0, none⟩) HL3.out (ls.length + 1) rfl (by omega)
                have HR4 : Hid (RdrAt R l6 x4) := hide (HR3.out.other (HW3.out.row.other hg (HS.out R (Or.inl rfl))))
                have HB4 := hide (HB3.out.other (HW3.out.row.other hg (HS.out N (Or.inr rfl))))
                have HW4 := hide hrow4
                clear hrow4 hg HL3
                refine (if_pos (by kernel_rfl)).mpr ?_
                refine wp_append_run happ _ _ rfl rfl rfl ?_
                simp only [Act.put, List.getElem_toArray, List.getElem_cons_succ, List.getElem_cons_zero, List.setIfInBounds_toArray, List.set_cons_zero, List.set_cons_succ]
                refine hK.out _ _ trivial (fun _ => ?_)
                clear hK K
                clear happ
                refine wpAnyH_take (i := 12) (oi := ⟨some 44, _, _, _, _, _⟩) (v := (.pointer (some ⟨N, 0, none⟩))) rfl (by kernel_rfl) (by kernel_rfl) (by kernel_rfl) (fun _ _ _ h => h) (Or.inl ⟨by rfl, fun W hS => by (go_simp)⟩) trivial ?_
                simp only [Act.put, List.setIfInBounds_toArray, List.set_cons_zero, List.set_cons_succ]
                refine wpAnyH_take (i := 13) (oi := ⟨some 45, _, _, _, _, _⟩) (v := (.pointer (some ⟨N, 2, none⟩))) rfl (by kernel_rfl) (by kernel_rfl) (by kernel_rfl) (fun _ _ _ h => h) (Or.inl ⟨by rfl, fun W hS => by (go_simp)⟩) trivial ?_
                simp only [Act.put, List.setIfInBounds_toArray, List.set_cons_zero, List.set_cons_succ]
                refine wpAnyH_ready (rs := [14]) (by kernel_rfl) (by simp) ?_
                refine AllReadyH.cons rfl (fun K hK => ?_) AllReadyH.nil
                have f4 : x4.frozen? ⟨N, 2, none⟩ = false := blk_frozen HB4.out 2
                have k4 := HB4.out.c2
                go_simp
                clear f4 k4
                refine hK.out _ _ trivial (fun _ => ?_)
                clear hK K
                refine wpAnyH_done (by kernel_rfl) ?_ _
                have HBF : Hid (NetB N gv va c1 vc ya2 (ls ++ [(⟨ins, (n2 : Int)⟩ : Lt)]).length yc2 none 0 0 (x4.setCell ⟨N, 2, none⟩ (.slice ya2 (ls.length + 1) yc2))) := hide (by rw [List.length_append]; exact HB4.out.set2 ya2 (ls.length + 1) yc2)
                have HRF : Hid (RdrAt R l6 (x4.setCell ⟨N, 2, none⟩ (.slice ya2 (ls.length + 1) yc2))) := hide (HR4.out.other (Below.heap_setCell x4 ⟨N, 2, none⟩ _ R (fun e => HNR.out e.symm)))
                have HWF := hide (HW4.out.more ((KeptS.refl _ x4).set N 2 (.slice ya2 (ls.length + 1) yc2) (Or.inr rfl)) HS.out)
                have HRDF : Hid (LutsRd l4 (ls ++ [(⟨ins, (n2 : Int)⟩ : Lt)]).length (ls ++ [⟨ins, (n2 : Int)⟩]) l6) := hide (by
                  have h := LutsRd.more hrd.out HLR.out
                  rw [HN2.out] at h
                  rw [List.length_append]; exact h)
                go_wp2_with fail
                exact ⟨⟨ya2, yc2, _, _, ls ++ [⟨ins, (n2 : Int)⟩], l6, by rw [List.length_append]; exact hqi1, by rw [List.length_append]; go_num, HWF, HRF, HBF, HRDF⟩, by simp [intOf]; omega⟩
              · skip
                go_simp
                refine hK.out _ _ trivial (fun _ => ?_)
                clear hK K
                refine wpAnyH_ready (rs := [4, 10]) (by kernel_rfl) (by simp) ?_
                refine AllReadyH.cons rfl (fun K hK => ?_) (AllReadyH.cons rfl (fun K hK => ?_) AllReadyH.nil)
                · skip
                  have k1 := HB2.out.c2
                  go_simp
                  clear k1
                  refine hK.out _ _ trivial (fun _ => ?_)
                  clear hK K
                  refine wpAnyH_ready (rs := [10]) (by kernel_rfl) (by simp) ?_
                  refine AllReadyH.cons rfl (fun K hK => ?_) AllReadyH.nil
                  have HIN3 : Hid (Lies (fun b => w5.heap.size ≤ b ∧ b < (x2.alloc (.cells #[.slice ia ins.length ic, .int .i64 n2] 124)).heap.size ∧ (Value.slice ya ls.length yc).ownBlock ≠ some b) (x2.alloc (.cells #[.slice ia ins.length ic, .int .i64 n2] 124)) ia (intsC ins)) := hide ((HIN2.out.below (below_alloc x2 (.cells #[.slice ia ins.length ic, .int .i64 n2] 124))).imp fun b hl hs => ⟨hs.1, hl, hs.2.2⟩)
                  have HR3 : Hid (RdrAt R l6 (x2.alloc (.cells #[.slice ia ins.length ic, .int .i64 n2] 124))) := hide (HR2.out.below (below_alloc _ _))
                  have HW3 := hide (HW2.out.more (KeptS.of (below_alloc x2 (.cells #[.slice ia ins.length ic, .int .i64 n2] 124))) HS.out)
                  have HB3 := hide (HB2.out.other ((below_alloc x2 (.cells #[.slice ia ins.length ic, .int .i64 n2] 124)).block N (blk_lt HB2.out)))
                  have HL3 : Hid (Lies AnyB (x2.alloc (.cells #[.slice ia ins.length ic, .int .i64 n2] 124)) (some ⟨x2.heap.size, 0, none⟩) [.slice ia ins.length ic, .int .i64 n2]) := hide (Lies.blk (cs := [.slice ia ins.length ic, .int .i64 n2]) (blk_new x2 (.cells #[.slice ia ins.length ic, .int .i64 n2] 124)) trivial)
                  go_simp
                  generalize x2.alloc (.cells #[.slice ia ins.length ic, .int .i64 n2] 124) = x3 at *
                  generalize x2.heap.size = B2 at *
                  refine hK.out _ _ trivial (fun _ => ?_)
                  clear hK K
                  refine wpAnyH_ready (rs := [11]) (by kernel_rfl) (by simp) ?_
                  refine AllReadyH.cons rfl (fun K hK => ?_) AllReadyH.nil
                  obtain ⟨ya2, yc2, x4, happ, hrow4, hg⟩ := HW3.out.app HS.out ⟨ins, (n2 : Int)⟩ ia ic HIN3.out (some ⟨B2, 0, none⟩) HL3.out (ls.length + 1) rfl (by omega)
                  have HR4 : Hid (RdrAt R l6 x4) := hide (HR3.out.other (HW3.out.row.other hg (HS.out R (Or.inl rfl))))
                  have HB4 := hide (HB3.out.other (HW3.out.row.other hg (HS.out N (Or.inr rfl))))
                  have HW4 := hide hrow4
                  clear hrow4 hg HL3
                  refine (if_pos (by kernel_rfl)).mpr ?_
                  refine wp_append_run happ _ _ rfl rfl rfl ?_
                  simp only [Act.put, List.getElem_toArray, List.getElem_cons_succ, List.getElem_cons_zero, List.setIfInBounds_toArray, List.set_cons_zero, List.set_cons_succ]
                  refine hK.out _ _ trivial (fun _ => ?_)
                  clear hK K
                  clear happ
                  refine wpAnyH_take (i := 12) (oi := ⟨some 44, _, _, _, _, _⟩) (v := (.pointer (some ⟨N, 0, none⟩))) rfl (by kernel_rfl) (by kernel_rfl) (by kernel_rfl) (fun _ _ _ h => h) (Or.inl ⟨by rfl, fun W hS => by (go_simp)⟩) trivial ?_
                  simp only [Act.put, List.setIfInBounds_toArray, List.set_cons_zero, List.set_cons_succ]
                  refine wpAnyH_take (i := 13) (oi := ⟨some 45, _, _, _, _, _⟩) (v := (.pointer (some ⟨N, 2, none⟩))) rfl (by kernel_rfl) (by kernel_rfl) (by kernel_rfl) (fun _ _ _ h => h) (Or.inl ⟨by rfl, fun W hS => by (go_simp)⟩) trivial ?_
                  simp only [Act.put, List.setIfInBounds_toArray, List.set_cons_zero, List.set_cons_succ]
                  refine wpAnyH_ready (rs := [14]) (by kernel_rfl) (by simp) ?_
                  refine AllReadyH.cons rfl (fun K hK => ?_) AllReadyH.nil
                  have f4 : x4.frozen? ⟨N, 2, none⟩ = false := blk_frozen HB4.out 2
                  have k4 := HB4.out.c2
                  go_simp
                  clear f4 k4
                  refine hK.out _ _ trivial (fun _ => ?_)
                  clear hK K
                  refine wpAnyH_done (by kernel_rfl) ?_ _
                  have HBF : Hid (NetB N gv va c1 vc ya2 (ls ++ [(⟨ins, (n2 : Int)⟩ : Lt)]).length yc2 none 0 0 (x4.setCell ⟨N, 2, none⟩ (.slice ya2 (ls.length + 1) yc2))) := hide (by rw [List.length_append]; exact HB4.out.set2 ya2 (ls.length + 1) yc2)
                  have HRF : Hid (RdrAt R l6 (x4.setCell ⟨N, 2, none⟩ (.slice ya2 (ls.length + 1) yc2))) := hide (HR4.out.other (Below.heap_setCell x4 ⟨N, 2, none⟩ _ R (fun e => HNR.out e.symm)))
                  have HWF := hide (HW4.out.more ((KeptS.refl _ x4).set N 2 (.slice ya2 (ls.length + 1) yc2) (Or.inr rfl)) HS.out)
                  have HRDF : Hid (LutsRd l4 (ls ++ [(⟨ins, (n2 : Int)⟩ : Lt)]).length (ls ++ [⟨ins, (n2 : Int)⟩]) l6) := hide (by
                    have h := LutsRd.more hrd.out HLR.out
                    rw [HN2.out] at h
                    rw [List.length_append]; exact h)
                  go_wp2_with fail
                  exact ⟨⟨ya2, yc2, _, _, ls ++ [⟨ins, (n2 : Int)⟩], l6, by rw [List.length_append]; exact hqi1, by rw [List.length_append]; go_num, HWF, HRF, HBF, HRDF⟩, by simp [intOf]; omega⟩
                · skip
                  have HIN3 : Hid (Lies (fun b => w5.heap.size ≤ b ∧ b < (x2.alloc (.cells #[.slice ia ins.length ic, .int .i64 n2] 124)).heap.size ∧ (Value.slice ya ls.length yc).ownBlock ≠ some b) (x2.alloc (.cells #[.slice ia ins.length ic, .int .i64 n2] 124)) ia (intsC ins)) := hide ((HIN2.out.below (below_alloc x2 (.cells #[.slice ia ins.length ic, .int .i64 n2] 124))).imp fun b hl hs => ⟨hs.1, hl, hs.2.2⟩)
                  have HR3 : Hid (RdrAt R l6 (x2.alloc (.cells #[.slice ia ins.length ic, .int .i64 n2] 124))) := hide (HR2.out.below (below_alloc _ _))
                  have HW3 := hide (HW2.out.more (KeptS.of (below_alloc x2 (.cells #[.slice ia ins.length ic, .int .i64 n2] 124))) HS.out)
                  have HB3 := hide (HB2.out.other ((below_alloc x2 (.cells #[.slice ia ins.length ic, .int .i64 n2] 124)).block N (blk_lt HB2.out)))
                  have HL3 : Hid (Lies AnyB (x2.alloc (.cells #[.slice ia ins.length ic, .int .i64 n2] 124)) (some ⟨x2.heap.size, 0, none⟩) [.slice ia ins.length ic, .int .i64 n2]) := hide (Lies.blk (cs := [.slice ia ins.length ic, .int .i64 n2]) (blk_new x2 (.cells #[.slice ia ins.length ic, .int .i64 n2] 124)) trivial)
                  go_simp
                  generalize x2.alloc (.cells #[.slice ia ins.length ic, .int .i64 n2] 124) = x3 at *
                  generalize x2.heap.size = B2 at *
                  refine hK.out _ _ trivial (fun _ => ?_)
                  clear hK K
                  refine wpAnyH_ready (rs := [4]) (by kernel_rfl) (by simp) ?_
                  refine AllReadyH.cons rfl (fun K hK => ?_) AllReadyH.nil
                  have k1 := HB3.out.c2
                  go_simp
                  clear k1
                  refine hK.out _ _ trivial (fun _ => ?_)
                  clear hK K
                  refine wpAnyH_ready (rs := [11]) (by kernel_rfl) (by simp) ?_
                  refine AllReadyH.cons rfl (fun K hK => ?_) AllReadyH.nil
                  obtain ⟨ya2, yc2, x4, happ, hrow4, hg⟩ := HW3.out.app HS.out ⟨ins, (n2 : Int)⟩ ia ic HIN3.out (some ⟨B2, 0, none⟩) HL3.out (ls.length + 1) rfl (by omega)
                  have HR4 : Hid (RdrAt R l6 x4) := hide (HR3.out.other (HW3.out.row.other hg (HS.out R (Or.inl rfl))))
                  have HB4 := hide (HB3.out.other (HW3.out.row.other hg (HS.out N (Or.inr rfl))))
                  have HW4 := hide hrow4
                  clear hrow4 hg HL3
                  refine (if_pos (by kernel_rfl)).mpr ?_
                  refine wp_append_run happ _ _ rfl rfl rfl ?_
                  simp only [Act.put, List.getElem_toArray, List.getElem_cons_succ, List.getElem_cons_zero, List.setIfInBounds_toArray, List.set_cons_zero, List.set_cons_succ]
                  refine hK.out _ _ trivial (fun _ => ?_)
                  clear hK K
                  clear happ
                  refine wpAnyH_take (i := 12) (oi := ⟨some 44, _, _, _, _, _⟩) (v := (.pointer (some ⟨N, 0, none⟩))) rfl (by kernel_rfl) (by kernel_rfl) (by kernel_rfl) (fun _ _ _ h => h) (Or.inl ⟨by rfl, fun W hS => by (go_simp)⟩) trivial ?_
                  simp only [Act.put, List.setIfInBounds_toArray, List.set_cons_zero, List.set_cons_succ]
                  refine wpAnyH_take (i := 13) (oi := ⟨some 45, _, _, _, _, _⟩) (v := (.pointer (some ⟨N, 2, none⟩))) rfl (by kernel_rfl) (by kernel_rfl) (by kernel_rfl) (fun _ _ _ h => h) (Or.inl ⟨by rfl, fun W hS => by (go_simp)⟩) trivial ?_
                  simp only [Act.put, List.setIfInBounds_toArray, List.set_cons_zero, List.set_cons_succ]
                  refine wpAnyH_ready (rs := [14]) (by kernel_rfl) (by simp) ?_
                  refine AllReadyH.cons rfl (fun K hK => ?_) AllReadyH.nil
                  have f4 : x4.frozen? ⟨N, 2, none⟩ = false := blk_frozen HB4.out 2
                  have k4 := HB4.out.c2
                  go_simp
                  clear f4 k4
                  refine hK.out _ _ trivial (fun _ => ?_)
                  clear hK K
                  refine wpAnyH_done (by kernel_rfl) ?_ _
                  have HBF : Hid (NetB N gv va c1 vc ya2 (ls ++ [(⟨ins, (n2 : Int)⟩ : Lt)]).length yc2 none 0 0 (x4.setCell ⟨N, 2, none⟩ (.slice ya2 (ls.length + 1) yc2))) := hide (by rw [List.length_append]; exact HB4.out.set2 ya2 (ls.length + 1) yc2)
                  have HRF : Hid (RdrAt R l6 (x4.setCell ⟨N, 2, none⟩ (.slice ya2 (ls.length + 1) yc2))) := hide (HR4.out.other (Below.heap_setCell x4 ⟨N, 2, none⟩ _ R (fun e => HNR.out e.symm)))
                  have HWF := hide (HW4.out.more ((KeptS.refl _ x4).set N 2 (.slice ya2 (ls.length + 1) yc2) (Or.inr rfl)) HS.out)
                  have HRDF : Hid (LutsRd l4 (ls ++ [(⟨ins, (n2 : Int)⟩ : Lt)]).length (ls ++ [⟨ins, (n2 : Int)⟩]) l6) := hide (by
                    have h := LutsRd.more hrd.out HLR.out
                    rw [HN2.out] at h
                    rw [List.length_append]; exact h)
                  go_wp2_with fail
                  exact ⟨⟨ya2, yc2, _, _, ls ++ [⟨ins, (n2 : Int)⟩], l6, by rw [List.length_append]; exact hqi1, by rw [List.length_append]; go_num, HWF, HRF, HBF, HRDF⟩, by simp [intOf]; omega⟩
        · have HQ : Hid (ls.length = c2) := hide (by omega)
          have hle5 := hrd.out.le
          have HSZ := hide hrow.out.row.kept.size
          have HRG6 : Hid (∀ W, KeptS (TwoB R N) wr W → Lies (FromB w.heap.size) W va (rgsC rs)) := hide fun W hk => HRG5.out W (hrow.out.row.kept.trans hk)
          have HLU6 : Hid (∀ W, KeptS (TwoB R N) wr W → LutsAt (FromB w.heap.size) W ya A C ls) := hide fun W hk => by
            have h1 := hrow.out.more hk HS.out
            have hz := HK5.out.size
            exact ⟨h1.row.lies.imp fun b _ hb => by unfold FromB at *; omega, fun i hi => (h1.ins i hi).imp fun b _ hb => by unfold FromB; omega⟩
          have HK6 : Hid (Kept R w wr) := hide (Kept.ofS ((KeptS.one HK5.out (Or.inl rfl)).trans hrow.out.row.kept) fun k hk hs => by
            rcases hs with rfl | rfl
            · rfl
            · have := HNW.out; omega)
          have HNL : Hid (N < wr.heap.size) := hide (Nat.lt_of_lt_of_le (HS.out N (Or.inr rfl)) HSZ.out)
          have hz5 := HK6.out.size
          clear hrow HRG5 HS HR5 HB5
          go_wp2_with fail
          refine (list_at R lq 20000 wr hr.out (by omega) (by decide)).mono ?_
          rintro e w7 ⟨oa, oc, os, l', rfl, hli, hr7, hlo, hk7⟩
          have HB7 := hide (hnb.out.other (hk7.block N HNL.out HNR.out))
          have f3 : w7.frozen? ⟨N, 3, none⟩ = false := blk_frozen HB7.out 3
          have k3 := HB7.out.c3
          have HLO : Hid (Lies (FromB w.heap.size) (w7.setCell ⟨N, 3, none⟩ (.slice oa os.length oc)) oa (intsC os)) := hide ((hlo.same fun b hb _ => Below.heap_setCell w7 ⟨N, 3, none⟩ _ b (by unfold FromB at hb; have := HNL.out; show b ≠ N; omega)).imp fun b _ hb => by unfold FromB at *; omega)
          have HKS : Hid (KeptS (TwoB R N) wr (w7.setCell ⟨N, 3, none⟩ (.slice oa os.length oc))) := hide ((KeptS.one hk7 (Or.inl rfl)).set N 3 _ (Or.inr rfl))
          have HKF : Hid (Kept R w (w7.setCell ⟨N, 3, none⟩ (.slice oa os.length oc))) := hide (Kept.ofS ((KeptS.one HK6.out (Or.inl rfl)).trans HKS.out) fun k hk hs => by
            rcases hs with rfl | rfl
            · rfl
            · have := HNW.out; omega)
          have HLIR := hide hli
          have HBF := hide (HB7.out.set3 oa os.length oc)
          clear hli hr7 hlo hk7 hr hnb
          have hc1e : rs.length = c1 := HRL.out
          go_wp2_with fail
          go_ret
          refine ⟨⟨N, va, vc, ya, yc, oa, oc, A, C⟩, gv, rs, ls, os, l', rfl, ?_, ⟨?_, HRG6.out _ HKS.out, HLU6.out _ HKS.out, HLO.out⟩, HKF.out, HNW.out⟩
          · refine ⟨by rw [HNP.out], c1, l3, ls.length, lq, ?_, ?_, ?_, ?_, HLIR.out⟩
            · rw [HNP.out]; simp only; rw [HNP1.out]; exact HC1.out
            · rw [HNP.out]; simp only; rw [HNP1.out]; exact HSE.out
            · rw [HNP3.out, HQ.out]; exact HC2.out
            · rw [HNP3.out]; exact hrd.out
          · show _ = _
            rw [hc1e]; exact HBF.out
end Go.Proofs.YtndpehjbepfbkaaGreatDoor
