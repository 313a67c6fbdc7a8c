/-
  CONTRACT of cycle.
-/
import Derived.Test.YtacgepdmhdcdkaaLBit
import Derived.Deep.DeepCutAuto
import Derived.Deep.RegionHeld3
set_option linter.unusedSimpArgs false
set_option linter.unusedVariables false
namespace Go.Proofs.Ytacgepdmhdcdkaa
open Go.RowKit

theorem mk_bits0 (n : Nat) (hn : n ≤ 20000) (w : World) : (Instr.makeSlice 36 (.int .i64 0) (.int .i64 n)).run Try.prog w = .ok (.slice (some ⟨w.heap.size, 0, none⟩) 0 n) (w.alloc (.cells (bitsC (List.replicate n false)).toArray 4)) := by
  obtain ⟨i, hi, hz, hs, hby⟩ := info_bo
  have h := run_make (P := Try.prog) w 36 4 i _ (by kernel_rfl) hi hz .i64 .i64 0 n (by omega) (by omega) (by rw [hby]; omega) (by omega)
  rw [Int.toNat_natCast, hs, Nat.mul_one] at h
  rw [show (Value.bool false).cells = #[Value.bool false] from rfl, made_bits] at h
  exact h
theorem mine_made {e : Nat} {w : World} {o n : Nat} {cur : Array Value} (h : w.heap[o]? = some (.cells cur e (0, 0))) (hs : cur.size = n) (hn : n ≤ 20000) : Mine e 1 o w (.slice (some ⟨o, 0, none⟩) 0 n) 0 [] :=
  ⟨⟨by simp, .inr ⟨o, n, cur, rfl, Nat.zero_le _, h, Nat.zero_le _, by simp only [maxLen]; omega, by simp [hs], by simp⟩⟩, fun b hb => by simp [Value.ownBlock] at hb; omega⟩
theorem Mine.ltE {e size B : Nat} {w : World} {v : Value} {n : Nat} {xs : List Value} (h : Mine e size B w v n xs) {b : Nat} (hb : v.ownBlock = some b) : b < w.heap.size := (h.own.lt b hb).2

/-- so far in a cycle -/
structure CycT (x : LkP) (w : World) (g h t : List Bool) (wr : World) : Prop where
  below : Below w.heap.size w wr
  b1 : wr.heap[x.x1]? = some (.cells #[.pointer (some ⟨x.p, 0, none⟩)] 30 (0, 0))
  b2 : wr.heap[x.x2]? = some (.cells #[.slice x.ga g.length x.gc] 36 (0, 0))
  b3 : wr.heap[x.x3]? = some (.cells #[.slice x.ha h.length x.hc] 36 (0, 0))
  b4 : wr.heap[x.x4]? = some (.cells #[.slice x.ta t.length x.tc] 36 (0, 0))
  mine : Mine 4 1 w.heap.size wr (.slice x.ta t.length x.tc) t.length (bitsC t)
  sep : ∀ b, (Value.slice x.ta t.length x.tc).ownBlock = some b → b ≠ x.x1 ∧ b ≠ x.x2 ∧ b ≠ x.x3 ∧ b ≠ x.x4
  n4 : x.x4 ≠ x.x1 ∧ x.x4 ≠ x.x2 ∧ x.x4 ≠ x.x3
  hx : w.heap.size ≤ x.x4
theorem CycT.more {x : LkP} {w wr wy : World} {g h t : List Bool} (c : CycT x w g h t wr) (hb : Below wr.heap.size wr wy) : CycT x w g h t wy :=
  ⟨Below.step c.below hb, Below.blk hb c.b1, Below.blk hb c.b2, Below.blk hb c.b3, Below.blk hb c.b4, c.mine.below hb, c.sep, c.n4, c.hx⟩
theorem CycT.c4 {x : LkP} {w wr : World} {g h t : List Bool} (c : CycT x w g h t wr) : wr.cell? ⟨x.x4, 0, none⟩ = some (.slice x.ta t.length x.tc) := by rw [blk_cell c.b4]; rfl
theorem CycT.look {x : LkP} {w wr : World} {gn : Nat} {g h t : List Bool} (c : CycT x w g h t wr) (cp : w.cell? ⟨x.p, 0, none⟩ = some (.int .i64 gn)) (lg : Lies AnyB w x.ga (bitsC g)) (lh : Lies AnyB w x.ha (bitsC h)) : LookAt x wr gn g h t :=
  ⟨by rw [blk_cell c.b1]; rfl, (c.below.cell (cell_lt cp)).trans cp, by rw [blk_cell c.b2]; rfl, by rw [blk_cell c.b3]; rfl, c.c4, lg.below c.below, lh.below c.below, c.mine.lies fun _ _ => trivial⟩
theorem Below.grownW {w wx w2 : World} {v : Value} (h : Below w.heap.size w wx) (hg : wx.grownBy w2 v.ownBlock) (hn : ∀ b, v.ownBlock = some b → w.heap.size ≤ b) : Below w.heap.size w w2 :=
  ⟨hg.os.trans h.os, hg.tape.trans h.tape, hg.output.trans h.output, Nat.le_trans h.size hg.size, fun k hk => (hg.block k (Nat.lt_of_lt_of_le hk h.size) (fun e => by have := hn k e.symm; omega)).trans (h.block k hk)⟩
theorem CycT.add {x1 x2 x3 x4 p : Nat} {ga ha ta ta' : Option Addr} {gc hc tc tc' n' : Nat} {w wr w2 : World} {g h t t' : List Bool} (c : CycT ⟨x1, x2, x3, x4, p, ga, gc, ha, hc, ta, tc⟩ w g h t wr)
    (hn : n' = t'.length) (hm : Mine 4 1 w.heap.size w2 (.slice ta' n' tc') n' (bitsC t')) (hg : wr.grownBy w2 (Value.slice ta t.length tc).ownBlock) (hnew : ∀ b, (Value.slice ta' n' tc').ownBlock = some b → (Value.slice ta t.length tc).ownBlock = some b ∨ wr.heap.size ≤ b) :
    CycT ⟨x1, x2, x3, x4, p, ga, gc, ha, hc, ta', tc'⟩ w g h t' (w2.setCell ⟨x4, 0, none⟩ (.slice ta' n' tc')) := by
  subst hn
  have hs := c.sep
  have h1 := blk_lt c.b1
  have h2 := blk_lt c.b2
  have h3 := blk_lt c.b3
  have h4 := blk_lt c.b4
  simp only at hs h1 h2 h3 h4
  have k1 : w2.heap[x1]? = wr.heap[x1]? := hg.block x1 h1 fun e => (hs x1 e.symm).1 rfl
  have k2 : w2.heap[x2]? = wr.heap[x2]? := hg.block x2 h2 fun e => (hs x2 e.symm).2.1 rfl
  have k3 : w2.heap[x3]? = wr.heap[x3]? := hg.block x3 h3 fun e => (hs x3 e.symm).2.2.1 rfl
  have k4 : w2.heap[x4]? = wr.heap[x4]? := hg.block x4 h4 fun e => (hs x4 e.symm).2.2.2 rfl
  have hsep : ∀ b, (Value.slice ta' t'.length tc').ownBlock = some b → b ≠ x1 ∧ b ≠ x2 ∧ b ≠ x3 ∧ b ≠ x4 := fun b hb => by
    rcases hnew b hb with e | e
    · exact hs b e
    · omega
  obtain ⟨n1, n2, n3⟩ := c.n4
  simp only at n1 n2 n3
  refine ⟨(Below.grownW c.below hg fun b hb => c.mine.new b hb).setCell c.hx _, ?_, ?_, ?_, ?_, ?_, hsep, c.n4, c.hx⟩
  · exact (Below.heap_setCell w2 ⟨x4, 0, none⟩ _ x1 (fun e => n1 e.symm)).trans (k1.trans c.b1)
  · exact (Below.heap_setCell w2 ⟨x4, 0, none⟩ _ x2 (fun e => n2 e.symm)).trans (k2.trans c.b2)
  · exact (Below.heap_setCell w2 ⟨x4, 0, none⟩ _ x3 (fun e => n3 e.symm)).trans (k3.trans c.b3)
  · rw [blk_set (k4.trans c.b4)]; rfl
  · exact hm.same fun b hb _ => Below.heap_setCell w2 ⟨x4, 0, none⟩ _ b (hsep b hb).2.2.2

set_option maxRecDepth 100000 in
set_option maxHeartbeats 6400000 in
theorem lcycle_at {s : NetQ} {S : Nat → Prop} {w : World} {gn : Nat} {rs : List Rg} {ls : List Lt} {os : List Int} {held g : List Bool} (h : SimT s S w gn rs ls os held) (hr : RightT gn rs ls os) (ga : Option Addr) (gc : Nat) (hg : Lies AnyB w ga (bitsC g)) :
    Calls Try.prog 20 #[.pointer (some ⟨s.p, 0, none⟩), .slice ga g.length gc] w fun e w' => (∃ x : LkP, e = .returned (lookV x) ∧ LookAt x w' gn g held (tabsTo gn g held ls ls.length)) ∧ Below w.heap.size w w' := by
  have hll := hr.l1
  have hrl := hr.r1
  have hgb := hr.g1
  have hmk := mk_bits0 ls.length hr.l1
  obtain ⟨ha, hc, hme, hlh⟩ := h.me
  have HME := hide hme
  have HLH := hide hlh.any
  have H := hide h
  have HLEN := hide h.len
  have HR := hide hr.luts
  have HG := hide hg
  have hmf : ∀ (fn : Fn) (first cap : Array Value) (w : World), (Instr.makeFunc fn first cap).run Try.prog w = .ok (.func fn first cap) w := fun _ _ _ _ => rfl
  have HB1 : Hid (Below w.heap.size w ((w.alloc (.cells #[.pointer (some ⟨s.p, 0, none⟩)] 30)).alloc (.cells #[.slice ga g.length gc] 36))) := hide (Below.step (below_alloc w _) (below_alloc _ _))
  have HX1 : Hid (((w.alloc (.cells #[.pointer (some ⟨s.p, 0, none⟩)] 30)).alloc (.cells #[.slice ga g.length gc] 36)).heap[w.heap.size]? = some (.cells #[.pointer (some ⟨s.p, 0, none⟩)] 30 (0, 0))) := hide (Below.blk (below_alloc _ _) (blk_new w _))
  have HX2 : Hid (((w.alloc (.cells #[.pointer (some ⟨s.p, 0, none⟩)] 30)).alloc (.cells #[.slice ga g.length gc] 36)).heap[w.heap.size + 1]? = some (.cells #[.slice ga g.length gc] 36 (0, 0))) := hide (by
    have := blk_new (w.alloc (.cells #[.pointer (some ⟨s.p, 0, none⟩)] 30)) (.cells #[.slice ga g.length gc] 36)
    rwa [show (w.alloc (.cells #[.pointer (some ⟨s.p, 0, none⟩)] 30)).heap.size = w.heap.size + 1 by simp] at this)
  have HZ1 : Hid (((w.alloc (.cells #[.pointer (some ⟨s.p, 0, none⟩)] 30)).alloc (.cells #[.slice ga g.length gc] 36)).heap.size = w.heap.size + 2) := hide (by simp)
  have hpl := blk_lt hme
  clear h hr hg hme hlh
  go_enter Try.func20, Try.ntmps20
  go_wp2_with fail
  generalize ((w.alloc (.cells #[.pointer (some ⟨s.p, 0, none⟩)] 30)).alloc (.cells #[.slice ga g.length gc] 36)) = w1 at *
  go_cut [5, 6] from 10 to 21 (fun v5 v6 wx => ∃ x3 x4 ta tc, v5 = .pointer (some ⟨x3, 0, none⟩) ∧ v6 = .pointer (some ⟨x4, 0, none⟩) ∧ Hid (CycT ⟨w.heap.size, w.heap.size + 1, x3, x4, s.p, ga, gc, ha, hc, ta, tc⟩ w g held [] wx))
  case first =>
    have HSW : Hid (∀ W, Below w1.heap.size w1 W → W.cell? ⟨w.heap.size, 0, none⟩ = some (.pointer (some ⟨s.p, 0, none⟩)) ∧ W.cell? ⟨s.p, 2, none⟩ = some (.slice s.la ls.length s.lc) ∧ W.cell? ⟨s.p, 4, none⟩ = some (.slice ha rs.length hc)) := hide fun W hb => ⟨by rw [blk_cell (Below.blk hb HX1.out)]; rfl, by rw [blk_cell (Below.blk hb (Below.blk HB1.out HME.out))]; rfl, by rw [blk_cell (Below.blk hb (Below.blk HB1.out HME.out))]; rfl⟩
    have HBw2 : Hid (Below w1.heap.size w1 w1.drew) := hide (Below.refl _ _).drew
    have HZw2 : Hid (w1.drew.heap.size = w1.heap.size) := hide rfl
    refine wp_region_held_drew (S := fun W => W.cell? ⟨w.heap.size, 0, none⟩ = some (.pointer (some ⟨s.p, 0, none⟩)) ∧ W.cell? ⟨s.p, 2, none⟩ = some (.slice s.la ls.length s.lc) ∧ W.cell? ⟨s.p, 4, none⟩ = some (.slice ha rs.length hc)) (by kernel_rfl) (HSW.out _ HBw2.out) (fun _ => ?_)
    generalize w1.drew = w2 at *
    refine wpAnyH_take (i := 0) (oi := ⟨some 10, _, _, _, _, _⟩) (v := (.pointer (some ⟨s.p, 0, none⟩))) rfl (by kernel_rfl) (by kernel_rfl) (by kernel_rfl) (fun _ _ _ h => h) (Or.inl ⟨by rfl, fun W hS => by (obtain ⟨s0, s1, s2⟩ := hS; go_simp)⟩) (HSW.out _ HBw2.out) ?_
    simp only [Act.put, List.setIfInBounds_toArray, List.set_cons_zero, List.set_cons_succ]
    refine wpAnyH_take (i := 4) (oi := ⟨some 14, _, _, _, _, _⟩) (v := (.pointer (some ⟨s.p, 0, none⟩))) rfl (by kernel_rfl) (by kernel_rfl) (by kernel_rfl) (fun _ _ _ h => h) (Or.inl ⟨by rfl, fun W hS => by (obtain ⟨s0, s1, s2⟩ := hS; go_simp)⟩) (HSW.out _ HBw2.out) ?_
    simp only [Act.put, List.setIfInBounds_toArray, List.set_cons_zero, List.set_cons_succ]
    refine wpAnyH_take (i := 1) (oi := ⟨some 11, _, _, _, _, _⟩) (v := (.pointer (some ⟨s.p, 0, none⟩))) rfl (by kernel_rfl) (by kernel_rfl) (by kernel_rfl) (fun _ _ _ h => h) (Or.inl ⟨by rfl, fun W hS => by (obtain ⟨s0, s1, s2⟩ := hS; go_simp)⟩) (HSW.out _ HBw2.out) ?_
    simp only [Act.put, List.setIfInBounds_toArray, List.set_cons_zero, List.set_cons_succ]
    refine wpAnyH_take (i := 5) (oi := ⟨some 15, _, _, _, _, _⟩) (v := (.pointer (some ⟨s.p, 0, none⟩))) rfl (by kernel_rfl) (by kernel_rfl) (by kernel_rfl) (fun _ _ _ h => h) (Or.inl ⟨by rfl, fun W hS => by (obtain ⟨s0, s1, s2⟩ := hS; go_simp)⟩) (HSW.out _ HBw2.out) ?_
    simp only [Act.put, List.setIfInBounds_toArray, List.set_cons_zero, List.set_cons_succ]
    refine wpAnyH_take (i := 2) (oi := ⟨some 12, _, _, _, _, _⟩) (v := (.pointer (some ⟨s.p, 4, none⟩))) rfl (by kernel_rfl) (by kernel_rfl) (by kernel_rfl) (fun _ _ _ h => h) (Or.inl ⟨by rfl, fun W hS => by (obtain ⟨s0, s1, s2⟩ := hS; go_simp)⟩) (HSW.out _ HBw2.out) ?_
    simp only [Act.put, List.setIfInBounds_toArray, List.set_cons_zero, List.set_cons_succ]
    refine wpAnyH_take (i := 6) (oi := ⟨some 16, _, _, _, _, _⟩) (v := (.pointer (some ⟨s.p, 0, none⟩))) rfl (by kernel_rfl) (by kernel_rfl) (by kernel_rfl) (fun _ _ _ h => h) (Or.inl ⟨by rfl, fun W hS => by (obtain ⟨s0, s1, s2⟩ := hS; go_simp)⟩) (HSW.out _ HBw2.out) ?_
    simp only [Act.put, List.setIfInBounds_toArray, List.set_cons_zero, List.set_cons_succ]
    refine wpAnyH_take (i := 3) (oi := ⟨some 13, _, _, _, _, _⟩) (v := (.slice ha rs.length hc)) rfl (by kernel_rfl) (by kernel_rfl) (by kernel_rfl) (fun _ _ _ h => h) (Or.inl ⟨by rfl, fun W hS => by (obtain ⟨s0, s1, s2⟩ := hS; go_simp)⟩) (HSW.out _ HBw2.out) ?_
    simp only [Act.put, List.setIfInBounds_toArray, List.set_cons_zero, List.set_cons_succ]
    refine wpAnyH_take (i := 7) (oi := ⟨some 17, _, _, _, _, _⟩) (v := (.pointer (some ⟨s.p, 2, none⟩))) rfl (by kernel_rfl) (by kernel_rfl) (by kernel_rfl) (fun _ _ _ h => h) (Or.inl ⟨by rfl, fun W hS => by (obtain ⟨s0, s1, s2⟩ := hS; go_simp)⟩) (HSW.out _ HBw2.out) ?_
    simp only [Act.put, List.setIfInBounds_toArray, List.set_cons_zero, List.set_cons_succ]
    refine wpAnyH_take (i := 8) (oi := ⟨some 18, _, _, _, _, _⟩) (v := (.slice s.la ls.length s.lc)) rfl (by kernel_rfl) (by kernel_rfl) (by kernel_rfl) (fun _ _ _ h => h) (Or.inl ⟨by rfl, fun W hS => by (obtain ⟨s0, s1, s2⟩ := hS; go_simp)⟩) (HSW.out _ HBw2.out) ?_
    simp only [Act.put, List.setIfInBounds_toArray, List.set_cons_zero, List.set_cons_succ]
    refine wpAnyH_take (i := 9) (oi := ⟨some 19, _, _, _, _, _⟩) (v := (.int .i64 ls.length)) rfl (by kernel_rfl) (by kernel_rfl) (by kernel_rfl) (fun _ _ _ h => h) (Or.inl ⟨by rfl, fun W hS => by (obtain ⟨s0, s1, s2⟩ := hS; go_simp)⟩) (HSW.out _ HBw2.out) ?_
    simp only [Act.put, List.setIfInBounds_toArray, List.set_cons_zero, List.set_cons_succ]
    refine wpAnyH_ready (rs := [10, 11, 12]) (by kernel_rfl) (by simp) ?_
    refine AllReadyH.cons rfl (fun K hK => ?_) (AllReadyH.cons rfl (fun K hK => ?_) (AllReadyH.cons rfl (fun K hK => ?_) AllReadyH.nil))
    · skip
      go_simp
      have HBw3 : Hid (Below w1.heap.size w1 (w2.alloc (.cells (bitsC (List.replicate ls.length false)).toArray 4))) := hide (Below.step HBw2.out (below_alloc _ _))
      have HZw3 : Hid ((w2.alloc (.cells (bitsC (List.replicate ls.length false)).toArray 4)).heap.size = w2.heap.size + 1) := hide (by simp)
      have HNw3 := hide (blk_new w2 (.cells (bitsC (List.replicate ls.length false)).toArray 4))
      refine hK.out _ _ (HSW.out _ HBw3.out) (fun _ => ?_)
      clear hK K
      generalize (w2.alloc (.cells (bitsC (List.replicate ls.length false)).toArray 4)) = w3 at *
      refine wpAnyH_ready (rs := [11, 12]) (by kernel_rfl) (by simp) ?_
      refine AllReadyH.cons rfl (fun K hK => ?_) (AllReadyH.cons rfl (fun K hK => ?_) AllReadyH.nil)
      · skip
        go_simp
        have HBw4 : Hid (Below w1.heap.size w1 (w3.alloc (.cells #[.slice none 0 0] 36))) := hide (Below.step HBw3.out (below_alloc _ _))
        have HZw4 : Hid ((w3.alloc (.cells #[.slice none 0 0] 36)).heap.size = w3.heap.size + 1) := hide (by simp)
        have HNw4 := hide (blk_new w3 (.cells #[.slice none 0 0] 36))
        have HF10w4 := hide (Below.blk (below_alloc w3 (.cells #[.slice none 0 0] 36)) HNw3.out)
        refine hK.out _ _ (HSW.out _ HBw4.out) (fun _ => ?_)
        clear hK K
        generalize (w3.alloc (.cells #[.slice none 0 0] 36)) = w4 at *
        have C11w4 := blk_cell HNw4.out 0
        have Z11w4 := blk_frozen HNw4.out 0
        simp only [List.getElem?_toArray, List.getElem?_cons_zero, Array.getElem?_setIfInBounds, List.setIfInBounds_toArray, List.set_cons_zero] at C11w4
        refine wpAnyH_ready (rs := [12]) (by kernel_rfl) (by simp) ?_
        refine AllReadyH.cons rfl (fun K hK => ?_) AllReadyH.nil
        go_simp
        have HBw5 : Hid (Below w1.heap.size w1 (w4.alloc (.cells #[.slice none 0 0] 36))) := hide (Below.step HBw4.out (below_alloc _ _))
        have HZw5 : Hid ((w4.alloc (.cells #[.slice none 0 0] 36)).heap.size = w4.heap.size + 1) := hide (by simp)
        have HNw5 := hide (blk_new w4 (.cells #[.slice none 0 0] 36))
        have HF10w5 := hide (Below.blk (below_alloc w4 (.cells #[.slice none 0 0] 36)) HF10w4.out)
        have HF11w5 := hide (Below.blk (below_alloc w4 (.cells #[.slice none 0 0] 36)) HNw4.out)
        refine hK.out _ _ (HSW.out _ HBw5.out) (fun _ => ?_)
        clear hK K
        generalize (w4.alloc (.cells #[.slice none 0 0] 36)) = w5 at *
        have C11w5 := blk_cell HF11w5.out 0
        have Z11w5 := blk_frozen HF11w5.out 0
        simp only [List.getElem?_toArray, List.getElem?_cons_zero, Array.getElem?_setIfInBounds, List.setIfInBounds_toArray, List.set_cons_zero] at C11w5
        have C12w5 := blk_cell HNw5.out 0
        have Z12w5 := blk_frozen HNw5.out 0
        simp only [List.getElem?_toArray, List.getElem?_cons_zero, Array.getElem?_setIfInBounds, List.setIfInBounds_toArray, List.set_cons_zero] at C12w5
        refine wpAnyH_ready (rs := [13]) (by kernel_rfl) (by simp) ?_
        refine AllReadyH.cons rfl (fun K hK => ?_) AllReadyH.nil
        go_simp
        have HBw6 : Hid (Below w1.heap.size w1 (w5.setCell ⟨w3.heap.size, 0, none⟩ (.slice ha rs.length hc))) := hide (HBw5.out.setCell (by (have z2 := HZw2.out; have z3 := HZw3.out; have z4 := HZw4.out; have z5 := HZw5.out; have z1 := HZ1.out; show _ ≤ w3.heap.size; omega)) _)
        have HZw6 : Hid ((w5.setCell ⟨w3.heap.size, 0, none⟩ (.slice ha rs.length hc)).heap.size = w5.heap.size) := hide (by simp [World.setCell])
        have HF10w6 := hide ((Below.heap_setCell w5 ⟨w3.heap.size, 0, none⟩ (.slice ha rs.length hc) w2.heap.size (by (have z2 := HZw2.out; have z3 := HZw3.out; have z4 := HZw4.out; have z5 := HZw5.out; have z1 := HZ1.out; show w2.heap.size ≠ w3.heap.size; omega))).trans HF10w5.out)
        have HF11w6 := hide (blk_set HF11w5.out 0 (.slice ha rs.length hc))
        have HF12w6 := hide ((Below.heap_setCell w5 ⟨w3.heap.size, 0, none⟩ (.slice ha rs.length hc) w4.heap.size (by (have z2 := HZw2.out; have z3 := HZw3.out; have z4 := HZw4.out; have z5 := HZw5.out; have z1 := HZ1.out; show w4.heap.size ≠ w3.heap.size; omega))).trans HNw5.out)
        refine hK.out _ _ (HSW.out _ HBw6.out) (fun _ => ?_)
        clear hK K
        generalize (w5.setCell ⟨w3.heap.size, 0, none⟩ (.slice ha rs.length hc)) = w6 at *
        have C11w6 := blk_cell HF11w6.out 0
        have Z11w6 := blk_frozen HF11w6.out 0
        simp only [List.getElem?_toArray, List.getElem?_cons_zero, Array.getElem?_setIfInBounds, List.setIfInBounds_toArray, List.set_cons_zero] at C11w6
        have C12w6 := blk_cell HF12w6.out 0
        have Z12w6 := blk_frozen HF12w6.out 0
        simp only [List.getElem?_toArray, List.getElem?_cons_zero, Array.getElem?_setIfInBounds, List.setIfInBounds_toArray, List.set_cons_zero] at C12w6
        refine wpAnyH_ready (rs := [14]) (by kernel_rfl) (by simp) ?_
        refine AllReadyH.cons rfl (fun K hK => ?_) AllReadyH.nil
        go_simp
        have HBw7 : Hid (Below w1.heap.size w1 (w6.setCell ⟨w4.heap.size, 0, none⟩ (.slice (some ⟨w2.heap.size, 0, none⟩) 0 ls.length))) := hide (HBw6.out.setCell (by (have z2 := HZw2.out; have z3 := HZw3.out; have z4 := HZw4.out; have z5 := HZw5.out; have z6 := HZw6.out; have z1 := HZ1.out; show _ ≤ w4.heap.size; omega)) _)
        have HZw7 : Hid ((w6.setCell ⟨w4.heap.size, 0, none⟩ (.slice (some ⟨w2.heap.size, 0, none⟩) 0 ls.length)).heap.size = w6.heap.size) := hide (by simp [World.setCell])
        have HF10w7 := hide ((Below.heap_setCell w6 ⟨w4.heap.size, 0, none⟩ (.slice (some ⟨w2.heap.size, 0, none⟩) 0 ls.length) w2.heap.size (by (have z2 := HZw2.out; have z3 := HZw3.out; have z4 := HZw4.out; have z5 := HZw5.out; have z6 := HZw6.out; have z1 := HZ1.out; show w2.heap.size ≠ w4.heap.size; omega))).trans HF10w6.out)
        have HF11w7 := hide ((Below.heap_setCell w6 ⟨w4.heap.size, 0, none⟩ (.slice (some ⟨w2.heap.size, 0, none⟩) 0 ls.length) w3.heap.size (by (have z2 := HZw2.out; have z3 := HZw3.out; have z4 := HZw4.out; have z5 := HZw5.out; have z6 := HZw6.out; have z1 := HZ1.out; show w3.heap.size ≠ w4.heap.size; omega))).trans HF11w6.out)
        have HF12w7 := hide (blk_set HF12w6.out 0 (.slice (some ⟨w2.heap.size, 0, none⟩) 0 ls.length))
        refine hK.out _ _ (HSW.out _ HBw7.out) (fun _ => ?_)
        clear hK K
        generalize (w6.setCell ⟨w4.heap.size, 0, none⟩ (.slice (some ⟨w2.heap.size, 0, none⟩) 0 ls.length)) = w7 at *
        have C11w7 := blk_cell HF11w7.out 0
        have Z11w7 := blk_frozen HF11w7.out 0
        simp only [List.getElem?_toArray, List.getElem?_cons_zero, Array.getElem?_setIfInBounds, List.setIfInBounds_toArray, List.set_cons_zero] at C11w7
        have C12w7 := blk_cell HF12w7.out 0
        have Z12w7 := blk_frozen HF12w7.out 0
        simp only [List.getElem?_toArray, List.getElem?_cons_zero, Array.getElem?_setIfInBounds, List.setIfInBounds_toArray, List.set_cons_zero] at C12w7
        refine wpAnyH_done (by kernel_rfl) ?_ _
        go_wp2_with fail
        go_meet
        case rel =>
          have hz : True := trivial
          have z2 := HZw2.out
          have z3 := HZw3.out
          have z4 := HZw4.out
          have z5 := HZw5.out
          have z6 := HZw6.out
          have z7 := HZw7.out
          have z1 := HZ1.out
          refine ⟨w3.heap.size, w4.heap.size, some ⟨w2.heap.size, 0, none⟩, ls.length, rfl, rfl, hide ⟨Below.step HB1.out HBw7.out, Below.blk HBw7.out HX1.out, Below.blk HBw7.out HX2.out, by rw [HLEN.out]; exact HF11w7.out, HF12w7.out, (mine_made HF10w7.out (by simp [bitsC]) (by omega)).from (by show w.heap.size ≤ w2.heap.size; omega), fun b hb => by (simp [Value.ownBlock] at hb; subst hb; show _ ∧ _ ∧ _ ∧ _; (refine ⟨?_, ?_, ?_, ?_⟩ <;> (simp only; omega))), (by (refine ⟨?_, ?_, ?_⟩ <;> (simp only; omega))), (by simp only; omega)⟩⟩
      · skip
        go_simp
        have HBw4 : Hid (Below w1.heap.size w1 (w3.alloc (.cells #[.slice none 0 0] 36))) := hide (Below.step HBw3.out (below_alloc _ _))
        have HZw4 : Hid ((w3.alloc (.cells #[.slice none 0 0] 36)).heap.size = w3.heap.size + 1) := hide (by simp)
        have HNw4 := hide (blk_new w3 (.cells #[.slice none 0 0] 36))
        have HF10w4 := hide (Below.blk (below_alloc w3 (.cells #[.slice none 0 0] 36)) HNw3.out)
        refine hK.out _ _ (HSW.out _ HBw4.out) (fun _ => ?_)
        clear hK K
        generalize (w3.alloc (.cells #[.slice none 0 0] 36)) = w4 at *
        have C12w4 := blk_cell HNw4.out 0
        have Z12w4 := blk_frozen HNw4.out 0
        simp only [List.getElem?_toArray, List.getElem?_cons_zero, Array.getElem?_setIfInBounds, List.setIfInBounds_toArray, List.set_cons_zero] at C12w4
        refine wpAnyH_ready (rs := [11]) (by kernel_rfl) (by simp) ?_
        refine AllReadyH.cons rfl (fun K hK => ?_) AllReadyH.nil
        go_simp
        have HBw5 : Hid (Below w1.heap.size w1 (w4.alloc (.cells #[.slice none 0 0] 36))) := hide (Below.step HBw4.out (below_alloc _ _))
        have HZw5 : Hid ((w4.alloc (.cells #[.slice none 0 0] 36)).heap.size = w4.heap.size + 1) := hide (by simp)
        have HNw5 := hide (blk_new w4 (.cells #[.slice none 0 0] 36))
        have HF10w5 := hide (Below.blk (below_alloc w4 (.cells #[.slice none 0 0] 36)) HF10w4.out)
        have HF12w5 := hide (Below.blk (below_alloc w4 (.cells #[.slice none 0 0] 36)) HNw4.out)
        refine hK.out _ _ (HSW.out _ HBw5.out) (fun _ => ?_)
        clear hK K
        generalize (w4.alloc (.cells #[.slice none 0 0] 36)) = w5 at *
        have C11w5 := blk_cell HNw5.out 0
        have Z11w5 := blk_frozen HNw5.out 0
        simp only [List.getElem?_toArray, List.getElem?_cons_zero, Array.getElem?_setIfInBounds, List.setIfInBounds_toArray, List.set_cons_zero] at C11w5
        have C12w5 := blk_cell HF12w5.out 0
        have Z12w5 := blk_frozen HF12w5.out 0
        simp only [List.getElem?_toArray, List.getElem?_cons_zero, Array.getElem?_setIfInBounds, List.setIfInBounds_toArray, List.set_cons_zero] at C12w5
        refine wpAnyH_ready (rs := [13]) (by kernel_rfl) (by simp) ?_
        refine AllReadyH.cons rfl (fun K hK => ?_) AllReadyH.nil
        go_simp
        have HBw6 : Hid (Below w1.heap.size w1 (w5.setCell ⟨w4.heap.size, 0, none⟩ (.slice ha rs.length hc))) := hide (HBw5.out.setCell (by (have z2 := HZw2.out; have z3 := HZw3.out; have z4 := HZw4.out; have z5 := HZw5.out; have z1 := HZ1.out; show _ ≤ w4.heap.size; omega)) _)
        have HZw6 : Hid ((w5.setCell ⟨w4.heap.size, 0, none⟩ (.slice ha rs.length hc)).heap.size = w5.heap.size) := hide (by simp [World.setCell])
        have HF10w6 := hide ((Below.heap_setCell w5 ⟨w4.heap.size, 0, none⟩ (.slice ha rs.length hc) w2.heap.size (by (have z2 := HZw2.out; have z3 := HZw3.out; have z4 := HZw4.out; have z5 := HZw5.out; have z1 := HZ1.out; show w2.heap.size ≠ w4.heap.size; omega))).trans HF10w5.out)
        have HF12w6 := hide ((Below.heap_setCell w5 ⟨w4.heap.size, 0, none⟩ (.slice ha rs.length hc) w3.heap.size (by (have z2 := HZw2.out; have z3 := HZw3.out; have z4 := HZw4.out; have z5 := HZw5.out; have z1 := HZ1.out; show w3.heap.size ≠ w4.heap.size; omega))).trans HF12w5.out)
        have HF11w6 := hide (blk_set HNw5.out 0 (.slice ha rs.length hc))
        refine hK.out _ _ (HSW.out _ HBw6.out) (fun _ => ?_)
        clear hK K
        generalize (w5.setCell ⟨w4.heap.size, 0, none⟩ (.slice ha rs.length hc)) = w6 at *
        have C11w6 := blk_cell HF11w6.out 0
        have Z11w6 := blk_frozen HF11w6.out 0
        simp only [List.getElem?_toArray, List.getElem?_cons_zero, Array.getElem?_setIfInBounds, List.setIfInBounds_toArray, List.set_cons_zero] at C11w6
        have C12w6 := blk_cell HF12w6.out 0
        have Z12w6 := blk_frozen HF12w6.out 0
        simp only [List.getElem?_toArray, List.getElem?_cons_zero, Array.getElem?_setIfInBounds, List.setIfInBounds_toArray, List.set_cons_zero] at C12w6
        refine wpAnyH_ready (rs := [14]) (by kernel_rfl) (by simp) ?_
        refine AllReadyH.cons rfl (fun K hK => ?_) AllReadyH.nil
        go_simp
        have HBw7 : Hid (Below w1.heap.size w1 (w6.setCell ⟨w3.heap.size, 0, none⟩ (.slice (some ⟨w2.heap.size, 0, none⟩) 0 ls.length))) := hide (HBw6.out.setCell (by (have z2 := HZw2.out; have z3 := HZw3.out; have z4 := HZw4.out; have z5 := HZw5.out; have z6 := HZw6.out; have z1 := HZ1.out; show _ ≤ w3.heap.size; omega)) _)
        have HZw7 : Hid ((w6.setCell ⟨w3.heap.size, 0, none⟩ (.slice (some ⟨w2.heap.size, 0, none⟩) 0 ls.length)).heap.size = w6.heap.size) := hide (by simp [World.setCell])
        have HF10w7 := hide ((Below.heap_setCell w6 ⟨w3.heap.size, 0, none⟩ (.slice (some ⟨w2.heap.size, 0, none⟩) 0 ls.length) w2.heap.size (by (have z2 := HZw2.out; have z3 := HZw3.out; have z4 := HZw4.out; have z5 := HZw5.out; have z6 := HZw6.out; have z1 := HZ1.out; show w2.heap.size ≠ w3.heap.size; omega))).trans HF10w6.out)
        have HF12w7 := hide (blk_set HF12w6.out 0 (.slice (some ⟨w2.heap.size, 0, none⟩) 0 ls.length))
        have HF11w7 := hide ((Below.heap_setCell w6 ⟨w3.heap.size, 0, none⟩ (.slice (some ⟨w2.heap.size, 0, none⟩) 0 ls.length) w4.heap.size (by (have z2 := HZw2.out; have z3 := HZw3.out; have z4 := HZw4.out; have z5 := HZw5.out; have z6 := HZw6.out; have z1 := HZ1.out; show w4.heap.size ≠ w3.heap.size; omega))).trans HF11w6.out)
        refine hK.out _ _ (HSW.out _ HBw7.out) (fun _ => ?_)
        clear hK K
        generalize (w6.setCell ⟨w3.heap.size, 0, none⟩ (.slice (some ⟨w2.heap.size, 0, none⟩) 0 ls.length)) = w7 at *
        have C11w7 := blk_cell HF11w7.out 0
        have Z11w7 := blk_frozen HF11w7.out 0
        simp only [List.getElem?_toArray, List.getElem?_cons_zero, Array.getElem?_setIfInBounds, List.setIfInBounds_toArray, List.set_cons_zero] at C11w7
        have C12w7 := blk_cell HF12w7.out 0
        have Z12w7 := blk_frozen HF12w7.out 0
        simp only [List.getElem?_toArray, List.getElem?_cons_zero, Array.getElem?_setIfInBounds, List.setIfInBounds_toArray, List.set_cons_zero] at C12w7
        refine wpAnyH_done (by kernel_rfl) ?_ _
        go_wp2_with fail
        go_meet
        case rel =>
          have hz : True := trivial
          have z2 := HZw2.out
          have z3 := HZw3.out
          have z4 := HZw4.out
          have z5 := HZw5.out
          have z6 := HZw6.out
          have z7 := HZw7.out
          have z1 := HZ1.out
          refine ⟨w4.heap.size, w3.heap.size, some ⟨w2.heap.size, 0, none⟩, ls.length, rfl, rfl, hide ⟨Below.step HB1.out HBw7.out, Below.blk HBw7.out HX1.out, Below.blk HBw7.out HX2.out, by rw [HLEN.out]; exact HF11w7.out, HF12w7.out, (mine_made HF10w7.out (by simp [bitsC]) (by omega)).from (by show w.heap.size ≤ w2.heap.size; omega), fun b hb => by (simp [Value.ownBlock] at hb; subst hb; show _ ∧ _ ∧ _ ∧ _; (refine ⟨?_, ?_, ?_, ?_⟩ <;> (simp only; omega))), (by (refine ⟨?_, ?_, ?_⟩ <;> (simp only; omega))), (by simp only; omega)⟩⟩
    · skip
      go_simp
      have HBw3 : Hid (Below w1.heap.size w1 (w2.alloc (.cells #[.slice none 0 0] 36))) := hide (Below.step HBw2.out (below_alloc _ _))
      have HZw3 : Hid ((w2.alloc (.cells #[.slice none 0 0] 36)).heap.size = w2.heap.size + 1) := hide (by simp)
      have HNw3 := hide (blk_new w2 (.cells #[.slice none 0 0] 36))
      refine hK.out _ _ (HSW.out _ HBw3.out) (fun _ => ?_)
      clear hK K
      generalize (w2.alloc (.cells #[.slice none 0 0] 36)) = w3 at *
      have C11w3 := blk_cell HNw3.out 0
      have Z11w3 := blk_frozen HNw3.out 0
      simp only [List.getElem?_toArray, List.getElem?_cons_zero, Array.getElem?_setIfInBounds, List.setIfInBounds_toArray, List.set_cons_zero] at C11w3
      refine wpAnyH_ready (rs := [10, 12]) (by kernel_rfl) (by simp) ?_
      refine AllReadyH.cons rfl (fun K hK => ?_) (AllReadyH.cons rfl (fun K hK => ?_) AllReadyH.nil)
      · skip
        go_simp
        have HBw4 : Hid (Below w1.heap.size w1 (w3.alloc (.cells (bitsC (List.replicate ls.length false)).toArray 4))) := hide (Below.step HBw3.out (below_alloc _ _))
        have HZw4 : Hid ((w3.alloc (.cells (bitsC (List.replicate ls.length false)).toArray 4)).heap.size = w3.heap.size + 1) := hide (by simp)
        have HNw4 := hide (blk_new w3 (.cells (bitsC (List.replicate ls.length false)).toArray 4))
        have HF11w4 := hide (Below.blk (below_alloc w3 (.cells (bitsC (List.replicate ls.length false)).toArray 4)) HNw3.out)
        refine hK.out _ _ (HSW.out _ HBw4.out) (fun _ => ?_)
        clear hK K
        generalize (w3.alloc (.cells (bitsC (List.replicate ls.length false)).toArray 4)) = w4 at *
        have C11w4 := blk_cell HF11w4.out 0
        have Z11w4 := blk_frozen HF11w4.out 0
        simp only [List.getElem?_toArray, List.getElem?_cons_zero, Array.getElem?_setIfInBounds, List.setIfInBounds_toArray, List.set_cons_zero] at C11w4
        refine wpAnyH_ready (rs := [12]) (by kernel_rfl) (by simp) ?_
        refine AllReadyH.cons rfl (fun K hK => ?_) AllReadyH.nil
        go_simp
        have HBw5 : Hid (Below w1.heap.size w1 (w4.alloc (.cells #[.slice none 0 0] 36))) := hide (Below.step HBw4.out (below_alloc _ _))
        have HZw5 : Hid ((w4.alloc (.cells #[.slice none 0 0] 36)).heap.size = w4.heap.size + 1) := hide (by simp)
        have HNw5 := hide (blk_new w4 (.cells #[.slice none 0 0] 36))
        have HF11w5 := hide (Below.blk (below_alloc w4 (.cells #[.slice none 0 0] 36)) HF11w4.out)
        have HF10w5 := hide (Below.blk (below_alloc w4 (.cells #[.slice none 0 0] 36)) HNw4.out)
        refine hK.out _ _ (HSW.out _ HBw5.out) (fun _ => ?_)
        clear hK K
        generalize (w4.alloc (.cells #[.slice none 0 0] 36)) = w5 at *
        have C11w5 := blk_cell HF11w5.out 0
        have Z11w5 := blk_frozen HF11w5.out 0
        simp only [List.getElem?_toArray, List.getElem?_cons_zero, Array.getElem?_setIfInBounds, List.setIfInBounds_toArray, List.set_cons_zero] at C11w5
        have C12w5 := blk_cell HNw5.out 0
        have Z12w5 := blk_frozen HNw5.out 0
        simp only [List.getElem?_toArray, List.getElem?_cons_zero, Array.getElem?_setIfInBounds, List.setIfInBounds_toArray, List.set_cons_zero] at C12w5
        refine wpAnyH_ready (rs := [13]) (by kernel_rfl) (by simp) ?_
        refine AllReadyH.cons rfl (fun K hK => ?_) AllReadyH.nil
        go_simp
        have HBw6 : Hid (Below w1.heap.size w1 (w5.setCell ⟨w2.heap.size, 0, none⟩ (.slice ha rs.length hc))) := hide (HBw5.out.setCell (by (have z2 := HZw2.out; have z3 := HZw3.out; have z4 := HZw4.out; have z5 := HZw5.out; have z1 := HZ1.out; show _ ≤ w2.heap.size; omega)) _)
        have HZw6 : Hid ((w5.setCell ⟨w2.heap.size, 0, none⟩ (.slice ha rs.length hc)).heap.size = w5.heap.size) := hide (by simp [World.setCell])
        have HF11w6 := hide (blk_set HF11w5.out 0 (.slice ha rs.length hc))
        have HF10w6 := hide ((Below.heap_setCell w5 ⟨w2.heap.size, 0, none⟩ (.slice ha rs.length hc) w3.heap.size (by (have z2 := HZw2.out; have z3 := HZw3.out; have z4 := HZw4.out; have z5 := HZw5.out; have z1 := HZ1.out; show w3.heap.size ≠ w2.heap.size; omega))).trans HF10w5.out)
        have HF12w6 := hide ((Below.heap_setCell w5 ⟨w2.heap.size, 0, none⟩ (.slice ha rs.length hc) w4.heap.size (by (have z2 := HZw2.out; have z3 := HZw3.out; have z4 := HZw4.out; have z5 := HZw5.out; have z1 := HZ1.out; show w4.heap.size ≠ w2.heap.size; omega))).trans HNw5.out)
        refine hK.out _ _ (HSW.out _ HBw6.out) (fun _ => ?_)
        clear hK K
        generalize (w5.setCell ⟨w2.heap.size, 0, none⟩ (.slice ha rs.length hc)) = w6 at *
        have C11w6 := blk_cell HF11w6.out 0
        have Z11w6 := blk_frozen HF11w6.out 0
        simp only [List.getElem?_toArray, List.getElem?_cons_zero, Array.getElem?_setIfInBounds, List.setIfInBounds_toArray, List.set_cons_zero] at C11w6
        have C12w6 := blk_cell HF12w6.out 0
        have Z12w6 := blk_frozen HF12w6.out 0
        simp only [List.getElem?_toArray, List.getElem?_cons_zero, Array.getElem?_setIfInBounds, List.setIfInBounds_toArray, List.set_cons_zero] at C12w6
        refine wpAnyH_ready (rs := [14]) (by kernel_rfl) (by simp) ?_
        refine AllReadyH.cons rfl (fun K hK => ?_) AllReadyH.nil
        go_simp
        have HBw7 : Hid (Below w1.heap.size w1 (w6.setCell ⟨w4.heap.size, 0, none⟩ (.slice (some ⟨w3.heap.size, 0, none⟩) 0 ls.length))) := hide (HBw6.out.setCell (by (have z2 := HZw2.out; have z3 := HZw3.out; have z4 := HZw4.out; have z5 := HZw5.out; have z6 := HZw6.out; have z1 := HZ1.out; show _ ≤ w4.heap.size; omega)) _)
        have HZw7 : Hid ((w6.setCell ⟨w4.heap.size, 0, none⟩ (.slice (some ⟨w3.heap.size, 0, none⟩) 0 ls.length)).heap.size = w6.heap.size) := hide (by simp [World.setCell])
        have HF11w7 := hide ((Below.heap_setCell w6 ⟨w4.heap.size, 0, none⟩ (.slice (some ⟨w3.heap.size, 0, none⟩) 0 ls.length) w2.heap.size (by (have z2 := HZw2.out; have z3 := HZw3.out; have z4 := HZw4.out; have z5 := HZw5.out; have z6 := HZw6.out; have z1 := HZ1.out; show w2.heap.size ≠ w4.heap.size; omega))).trans HF11w6.out)
        have HF10w7 := hide ((Below.heap_setCell w6 ⟨w4.heap.size, 0, none⟩ (.slice (some ⟨w3.heap.size, 0, none⟩) 0 ls.length) w3.heap.size (by (have z2 := HZw2.out; have z3 := HZw3.out; have z4 := HZw4.out; have z5 := HZw5.out; have z6 := HZw6.out; have z1 := HZ1.out; show w3.heap.size ≠ w4.heap.size; omega))).trans HF10w6.out)
        have HF12w7 := hide (blk_set HF12w6.out 0 (.slice (some ⟨w3.heap.size, 0, none⟩) 0 ls.length))
        refine hK.out _ _ (HSW.out _ HBw7.out) (fun _ => ?_)
        clear hK K
        generalize (w6.setCell ⟨w4.heap.size, 0, none⟩ (.slice (some ⟨w3.heap.size, 0, none⟩) 0 ls.length)) = w7 at *
        have C11w7 := blk_cell HF11w7.out 0
        have Z11w7 := blk_frozen HF11w7.out 0
        simp only [List.getElem?_toArray, List.getElem?_cons_zero, Array.getElem?_setIfInBounds, List.setIfInBounds_toArray, List.set_cons_zero] at C11w7
        have C12w7 := blk_cell HF12w7.out 0
        have Z12w7 := blk_frozen HF12w7.out 0
        simp only [List.getElem?_toArray, List.getElem?_cons_zero, Array.getElem?_setIfInBounds, List.setIfInBounds_toArray, List.set_cons_zero] at C12w7
        refine wpAnyH_done (by kernel_rfl) ?_ _
        go_wp2_with fail
        go_meet
        case rel =>
          have hz : True := trivial
          have z2 := HZw2.out
          have z3 := HZw3.out
          have z4 := HZw4.out
          have z5 := HZw5.out
          have z6 := HZw6.out
          have z7 := HZw7.out
          have z1 := HZ1.out
          refine ⟨w2.heap.size, w4.heap.size, some ⟨w3.heap.size, 0, none⟩, ls.length, rfl, rfl, hide ⟨Below.step HB1.out HBw7.out, Below.blk HBw7.out HX1.out, Below.blk HBw7.out HX2.out, by rw [HLEN.out]; exact HF11w7.out, HF12w7.out, (mine_made HF10w7.out (by simp [bitsC]) (by omega)).from (by show w.heap.size ≤ w3.heap.size; omega), fun b hb => by (simp [Value.ownBlock] at hb; subst hb; show _ ∧ _ ∧ _ ∧ _; (refine ⟨?_, ?_, ?_, ?_⟩ <;> (simp only; omega))), (by (refine ⟨?_, ?_, ?_⟩ <;> (simp only; omega))), (by simp only; omega)⟩⟩
      · skip
        go_simp
        have HBw4 : Hid (Below w1.heap.size w1 (w3.alloc (.cells #[.slice none 0 0] 36))) := hide (Below.step HBw3.out (below_alloc _ _))
        have HZw4 : Hid ((w3.alloc (.cells #[.slice none 0 0] 36)).heap.size = w3.heap.size + 1) := hide (by simp)
        have HNw4 := hide (blk_new w3 (.cells #[.slice none 0 0] 36))
        have HF11w4 := hide (Below.blk (below_alloc w3 (.cells #[.slice none 0 0] 36)) HNw3.out)
        refine hK.out _ _ (HSW.out _ HBw4.out) (fun _ => ?_)
        clear hK K
        generalize (w3.alloc (.cells #[.slice none 0 0] 36)) = w4 at *
        have C11w4 := blk_cell HF11w4.out 0
        have Z11w4 := blk_frozen HF11w4.out 0
        simp only [List.getElem?_toArray, List.getElem?_cons_zero, Array.getElem?_setIfInBounds, List.setIfInBounds_toArray, List.set_cons_zero] at C11w4
        have C12w4 := blk_cell HNw4.out 0
        have Z12w4 := blk_frozen HNw4.out 0
        simp only [List.getElem?_toArray, List.getElem?_cons_zero, Array.getElem?_setIfInBounds, List.setIfInBounds_toArray, List.set_cons_zero] at C12w4
        refine wpAnyH_ready (rs := [10, 13]) (by kernel_rfl) (by simp) ?_
        refine AllReadyH.cons rfl (fun K hK => ?_) (AllReadyH.cons rfl (fun K hK => ?_) AllReadyH.nil)
        · skip
          go_simp
          have HBw5 : Hid (Below w1.heap.size w1 (w4.alloc (.cells (bitsC (List.replicate ls.length false)).toArray 4))) := hide (Below.step HBw4.out (below_alloc _ _))
          have HZw5 : Hid ((w4.alloc (.cells (bitsC (List.replicate ls.length false)).toArray 4)).heap.size = w4.heap.size + 1) := hide (by simp)
          have HNw5 := hide (blk_new w4 (.cells (bitsC (List.replicate ls.length false)).toArray 4))
          have HF11w5 := hide (Below.blk (below_alloc w4 (.cells (bitsC (List.replicate ls.length false)).toArray 4)) HF11w4.out)
          have HF12w5 := hide (Below.blk (below_alloc w4 (.cells (bitsC (List.replicate ls.length false)).toArray 4)) HNw4.out)
          refine hK.out _ _ (HSW.out _ HBw5.out) (fun _ => ?_)
          clear hK K
          generalize (w4.alloc (.cells (bitsC (List.replicate ls.length false)).toArray 4)) = w5 at *
          have C11w5 := blk_cell HF11w5.out 0
          have Z11w5 := blk_frozen HF11w5.out 0
          simp only [List.getElem?_toArray, List.getElem?_cons_zero, Array.getElem?_setIfInBounds, List.setIfInBounds_toArray, List.set_cons_zero] at C11w5
          have C12w5 := blk_cell HF12w5.out 0
          have Z12w5 := blk_frozen HF12w5.out 0
          simp only [List.getElem?_toArray, List.getElem?_cons_zero, Array.getElem?_setIfInBounds, List.setIfInBounds_toArray, List.set_cons_zero] at C12w5
          refine wpAnyH_ready (rs := [13]) (by kernel_rfl) (by simp) ?_
          refine AllReadyH.cons rfl (fun K hK => ?_) AllReadyH.nil
          go_simp
          have HBw6 : Hid (Below w1.heap.size w1 (w5.setCell ⟨w2.heap.size, 0, none⟩ (.slice ha rs.length hc))) := hide (HBw5.out.setCell (by (have z2 := HZw2.out; have z3 := HZw3.out; have z4 := HZw4.out; have z5 := HZw5.out; have z1 := HZ1.out; show _ ≤ w2.heap.size; omega)) _)
          have HZw6 : Hid ((w5.setCell ⟨w2.heap.size, 0, none⟩ (.slice ha rs.length hc)).heap.size = w5.heap.size) := hide (by simp [World.setCell])
          have HF11w6 := hide (blk_set HF11w5.out 0 (.slice ha rs.length hc))
          have HF12w6 := hide ((Below.heap_setCell w5 ⟨w2.heap.size, 0, none⟩ (.slice ha rs.length hc) w3.heap.size (by (have z2 := HZw2.out; have z3 := HZw3.out; have z4 := HZw4.out; have z5 := HZw5.out; have z1 := HZ1.out; show w3.heap.size ≠ w2.heap.size; omega))).trans HF12w5.out)
          have HF10w6 := hide ((Below.heap_setCell w5 ⟨w2.heap.size, 0, none⟩ (.slice ha rs.length hc) w4.heap.size (by (have z2 := HZw2.out; have z3 := HZw3.out; have z4 := HZw4.out; have z5 := HZw5.out; have z1 := HZ1.out; show w4.heap.size ≠ w2.heap.size; omega))).trans HNw5.out)
          refine hK.out _ _ (HSW.out _ HBw6.out) (fun _ => ?_)
          clear hK K
          generalize (w5.setCell ⟨w2.heap.size, 0, none⟩ (.slice ha rs.length hc)) = w6 at *
          have C11w6 := blk_cell HF11w6.out 0
          have Z11w6 := blk_frozen HF11w6.out 0
          simp only [List.getElem?_toArray, List.getElem?_cons_zero, Array.getElem?_setIfInBounds, List.setIfInBounds_toArray, List.set_cons_zero] at C11w6
          have C12w6 := blk_cell HF12w6.out 0
          have Z12w6 := blk_frozen HF12w6.out 0
          simp only [List.getElem?_toArray, List.getElem?_cons_zero, Array.getElem?_setIfInBounds, List.setIfInBounds_toArray, List.set_cons_zero] at C12w6
          refine wpAnyH_ready (rs := [14]) (by kernel_rfl) (by simp) ?_
          refine AllReadyH.cons rfl (fun K hK => ?_) AllReadyH.nil
          go_simp
          have HBw7 : Hid (Below w1.heap.size w1 (w6.setCell ⟨w3.heap.size, 0, none⟩ (.slice (some ⟨w4.heap.size, 0, none⟩) 0 ls.length))) := hide (HBw6.out.setCell (by (have z2 := HZw2.out; have z3 := HZw3.out; have z4 := HZw4.out; have z5 := HZw5.out; have z6 := HZw6.out; have z1 := HZ1.out; show _ ≤ w3.heap.size; omega)) _)
          have HZw7 : Hid ((w6.setCell ⟨w3.heap.size, 0, none⟩ (.slice (some ⟨w4.heap.size, 0, none⟩) 0 ls.length)).heap.size = w6.heap.size) := hide (by simp [World.setCell])
          have HF11w7 := hide ((Below.heap_setCell w6 ⟨w3.heap.size, 0, none⟩ (.slice (some ⟨w4.heap.size, 0, none⟩) 0 ls.length) w2.heap.size (by (have z2 := HZw2.out; have z3 := HZw3.out; have z4 := HZw4.out; have z5 := HZw5.out; have z6 := HZw6.out; have z1 := HZ1.out; show w2.heap.size ≠ w3.heap.size; omega))).trans HF11w6.out)
          have HF12w7 := hide (blk_set HF12w6.out 0 (.slice (some ⟨w4.heap.size, 0, none⟩) 0 ls.length))
          have HF10w7 := hide ((Below.heap_setCell w6 ⟨w3.heap.size, 0, none⟩ (.slice (some ⟨w4.heap.size, 0, none⟩) 0 ls.length) w4.heap.size (by (have z2 := HZw2.out; have z3 := HZw3.out; have z4 := HZw4.out; have z5 := HZw5.out; have z6 := HZw6.out; have z1 := HZ1.out; show w4.heap.size ≠ w3.heap.size; omega))).trans HF10w6.out)
          refine hK.out _ _ (HSW.out _ HBw7.out) (fun _ => ?_)
          clear hK K
          generalize (w6.setCell ⟨w3.heap.size, 0, none⟩ (.slice (some ⟨w4.heap.size, 0, none⟩) 0 ls.length)) = w7 at *
          have C11w7 := blk_cell HF11w7.out 0
          have Z11w7 := blk_frozen HF11w7.out 0
          simp only [List.getElem?_toArray, List.getElem?_cons_zero, Array.getElem?_setIfInBounds, List.setIfInBounds_toArray, List.set_cons_zero] at C11w7
          have C12w7 := blk_cell HF12w7.out 0
          have Z12w7 := blk_frozen HF12w7.out 0
          simp only [List.getElem?_toArray, List.getElem?_cons_zero, Array.getElem?_setIfInBounds, List.setIfInBounds_toArray, List.set_cons_zero] at C12w7
          refine wpAnyH_done (by kernel_rfl) ?_ _
          go_wp2_with fail
          go_meet
          case rel =>
            have hz : True := trivial
            have z2 := HZw2.out
            have z3 := HZw3.out
            have z4 := HZw4.out
            have z5 := HZw5.out
            have z6 := HZw6.out
            have z7 := HZw7.out
            have z1 := HZ1.out
            refine ⟨w2.heap.size, w3.heap.size, some ⟨w4.heap.size, 0, none⟩, ls.length, rfl, rfl, hide ⟨Below.step HB1.out HBw7.out, Below.blk HBw7.out HX1.out, Below.blk HBw7.out HX2.out, by rw [HLEN.out]; exact HF11w7.out, HF12w7.out, (mine_made HF10w7.out (by simp [bitsC]) (by omega)).from (by show w.heap.size ≤ w4.heap.size; omega), fun b hb => by (simp [Value.ownBlock] at hb; subst hb; show _ ∧ _ ∧ _ ∧ _; (refine ⟨?_, ?_, ?_, ?_⟩ <;> (simp only; omega))), (by (refine ⟨?_, ?_, ?_⟩ <;> (simp only; omega))), (by simp only; omega)⟩⟩
        · skip
          go_simp
          have HBw5 : Hid (Below w1.heap.size w1 (w4.setCell ⟨w2.heap.size, 0, none⟩ (.slice ha rs.length hc))) := hide (HBw4.out.setCell (by (have z2 := HZw2.out; have z3 := HZw3.out; have z4 := HZw4.out; have z1 := HZ1.out; show _ ≤ w2.heap.size; omega)) _)
          have HZw5 : Hid ((w4.setCell ⟨w2.heap.size, 0, none⟩ (.slice ha rs.length hc)).heap.size = w4.heap.size) := hide (by simp [World.setCell])
          have HF11w5 := hide (blk_set HF11w4.out 0 (.slice ha rs.length hc))
          have HF12w5 := hide ((Below.heap_setCell w4 ⟨w2.heap.size, 0, none⟩ (.slice ha rs.length hc) w3.heap.size (by (have z2 := HZw2.out; have z3 := HZw3.out; have z4 := HZw4.out; have z1 := HZ1.out; show w3.heap.size ≠ w2.heap.size; omega))).trans HNw4.out)
          refine hK.out _ _ (HSW.out _ HBw5.out) (fun _ => ?_)
          clear hK K
          generalize (w4.setCell ⟨w2.heap.size, 0, none⟩ (.slice ha rs.length hc)) = w5 at *
          have C11w5 := blk_cell HF11w5.out 0
          have Z11w5 := blk_frozen HF11w5.out 0
          simp only [List.getElem?_toArray, List.getElem?_cons_zero, Array.getElem?_setIfInBounds, List.setIfInBounds_toArray, List.set_cons_zero] at C11w5
          have C12w5 := blk_cell HF12w5.out 0
          have Z12w5 := blk_frozen HF12w5.out 0
          simp only [List.getElem?_toArray, List.getElem?_cons_zero, Array.getElem?_setIfInBounds, List.setIfInBounds_toArray, List.set_cons_zero] at C12w5
          refine wpAnyH_ready (rs := [10]) (by kernel_rfl) (by simp) ?_
          refine AllReadyH.cons rfl (fun K hK => ?_) AllReadyH.nil
          go_simp
          have HBw6 : Hid (Below w1.heap.size w1 (w5.alloc (.cells (bitsC (List.replicate ls.length false)).toArray 4))) := hide (Below.step HBw5.out (below_alloc _ _))
          have HZw6 : Hid ((w5.alloc (.cells (bitsC (List.replicate ls.length false)).toArray 4)).heap.size = w5.heap.size + 1) := hide (by simp)
          have HNw6 := hide (blk_new w5 (.cells (bitsC (List.replicate ls.length false)).toArray 4))
          have HF11w6 := hide (Below.blk (below_alloc w5 (.cells (bitsC (List.replicate ls.length false)).toArray 4)) HF11w5.out)
          have HF12w6 := hide (Below.blk (below_alloc w5 (.cells (bitsC (List.replicate ls.length false)).toArray 4)) HF12w5.out)
          refine hK.out _ _ (HSW.out _ HBw6.out) (fun _ => ?_)
          clear hK K
          generalize (w5.alloc (.cells (bitsC (List.replicate ls.length false)).toArray 4)) = w6 at *
          have C11w6 := blk_cell HF11w6.out 0
          have Z11w6 := blk_frozen HF11w6.out 0
          simp only [List.getElem?_toArray, List.getElem?_cons_zero, Array.getElem?_setIfInBounds, List.setIfInBounds_toArray, List.set_cons_zero] at C11w6
          have C12w6 := blk_cell HF12w6.out 0
          have Z12w6 := blk_frozen HF12w6.out 0
          simp only [List.getElem?_toArray, List.getElem?_cons_zero, Array.getElem?_setIfInBounds, List.setIfInBounds_toArray, List.set_cons_zero] at C12w6
          refine wpAnyH_ready (rs := [14]) (by kernel_rfl) (by simp) ?_
          refine AllReadyH.cons rfl (fun K hK => ?_) AllReadyH.nil
          go_simp
          have HBw7 : Hid (Below w1.heap.size w1 (w6.setCell ⟨w3.heap.size, 0, none⟩ (.slice (some ⟨w5.heap.size, 0, none⟩) 0 ls.length))) := hide (HBw6.out.setCell (by (have z2 := HZw2.out; have z3 := HZw3.out; have z4 := HZw4.out; have z5 := HZw5.out; have z6 := HZw6.out; have z1 := HZ1.out; show _ ≤ w3.heap.size; omega)) _)
          have HZw7 : Hid ((w6.setCell ⟨w3.heap.size, 0, none⟩ (.slice (some ⟨w5.heap.size, 0, none⟩) 0 ls.length)).heap.size = w6.heap.size) := hide (by simp [World.setCell])
          have HF11w7 := hide ((Below.heap_setCell w6 ⟨w3.heap.size, 0, none⟩ (.slice (some ⟨w5.heap.size, 0, none⟩) 0 ls.length) w2.heap.size (by (have z2 := HZw2.out; have z3 := HZw3.out; have z4 := HZw4.out; have z5 := HZw5.out; have z6 := HZw6.out; have z1 := HZ1.out; show w2.heap.size ≠ w3.heap.size; omega))).trans HF11w6.out)
          have HF12w7 := hide (blk_set HF12w6.out 0 (.slice (some ⟨w5.heap.size, 0, none⟩) 0 ls.length))
          have HF10w7 := hide ((Below.heap_setCell w6 ⟨w3.heap.size, 0, none⟩ (.slice (some ⟨w5.heap.size, 0, none⟩) 0 ls.length) w5.heap.size (by (have z2 := HZw2.out; have z3 := HZw3.out; have z4 := HZw4.out; have z5 := HZw5.out; have z6 := HZw6.out; have z1 := HZ1.out; show w5.heap.size ≠ w3.heap.size; omega))).trans HNw6.out)
          refine hK.out _ _ (HSW.out _ HBw7.out) (fun _ => ?_)
          clear hK K
          generalize (w6.setCell ⟨w3.heap.size, 0, none⟩ (.slice (some ⟨w5.heap.size, 0, none⟩) 0 ls.length)) = w7 at *
          have C11w7 := blk_cell HF11w7.out 0
          have Z11w7 := blk_frozen HF11w7.out 0
          simp only [List.getElem?_toArray, List.getElem?_cons_zero, Array.getElem?_setIfInBounds, List.setIfInBounds_toArray, List.set_cons_zero] at C11w7
          have C12w7 := blk_cell HF12w7.out 0
          have Z12w7 := blk_frozen HF12w7.out 0
          simp only [List.getElem?_toArray, List.getElem?_cons_zero, Array.getElem?_setIfInBounds, List.setIfInBounds_toArray, List.set_cons_zero] at C12w7
          refine wpAnyH_done (by kernel_rfl) ?_ _
          go_wp2_with fail
          go_meet
          case rel =>
            have hz : True := trivial
            have z2 := HZw2.out
            have z3 := HZw3.out
            have z4 := HZw4.out
            have z5 := HZw5.out
            have z6 := HZw6.out
            have z7 := HZw7.out
            have z1 := HZ1.out
            refine ⟨w2.heap.size, w3.heap.size, some ⟨w5.heap.size, 0, none⟩, ls.length, rfl, rfl, hide ⟨Below.step HB1.out HBw7.out, Below.blk HBw7.out HX1.out, Below.blk HBw7.out HX2.out, by rw [HLEN.out]; exact HF11w7.out, HF12w7.out, (mine_made HF10w7.out (by simp [bitsC]) (by omega)).from (by show w.heap.size ≤ w5.heap.size; omega), fun b hb => by (simp [Value.ownBlock] at hb; subst hb; show _ ∧ _ ∧ _ ∧ _; (refine ⟨?_, ?_, ?_, ?_⟩ <;> (simp only; omega))), (by (refine ⟨?_, ?_, ?_⟩ <;> (simp only; omega))), (by simp only; omega)⟩⟩
    · skip
      go_simp
      have HBw3 : Hid (Below w1.heap.size w1 (w2.alloc (.cells #[.slice none 0 0] 36))) := hide (Below.step HBw2.out (below_alloc _ _))
      have HZw3 : Hid ((w2.alloc (.cells #[.slice none 0 0] 36)).heap.size = w2.heap.size + 1) := hide (by simp)
      have HNw3 := hide (blk_new w2 (.cells #[.slice none 0 0] 36))
      refine hK.out _ _ (HSW.out _ HBw3.out) (fun _ => ?_)
      clear hK K
      generalize (w2.alloc (.cells #[.slice none 0 0] 36)) = w3 at *
      have C12w3 := blk_cell HNw3.out 0
      have Z12w3 := blk_frozen HNw3.out 0
      simp only [List.getElem?_toArray, List.getElem?_cons_zero, Array.getElem?_setIfInBounds, List.setIfInBounds_toArray, List.set_cons_zero] at C12w3
      refine wpAnyH_ready (rs := [10, 11]) (by kernel_rfl) (by simp) ?_
      refine AllReadyH.cons rfl (fun K hK => ?_) (AllReadyH.cons rfl (fun K hK => ?_) AllReadyH.nil)
      · skip
        go_simp
        have HBw4 : Hid (Below w1.heap.size w1 (w3.alloc (.cells (bitsC (List.replicate ls.length false)).toArray 4))) := hide (Below.step HBw3.out (below_alloc _ _))
        have HZw4 : Hid ((w3.alloc (.cells (bitsC (List.replicate ls.length false)).toArray 4)).heap.size = w3.heap.size + 1) := hide (by simp)
        have HNw4 := hide (blk_new w3 (.cells (bitsC (List.replicate ls.length false)).toArray 4))
        have HF12w4 := hide (Below.blk (below_alloc w3 (.cells (bitsC (List.replicate ls.length false)).toArray 4)) HNw3.out)
        refine hK.out _ _ (HSW.out _ HBw4.out) (fun _ => ?_)
        clear hK K
        generalize (w3.alloc (.cells (bitsC (List.replicate ls.length false)).toArray 4)) = w4 at *
        have C12w4 := blk_cell HF12w4.out 0
        have Z12w4 := blk_frozen HF12w4.out 0
        simp only [List.getElem?_toArray, List.getElem?_cons_zero, Array.getElem?_setIfInBounds, List.setIfInBounds_toArray, List.set_cons_zero] at C12w4
        refine wpAnyH_ready (rs := [11]) (by kernel_rfl) (by simp) ?_
        refine AllReadyH.cons rfl (fun K hK => ?_) AllReadyH.nil
        go_simp
        have HBw5 : Hid (Below w1.heap.size w1 (w4.alloc (.cells #[.slice none 0 0] 36))) := hide (Below.step HBw4.out (below_alloc _ _))
        have HZw5 : Hid ((w4.alloc (.cells #[.slice none 0 0] 36)).heap.size = w4.heap.size + 1) := hide (by simp)
        have HNw5 := hide (blk_new w4 (.cells #[.slice none 0 0] 36))
        have HF12w5 := hide (Below.blk (below_alloc w4 (.cells #[.slice none 0 0] 36)) HF12w4.out)
        have HF10w5 := hide (Below.blk (below_alloc w4 (.cells #[.slice none 0 0] 36)) HNw4.out)
        refine hK.out _ _ (HSW.out _ HBw5.out) (fun _ => ?_)
        clear hK K
        generalize (w4.alloc (.cells #[.slice none 0 0] 36)) = w5 at *
        have C11w5 := blk_cell HNw5.out 0
        have Z11w5 := blk_frozen HNw5.out 0
        simp only [List.getElem?_toArray, List.getElem?_cons_zero, Array.getElem?_setIfInBounds, List.setIfInBounds_toArray, List.set_cons_zero] at C11w5
        have C12w5 := blk_cell HF12w5.out 0
        have Z12w5 := blk_frozen HF12w5.out 0
        simp only [List.getElem?_toArray, List.getElem?_cons_zero, Array.getElem?_setIfInBounds, List.setIfInBounds_toArray, List.set_cons_zero] at C12w5
        refine wpAnyH_ready (rs := [13]) (by kernel_rfl) (by simp) ?_
        refine AllReadyH.cons rfl (fun K hK => ?_) AllReadyH.nil
        go_simp
        have HBw6 : Hid (Below w1.heap.size w1 (w5.setCell ⟨w4.heap.size, 0, none⟩ (.slice ha rs.length hc))) := hide (HBw5.out.setCell (by (have z2 := HZw2.out; have z3 := HZw3.out; have z4 := HZw4.out; have z5 := HZw5.out; have z1 := HZ1.out; show _ ≤ w4.heap.size; omega)) _)
        have HZw6 : Hid ((w5.setCell ⟨w4.heap.size, 0, none⟩ (.slice ha rs.length hc)).heap.size = w5.heap.size) := hide (by simp [World.setCell])
        have HF12w6 := hide ((Below.heap_setCell w5 ⟨w4.heap.size, 0, none⟩ (.slice ha rs.length hc) w2.heap.size (by (have z2 := HZw2.out; have z3 := HZw3.out; have z4 := HZw4.out; have z5 := HZw5.out; have z1 := HZ1.out; show w2.heap.size ≠ w4.heap.size; omega))).trans HF12w5.out)
        have HF10w6 := hide ((Below.heap_setCell w5 ⟨w4.heap.size, 0, none⟩ (.slice ha rs.length hc) w3.heap.size (by (have z2 := HZw2.out; have z3 := HZw3.out; have z4 := HZw4.out; have z5 := HZw5.out; have z1 := HZ1.out; show w3.heap.size ≠ w4.heap.size; omega))).trans HF10w5.out)
        have HF11w6 := hide (blk_set HNw5.out 0 (.slice ha rs.length hc))
        refine hK.out _ _ (HSW.out _ HBw6.out) (fun _ => ?_)
        clear hK K
        generalize (w5.setCell ⟨w4.heap.size, 0, none⟩ (.slice ha rs.length hc)) = w6 at *
        have C11w6 := blk_cell HF11w6.out 0
        have Z11w6 := blk_frozen HF11w6.out 0
        simp only [List.getElem?_toArray, List.getElem?_cons_zero, Array.getElem?_setIfInBounds, List.setIfInBounds_toArray, List.set_cons_zero] at C11w6
        have C12w6 := blk_cell HF12w6.out 0
        have Z12w6 := blk_frozen HF12w6.out 0
        simp only [List.getElem?_toArray, List.getElem?_cons_zero, Array.getElem?_setIfInBounds, List.setIfInBounds_toArray, List.set_cons_zero] at C12w6
        refine wpAnyH_ready (rs := [14]) (by kernel_rfl) (by simp) ?_
        refine AllReadyH.cons rfl (fun K hK => ?_) AllReadyH.nil
        go_simp
        have HBw7 : Hid (Below w1.heap.size w1 (w6.setCell ⟨w2.heap.size, 0, none⟩ (.slice (some ⟨w3.heap.size, 0, none⟩) 0 ls.length))) := hide (HBw6.out.setCell (by (have z2 := HZw2.out; have z3 := HZw3.out; have z4 := HZw4.out; have z5 := HZw5.out; have z6 := HZw6.out; have z1 := HZ1.out; show _ ≤ w2.heap.size; omega)) _)
        have HZw7 : Hid ((w6.setCell ⟨w2.heap.size, 0, none⟩ (.slice (some ⟨w3.heap.size, 0, none⟩) 0 ls.length)).heap.size = w6.heap.size) := hide (by simp [World.setCell])
        have HF12w7 := hide (blk_set HF12w6.out 0 (.slice (some ⟨w3.heap.size, 0, none⟩) 0 ls.length))
        have HF10w7 := hide ((Below.heap_setCell w6 ⟨w2.heap.size, 0, none⟩ (.slice (some ⟨w3.heap.size, 0, none⟩) 0 ls.length) w3.heap.size (by (have z2 := HZw2.out; have z3 := HZw3.out; have z4 := HZw4.out; have z5 := HZw5.out; have z6 := HZw6.out; have z1 := HZ1.out; show w3.heap.size ≠ w2.heap.size; omega))).trans HF10w6.out)
        have HF11w7 := hide ((Below.heap_setCell w6 ⟨w2.heap.size, 0, none⟩ (.slice (some ⟨w3.heap.size, 0, none⟩) 0 ls.length) w4.heap.size (by (have z2 := HZw2.out; have z3 := HZw3.out; have z4 := HZw4.out; have z5 := HZw5.out; have z6 := HZw6.out; have z1 := HZ1.out; show w4.heap.size ≠ w2.heap.size; omega))).trans HF11w6.out)
        refine hK.out _ _ (HSW.out _ HBw7.out) (fun _ => ?_)
        clear hK K
        generalize (w6.setCell ⟨w2.heap.size, 0, none⟩ (.slice (some ⟨w3.heap.size, 0, none⟩) 0 ls.length)) = w7 at *
        have C11w7 := blk_cell HF11w7.out 0
        have Z11w7 := blk_frozen HF11w7.out 0
        simp only [List.getElem?_toArray, List.getElem?_cons_zero, Array.getElem?_setIfInBounds, List.setIfInBounds_toArray, List.set_cons_zero] at C11w7
        have C12w7 := blk_cell HF12w7.out 0
        have Z12w7 := blk_frozen HF12w7.out 0
        simp only [List.getElem?_toArray, List.getElem?_cons_zero, Array.getElem?_setIfInBounds, List.setIfInBounds_toArray, List.set_cons_zero] at C12w7
        refine wpAnyH_done (by kernel_rfl) ?_ _
        go_wp2_with fail
        go_meet
        case rel =>
          have hz : True := trivial
          have z2 := HZw2.out
          have z3 := HZw3.out
          have z4 := HZw4.out
          have z5 := HZw5.out
          have z6 := HZw6.out
          have z7 := HZw7.out
          have z1 := HZ1.out
          refine ⟨w4.heap.size, w2.heap.size, some ⟨w3.heap.size, 0, none⟩, ls.length, rfl, rfl, hide ⟨Below.step HB1.out HBw7.out, Below.blk HBw7.out HX1.out, Below.blk HBw7.out HX2.out, by rw [HLEN.out]; exact HF11w7.out, HF12w7.out, (mine_made HF10w7.out (by simp [bitsC]) (by omega)).from (by show w.heap.size ≤ w3.heap.size; omega), fun b hb => by (simp [Value.ownBlock] at hb; subst hb; show _ ∧ _ ∧ _ ∧ _; (refine ⟨?_, ?_, ?_, ?_⟩ <;> (simp only; omega))), (by (refine ⟨?_, ?_, ?_⟩ <;> (simp only; omega))), (by simp only; omega)⟩⟩
      · skip
        go_simp
        have HBw4 : Hid (Below w1.heap.size w1 (w3.alloc (.cells #[.slice none 0 0] 36))) := hide (Below.step HBw3.out (below_alloc _ _))
        have HZw4 : Hid ((w3.alloc (.cells #[.slice none 0 0] 36)).heap.size = w3.heap.size + 1) := hide (by simp)
        have HNw4 := hide (blk_new w3 (.cells #[.slice none 0 0] 36))
        have HF12w4 := hide (Below.blk (below_alloc w3 (.cells #[.slice none 0 0] 36)) HNw3.out)
        refine hK.out _ _ (HSW.out _ HBw4.out) (fun _ => ?_)
        clear hK K
        generalize (w3.alloc (.cells #[.slice none 0 0] 36)) = w4 at *
        have C11w4 := blk_cell HNw4.out 0
        have Z11w4 := blk_frozen HNw4.out 0
        simp only [List.getElem?_toArray, List.getElem?_cons_zero, Array.getElem?_setIfInBounds, List.setIfInBounds_toArray, List.set_cons_zero] at C11w4
        have C12w4 := blk_cell HF12w4.out 0
        have Z12w4 := blk_frozen HF12w4.out 0
        simp only [List.getElem?_toArray, List.getElem?_cons_zero, Array.getElem?_setIfInBounds, List.setIfInBounds_toArray, List.set_cons_zero] at C12w4
        refine wpAnyH_ready (rs := [10, 13]) (by kernel_rfl) (by simp) ?_
        refine AllReadyH.cons rfl (fun K hK => ?_) (AllReadyH.cons rfl (fun K hK => ?_) AllReadyH.nil)
        · skip
          go_simp
          have HBw5 : Hid (Below w1.heap.size w1 (w4.alloc (.cells (bitsC (List.replicate ls.length false)).toArray 4))) := hide (Below.step HBw4.out (below_alloc _ _))
          have HZw5 : Hid ((w4.alloc (.cells (bitsC (List.replicate ls.length false)).toArray 4)).heap.size = w4.heap.size + 1) := hide (by simp)
          have HNw5 := hide (blk_new w4 (.cells (bitsC (List.replicate ls.length false)).toArray 4))
          have HF12w5 := hide (Below.blk (below_alloc w4 (.cells (bitsC (List.replicate ls.length false)).toArray 4)) HF12w4.out)
          have HF11w5 := hide (Below.blk (below_alloc w4 (.cells (bitsC (List.replicate ls.length false)).toArray 4)) HNw4.out)
          refine hK.out _ _ (HSW.out _ HBw5.out) (fun _ => ?_)
          clear hK K
          generalize (w4.alloc (.cells (bitsC (List.replicate ls.length false)).toArray 4)) = w5 at *
          have C11w5 := blk_cell HF11w5.out 0
          have Z11w5 := blk_frozen HF11w5.out 0
          simp only [List.getElem?_toArray, List.getElem?_cons_zero, Array.getElem?_setIfInBounds, List.setIfInBounds_toArray, List.set_cons_zero] at C11w5
          have C12w5 := blk_cell HF12w5.out 0
          have Z12w5 := blk_frozen HF12w5.out 0
          simp only [List.getElem?_toArray, List.getElem?_cons_zero, Array.getElem?_setIfInBounds, List.setIfInBounds_toArray, List.set_cons_zero] at C12w5
          refine wpAnyH_ready (rs := [13]) (by kernel_rfl) (by simp) ?_
          refine AllReadyH.cons rfl (fun K hK => ?_) AllReadyH.nil
          go_simp
          have HBw6 : Hid (Below w1.heap.size w1 (w5.setCell ⟨w3.heap.size, 0, none⟩ (.slice ha rs.length hc))) := hide (HBw5.out.setCell (by (have z2 := HZw2.out; have z3 := HZw3.out; have z4 := HZw4.out; have z5 := HZw5.out; have z1 := HZ1.out; show _ ≤ w3.heap.size; omega)) _)
          have HZw6 : Hid ((w5.setCell ⟨w3.heap.size, 0, none⟩ (.slice ha rs.length hc)).heap.size = w5.heap.size) := hide (by simp [World.setCell])
          have HF12w6 := hide ((Below.heap_setCell w5 ⟨w3.heap.size, 0, none⟩ (.slice ha rs.length hc) w2.heap.size (by (have z2 := HZw2.out; have z3 := HZw3.out; have z4 := HZw4.out; have z5 := HZw5.out; have z1 := HZ1.out; show w2.heap.size ≠ w3.heap.size; omega))).trans HF12w5.out)
          have HF11w6 := hide (blk_set HF11w5.out 0 (.slice ha rs.length hc))
          have HF10w6 := hide ((Below.heap_setCell w5 ⟨w3.heap.size, 0, none⟩ (.slice ha rs.length hc) w4.heap.size (by (have z2 := HZw2.out; have z3 := HZw3.out; have z4 := HZw4.out; have z5 := HZw5.out; have z1 := HZ1.out; show w4.heap.size ≠ w3.heap.size; omega))).trans HNw5.out)
          refine hK.out _ _ (HSW.out _ HBw6.out) (fun _ => ?_)
          clear hK K
          generalize (w5.setCell ⟨w3.heap.size, 0, none⟩ (.slice ha rs.length hc)) = w6 at *
          have C11w6 := blk_cell HF11w6.out 0
          have Z11w6 := blk_frozen HF11w6.out 0
          simp only [List.getElem?_toArray, List.getElem?_cons_zero, Array.getElem?_setIfInBounds, List.setIfInBounds_toArray, List.set_cons_zero] at C11w6
          have C12w6 := blk_cell HF12w6.out 0
          have Z12w6 := blk_frozen HF12w6.out 0
          simp only [List.getElem?_toArray, List.getElem?_cons_zero, Array.getElem?_setIfInBounds, List.setIfInBounds_toArray, List.set_cons_zero] at C12w6
          refine wpAnyH_ready (rs := [14]) (by kernel_rfl) (by simp) ?_
          refine AllReadyH.cons rfl (fun K hK => ?_) AllReadyH.nil
          go_simp
          have HBw7 : Hid (Below w1.heap.size w1 (w6.setCell ⟨w2.heap.size, 0, none⟩ (.slice (some ⟨w4.heap.size, 0, none⟩) 0 ls.length))) := hide (HBw6.out.setCell (by (have z2 := HZw2.out; have z3 := HZw3.out; have z4 := HZw4.out; have z5 := HZw5.out; have z6 := HZw6.out; have z1 := HZ1.out; show _ ≤ w2.heap.size; omega)) _)
          have HZw7 : Hid ((w6.setCell ⟨w2.heap.size, 0, none⟩ (.slice (some ⟨w4.heap.size, 0, none⟩) 0 ls.length)).heap.size = w6.heap.size) := hide (by simp [World.setCell])
          have HF12w7 := hide (blk_set HF12w6.out 0 (.slice (some ⟨w4.heap.size, 0, none⟩) 0 ls.length))
          have HF11w7 := hide ((Below.heap_setCell w6 ⟨w2.heap.size, 0, none⟩ (.slice (some ⟨w4.heap.size, 0, none⟩) 0 ls.length) w3.heap.size (by (have z2 := HZw2.out; have z3 := HZw3.out; have z4 := HZw4.out; have z5 := HZw5.out; have z6 := HZw6.out; have z1 := HZ1.out; show w3.heap.size ≠ w2.heap.size; omega))).trans HF11w6.out)
          have HF10w7 := hide ((Below.heap_setCell w6 ⟨w2.heap.size, 0, none⟩ (.slice (some ⟨w4.heap.size, 0, none⟩) 0 ls.length) w4.heap.size (by (have z2 := HZw2.out; have z3 := HZw3.out; have z4 := HZw4.out; have z5 := HZw5.out; have z6 := HZw6.out; have z1 := HZ1.out; show w4.heap.size ≠ w2.heap.size; omega))).trans HF10w6.out)
          refine hK.out _ _ (HSW.out _ HBw7.out) (fun _ => ?_)
          clear hK K
          generalize (w6.setCell ⟨w2.heap.size, 0, none⟩ (.slice (some ⟨w4.heap.size, 0, none⟩) 0 ls.length)) = w7 at *
          have C11w7 := blk_cell HF11w7.out 0
          have Z11w7 := blk_frozen HF11w7.out 0
          simp only [List.getElem?_toArray, List.getElem?_cons_zero, Array.getElem?_setIfInBounds, List.setIfInBounds_toArray, List.set_cons_zero] at C11w7
          have C12w7 := blk_cell HF12w7.out 0
          have Z12w7 := blk_frozen HF12w7.out 0
          simp only [List.getElem?_toArray, List.getElem?_cons_zero, Array.getElem?_setIfInBounds, List.setIfInBounds_toArray, List.set_cons_zero] at C12w7
          refine wpAnyH_done (by kernel_rfl) ?_ _
          go_wp2_with fail
          go_meet
          case rel =>
            have hz : True := trivial
            have z2 := HZw2.out
            have z3 := HZw3.out
            have z4 := HZw4.out
            have z5 := HZw5.out
            have z6 := HZw6.out
            have z7 := HZw7.out
            have z1 := HZ1.out
            refine ⟨w3.heap.size, w2.heap.size, some ⟨w4.heap.size, 0, none⟩, ls.length, rfl, rfl, hide ⟨Below.step HB1.out HBw7.out, Below.blk HBw7.out HX1.out, Below.blk HBw7.out HX2.out, by rw [HLEN.out]; exact HF11w7.out, HF12w7.out, (mine_made HF10w7.out (by simp [bitsC]) (by omega)).from (by show w.heap.size ≤ w4.heap.size; omega), fun b hb => by (simp [Value.ownBlock] at hb; subst hb; show _ ∧ _ ∧ _ ∧ _; (refine ⟨?_, ?_, ?_, ?_⟩ <;> (simp only; omega))), (by (refine ⟨?_, ?_, ?_⟩ <;> (simp only; omega))), (by simp only; omega)⟩⟩
        · skip
          go_simp
          have HBw5 : Hid (Below w1.heap.size w1 (w4.setCell ⟨w3.heap.size, 0, none⟩ (.slice ha rs.length hc))) := hide (HBw4.out.setCell (by (have z2 := HZw2.out; have z3 := HZw3.out; have z4 := HZw4.out; have z1 := HZ1.out; show _ ≤ w3.heap.size; omega)) _)
          have HZw5 : Hid ((w4.setCell ⟨w3.heap.size, 0, none⟩ (.slice ha rs.length hc)).heap.size = w4.heap.size) := hide (by simp [World.setCell])
          have HF12w5 := hide ((Below.heap_setCell w4 ⟨w3.heap.size, 0, none⟩ (.slice ha rs.length hc) w2.heap.size (by (have z2 := HZw2.out; have z3 := HZw3.out; have z4 := HZw4.out; have z1 := HZ1.out; show w2.heap.size ≠ w3.heap.size; omega))).trans HF12w4.out)
          have HF11w5 := hide (blk_set HNw4.out 0 (.slice ha rs.length hc))
          refine hK.out _ _ (HSW.out _ HBw5.out) (fun _ => ?_)
          clear hK K
          generalize (w4.setCell ⟨w3.heap.size, 0, none⟩ (.slice ha rs.length hc)) = w5 at *
          have C11w5 := blk_cell HF11w5.out 0
          have Z11w5 := blk_frozen HF11w5.out 0
          simp only [List.getElem?_toArray, List.getElem?_cons_zero, Array.getElem?_setIfInBounds, List.setIfInBounds_toArray, List.set_cons_zero] at C11w5
          have C12w5 := blk_cell HF12w5.out 0
          have Z12w5 := blk_frozen HF12w5.out 0
          simp only [List.getElem?_toArray, List.getElem?_cons_zero, Array.getElem?_setIfInBounds, List.setIfInBounds_toArray, List.set_cons_zero] at C12w5
          refine wpAnyH_ready (rs := [10]) (by kernel_rfl) (by simp) ?_
          refine AllReadyH.cons rfl (fun K hK => ?_) AllReadyH.nil
          go_simp
          have HBw6 : Hid (Below w1.heap.size w1 (w5.alloc (.cells (bitsC (List.replicate ls.length false)).toArray 4))) := hide (Below.step HBw5.out (below_alloc _ _))
          have HZw6 : Hid ((w5.alloc (.cells (bitsC (List.replicate ls.length false)).toArray 4)).heap.size = w5.heap.size + 1) := hide (by simp)
          have HNw6 := hide (blk_new w5 (.cells (bitsC (List.replicate ls.length false)).toArray 4))
          have HF12w6 := hide (Below.blk (below_alloc w5 (.cells (bitsC (List.replicate ls.length false)).toArray 4)) HF12w5.out)
          have HF11w6 := hide (Below.blk (below_alloc w5 (.cells (bitsC (List.replicate ls.length false)).toArray 4)) HF11w5.out)
          refine hK.out _ _ (HSW.out _ HBw6.out) (fun _ => ?_)
          clear hK K
          generalize (w5.alloc (.cells (bitsC (List.replicate ls.length false)).toArray 4)) = w6 at *
          have C11w6 := blk_cell HF11w6.out 0
          have Z11w6 := blk_frozen HF11w6.out 0
          simp only [List.getElem?_toArray, List.getElem?_cons_zero, Array.getElem?_setIfInBounds, List.setIfInBounds_toArray, List.set_cons_zero] at C11w6
          have C12w6 := blk_cell HF12w6.out 0
          have Z12w6 := blk_frozen HF12w6.out 0
          simp only [List.getElem?_toArray, List.getElem?_cons_zero, Array.getElem?_setIfInBounds, List.setIfInBounds_toArray, List.set_cons_zero] at C12w6
          refine wpAnyH_ready (rs := [14]) (by kernel_rfl) (by simp) ?_
          refine AllReadyH.cons rfl (fun K hK => ?_) AllReadyH.nil
          go_simp
          have HBw7 : Hid (Below w1.heap.size w1 (w6.setCell ⟨w2.heap.size, 0, none⟩ (.slice (some ⟨w5.heap.size, 0, none⟩) 0 ls.length))) := hide (HBw6.out.setCell (by (have z2 := HZw2.out; have z3 := HZw3.out; have z4 := HZw4.out; have z5 := HZw5.out; have z6 := HZw6.out; have z1 := HZ1.out; show _ ≤ w2.heap.size; omega)) _)
          have HZw7 : Hid ((w6.setCell ⟨w2.heap.size, 0, none⟩ (.slice (some ⟨w5.heap.size, 0, none⟩) 0 ls.length)).heap.size = w6.heap.size) := hide (by simp [World.setCell])
          have HF12w7 := hide (blk_set HF12w6.out 0 (.slice (some ⟨w5.heap.size, 0, none⟩) 0 ls.length))
          have HF11w7 := hide ((Below.heap_setCell w6 ⟨w2.heap.size, 0, none⟩ (.slice (some ⟨w5.heap.size, 0, none⟩) 0 ls.length) w3.heap.size (by (have z2 := HZw2.out; have z3 := HZw3.out; have z4 := HZw4.out; have z5 := HZw5.out; have z6 := HZw6.out; have z1 := HZ1.out; show w3.heap.size ≠ w2.heap.size; omega))).trans HF11w6.out)
          have HF10w7 := hide ((Below.heap_setCell w6 ⟨w2.heap.size, 0, none⟩ (.slice (some ⟨w5.heap.size, 0, none⟩) 0 ls.length) w5.heap.size (by (have z2 := HZw2.out; have z3 := HZw3.out; have z4 := HZw4.out; have z5 := HZw5.out; have z6 := HZw6.out; have z1 := HZ1.out; show w5.heap.size ≠ w2.heap.size; omega))).trans HNw6.out)
          refine hK.out _ _ (HSW.out _ HBw7.out) (fun _ => ?_)
          clear hK K
          generalize (w6.setCell ⟨w2.heap.size, 0, none⟩ (.slice (some ⟨w5.heap.size, 0, none⟩) 0 ls.length)) = w7 at *
          have C11w7 := blk_cell HF11w7.out 0
          have Z11w7 := blk_frozen HF11w7.out 0
          simp only [List.getElem?_toArray, List.getElem?_cons_zero, Array.getElem?_setIfInBounds, List.setIfInBounds_toArray, List.set_cons_zero] at C11w7
          have C12w7 := blk_cell HF12w7.out 0
          have Z12w7 := blk_frozen HF12w7.out 0
          simp only [List.getElem?_toArray, List.getElem?_cons_zero, Array.getElem?_setIfInBounds, List.setIfInBounds_toArray, List.set_cons_zero] at C12w7
          refine wpAnyH_done (by kernel_rfl) ?_ _
          go_wp2_with fail
          go_meet
          case rel =>
            have hz : True := trivial
            have z2 := HZw2.out
            have z3 := HZw3.out
            have z4 := HZw4.out
            have z5 := HZw5.out
            have z6 := HZw6.out
            have z7 := HZw7.out
            have z1 := HZ1.out
            refine ⟨w3.heap.size, w2.heap.size, some ⟨w5.heap.size, 0, none⟩, ls.length, rfl, rfl, hide ⟨Below.step HB1.out HBw7.out, Below.blk HBw7.out HX1.out, Below.blk HBw7.out HX2.out, by rw [HLEN.out]; exact HF11w7.out, HF12w7.out, (mine_made HF10w7.out (by simp [bitsC]) (by omega)).from (by show w.heap.size ≤ w5.heap.size; omega), fun b hb => by (simp [Value.ownBlock] at hb; subst hb; show _ ∧ _ ∧ _ ∧ _; (refine ⟨?_, ?_, ?_, ?_⟩ <;> (simp only; omega))), (by (refine ⟨?_, ?_, ?_⟩ <;> (simp only; omega))), (by simp only; omega)⟩⟩
  case rest =>
    obtain ⟨x3, x4, ta0, tc0, rfl, rfl, hcy⟩ := hcut
    clear hmk
    have cp : w.cell? ⟨s.p, 0, none⟩ = some (.int .i64 gn) := by rw [blk_cell HME.out]; rfl
    have HCP := hide cp
    clear cp
    have b1 : wc.cell? ⟨w.heap.size, 0, none⟩ = some (.pointer (some ⟨s.p, 0, none⟩)) := by rw [blk_cell hcy.out.b1]; rfl
    have m2 : wc.cell? ⟨s.p, 2, none⟩ = some (.slice s.la ls.length s.lc) := by rw [blk_cell (Below.blk hcy.out.below HME.out)]; rfl
    clear HX1 HX2 HZ1 HB1
    go_wp2_with fail
    clear b1 m2 hmf
    go_loopw [9, 28] (fun _ i wr => ∃ (k : Nat) (ta : Option Addr) (tc : Nat), k ≤ ls.length ∧ i = .int .i64 k ∧ Hid (CycT ⟨w.heap.size, w.heap.size + 1, x3, x4, s.p, ga, gc, ha, hc, ta, tc⟩ w g held (tabsTo gn g held ls k) wr)) (fun _ i _ => ls.length - (intOf i).toNat)
    case atStart => exact ⟨0, ta0, tc0, Nat.zero_le _, rfl, hcy⟩
    case round =>
      clear hcy
      obtain ⟨k, ta, tc, hk, rfl, hcy⟩ := hrel
      by_cases hlt : k < ls.length
      · have hki : (k : Int) < (ls.length : Int) := by omega
        have hlut := H.out.luts.below hcy.out.below
        obtain ⟨b, off, hla, _, hbl, n0, n1⟩ := hlut.row.pair hlt
        have hins := hlut.ins k hlt
        simp only [lutF, lutG] at n0 n1
        have HA := hide hla
        rw [HA.out]
        have hRL := rightL_iff.1 (HR.out k hlt)
        have HTL := hide (tabsTo_len gn g held ls k)
        have HB1 : Hid (Below wr.heap.size wr (wr.alloc (.cells #[.slice (s.A k) (ltAt ls k).ins.length (s.C k), .int .i64 (ltAt ls k).table] 44)).drew) := hide (below_alloc _ _).drew
        have HL1 : Hid ((wr.alloc (.cells #[.slice (s.A k) (ltAt ls k).ins.length (s.C k), .int .i64 (ltAt ls k).table] 44)).drew.heap[wr.heap.size]? = some (.cells #[.slice (s.A k) (ltAt ls k).ins.length (s.C k), .int .i64 (ltAt ls k).table] 44 (0, 0))) := hide (blk_new _ _)
        have HSW : Hid (∀ W : World, W.heap[wr.heap.size]? = some (.cells #[.slice (s.A k) (ltAt ls k).ins.length (s.C k), .int .i64 (ltAt ls k).table] 44 (0, 0)) → W.cell? ⟨wr.heap.size, 0, none⟩ = some (.slice (s.A k) (ltAt ls k).ins.length (s.C k)) ∧ W.cell? ⟨wr.heap.size, 1, none⟩ = some (.int .i64 (ltAt ls k).table)) := hide fun W hb => ⟨by rw [blk_cell hb]; rfl, by rw [blk_cell hb]; rfl⟩
        have HY1 := hide (hcy.out.more HB1.out)
        have t1 := HY1.out.c4
        simp only [HTL.out] at t1
        have HLEN2 := HLEN.out
        have HCB := hide (bit_at (HY1.out.look HCP.out HG.out HLH.out) (by rw [HTL.out]; omega) (s.A k) (ltAt ls k).ins (s.C k) (ltAt ls k).table (hins.below HB1.out) (by have := hRL.n4; omega) (by rw [HTL.out, HLEN2]; exact hRL.ins) hRL.t0 hRL.tlt)
        clear HLEN2
        have HX4 : Hid (x4 < wr.heap.size) := hide (blk_lt hcy.out.b4)
        have HOW : Hid (∀ b, (Value.slice ta k tc).ownBlock = some b → b ≠ wr.heap.size) := hide fun b hb => by
          have := hcy.out.mine.ltE (b := b) (by rw [HTL.out]; exact hb)
          omega
        have HTN : Hid (tabsTo gn g held ls (k + 1) = tabsTo gn g held ls k ++ [bitL (sigL gn g held (tabsTo gn g held ls k)) (ltAt ls k)]) := hide rfl
        have HBQ : bitL (sigL gn g held (tabsTo gn g held ls k)) (ltAt ls k) = bitL (sigL gn g held (tabsTo gn g held ls k)) ⟨(ltAt ls k).ins, (ltAt ls k).table⟩ := rfl
        rw [HBQ] at HTN
        clear HBQ
        generalize bitL (sigL gn g held (tabsTo gn g held ls k)) ⟨(ltAt ls k).ins, (ltAt ls k).table⟩ = bq at *
        clear hla hbl hlut hins hRL hcy
        go_wp2_with fail
        clear n0 n1
        refine wp_region_held_drew (S := fun W => W.cell? ⟨wr.heap.size, 0, none⟩ = some (.slice (s.A k) (ltAt ls k).ins.length (s.C k)) ∧ W.cell? ⟨wr.heap.size, 1, none⟩ = some (.int .i64 (ltAt ls k).table)) (by kernel_rfl) (HSW.out _ HL1.out) (fun _ => ?_)
        have HL1 := HL1
        generalize (wr.alloc (.cells #[.slice (s.A k) (ltAt ls k).ins.length (s.C k), .int .i64 (ltAt ls k).table] 44)).drew = y1 at *
        refine wpAnyH_take (i := 1) (oi := ⟨some 33, _, _, _, _, _⟩) (v := (.agg #[.slice (s.A k) (ltAt ls k).ins.length (s.C k), .int .i64 (ltAt ls k).table])) rfl (by kernel_rfl) (by kernel_rfl) (by kernel_rfl) (fun _ _ _ h => h) (Or.inl ⟨by rfl, fun W hS => by (obtain ⟨s0, s1⟩ := hS; go_simp)⟩) (HSW.out _ HL1.out) ?_
        simp only [Act.put, List.setIfInBounds_toArray, List.set_cons_zero, List.set_cons_succ]
        refine wpAnyH_take (i := 2) (oi := ⟨some 34, _, _, _, _, _⟩) (v := (lookV ⟨w.heap.size, w.heap.size + 1, x3, x4, s.p, ga, gc, ha, hc, ta, tc⟩)) rfl (by kernel_rfl) (by kernel_rfl) (by kernel_rfl) (fun _ _ _ h => h) (Or.inl ⟨by rfl, fun W hS => by (obtain ⟨s0, s1⟩ := hS; go_simp)⟩) (HSW.out _ HL1.out) ?_
        simp only [Act.put, List.setIfInBounds_toArray, List.set_cons_zero, List.set_cons_succ]
        refine wpAnyH_ready (rs := [0, 3]) (by kernel_rfl) (by simp) ?_
        refine AllReadyH.cons rfl (fun K hK => ?_) (AllReadyH.cons rfl (fun K hK => ?_) AllReadyH.nil)
        · skip
          go_simp
          refine hK.out _ _ (HSW.out _ HL1.out) (fun _ => ?_)
          clear hK K
          refine wpAnyH_ready (rs := [3]) (by kernel_rfl) (by simp) ?_
          refine AllReadyH.cons rfl (fun K hK => ?_) AllReadyH.nil
          go_simp
          refine HCB.out.mono ?_
          rintro e y2 ⟨rfl, hb⟩
          have HL2 := hide (Below.blk hb HL1.out)
          have HY2 := hide (HY1.out.more hb)
          have t2 := HY2.out.c4
          simp only [HTL.out] at t2
          clear hb
          refine hK.out _ _ (HSW.out _ HL2.out) (fun _ => ?_)
          clear hK K
          refine wpAnyH_ready (rs := [4]) (by kernel_rfl) (by simp) ?_
          refine AllReadyH.cons rfl (fun K hK => ?_) AllReadyH.nil
          go_simp
          have HL3 := hide (Below.blk (below_alloc y2 (.cells #[.bool bq] 4)) HL2.out)
          have HY3 := hide (HY2.out.more (below_alloc y2 (.cells #[.bool bq] 4)))
          have HE3 := hide (blk_new y2 (.cells #[.bool bq] 4))
          have t3 := HY3.out.c4
          simp only [HTL.out] at t3
          refine hK.out _ _ (HSW.out _ HL3.out) (fun _ => ?_)
          clear hK K
          have hmm := HY3.out.mine
          simp only [HTL.out] at hmm
          obtain ⟨ta2, tc2, y4, happ, hm, hg, hnb⟩ := app_bo (B := w.heap.size) (w := (y2.alloc (.cells #[.bool bq] 4))) (c := 1) (n' := k + 1) (l := tabsTo gn g held ls k) (new := [bq]) (m := 1) hmm HTL.out rfl rfl (Lies.blk (cs := bitsC [bq]) HE3.out trivial) (HY3.out.below.size) (by omega)
          clear hmm
          have HM := hide hm
          have HGR := hide hg
          have HNB := hide hnb
          clear hm hg hnb
          refine wpAnyH_ready (rs := [5]) (by kernel_rfl) (by simp) ?_
          refine AllReadyH.cons rfl (fun K hK => ?_) AllReadyH.nil
          refine (if_pos (by kernel_rfl)).mpr ?_
          refine wp_append_run happ _ _ rfl rfl rfl ?_
          simp only [Act.put, List.getElem_toArray, List.getElem_cons_succ, List.getElem_cons_zero, List.setIfInBounds_toArray, List.set_cons_zero, List.set_cons_succ]
          have HL4 := hide ((HGR.out.block wr.heap.size (blk_lt HL3.out) (fun e => HOW.out _ e.symm rfl)).trans HL3.out)
          refine hK.out _ _ (HSW.out _ HL4.out) (fun _ => ?_)
          clear hK K
          clear happ
          have HY5 := hide (HY3.out.add (t' := tabsTo gn g held ls k ++ [bq]) (n' := k + 1) (by rw [List.length_append, HTL.out]; rfl) HM.out (by rw [HTL.out]; exact HGR.out) (by rw [HTL.out]; exact HNB.out))
          have k4 : y4.cell? ⟨x4, 0, none⟩ = some (.slice ta k tc) ∧ y4.frozen? ⟨x4, 0, none⟩ = false := by
            have hh : y4.heap[x4]? = (y2.alloc (.cells #[.bool bq] 4)).heap[x4]? := HGR.out.block x4 (blk_lt HY3.out.b4) (fun e => (HY3.out.sep x4 (by rw [HTL.out]; exact e.symm)).2.2.2 rfl)
            have h4 := HY3.out.b4
            simp only [HTL.out] at h4
            exact ⟨by rw [blk_cell (hh.trans h4)]; rfl, blk_frozen (hh.trans h4) 0⟩
          obtain ⟨k4, z4⟩ := k4
          refine wpAnyH_ready (rs := [6]) (by kernel_rfl) (by simp) ?_
          refine AllReadyH.cons rfl (fun K hK => ?_) AllReadyH.nil
          go_simp
          refine hK.out _ _ (HSW.out _ ((Below.heap_setCell y4 ⟨x4, 0, none⟩ _ wr.heap.size (by (have := HX4.out; show wr.heap.size ≠ x4; omega))).trans HL4.out)) (fun _ => ?_)
          clear hK K
          refine wpAnyH_done (by kernel_rfl) ?_ _
          go_wp2_with fail
          exact ⟨⟨k + 1, _, _, by omega, by go_num, hide (by rw [HTN.out]; exact HY5.out)⟩, by simp [intOf]; omega⟩
        · skip
          go_simp
          refine HCB.out.mono ?_
          rintro e y2 ⟨rfl, hb⟩
          have HL2 := hide (Below.blk hb HL1.out)
          have HY2 := hide (HY1.out.more hb)
          have t2 := HY2.out.c4
          simp only [HTL.out] at t2
          clear hb
          refine hK.out _ _ (HSW.out _ HL2.out) (fun _ => ?_)
          clear hK K
          refine wpAnyH_ready (rs := [0, 4]) (by kernel_rfl) (by simp) ?_
          refine AllReadyH.cons rfl (fun K hK => ?_) (AllReadyH.cons rfl (fun K hK => ?_) AllReadyH.nil)
          · skip
            go_simp
            refine hK.out _ _ (HSW.out _ HL2.out) (fun _ => ?_)
            clear hK K
            refine wpAnyH_ready (rs := [4]) (by kernel_rfl) (by simp) ?_
            refine AllReadyH.cons rfl (fun K hK => ?_) AllReadyH.nil
            go_simp
            have HL3 := hide (Below.blk (below_alloc y2 (.cells #[.bool bq] 4)) HL2.out)
            have HY3 := hide (HY2.out.more (below_alloc y2 (.cells #[.bool bq] 4)))
            have HE3 := hide (blk_new y2 (.cells #[.bool bq] 4))
            have t3 := HY3.out.c4
            simp only [HTL.out] at t3
            refine hK.out _ _ (HSW.out _ HL3.out) (fun _ => ?_)
            clear hK K
            have hmm := HY3.out.mine
            simp only [HTL.out] at hmm
            obtain ⟨ta2, tc2, y4, happ, hm, hg, hnb⟩ := app_bo (B := w.heap.size) (w := (y2.alloc (.cells #[.bool bq] 4))) (c := 1) (n' := k + 1) (l := tabsTo gn g held ls k) (new := [bq]) (m := 1) hmm HTL.out rfl rfl (Lies.blk (cs := bitsC [bq]) HE3.out trivial) (HY3.out.below.size) (by omega)
            clear hmm
            have HM := hide hm
            have HGR := hide hg
            have HNB := hide hnb
            clear hm hg hnb
            refine wpAnyH_ready (rs := [5]) (by kernel_rfl) (by simp) ?_
            refine AllReadyH.cons rfl (fun K hK => ?_) AllReadyH.nil
            refine (if_pos (by kernel_rfl)).mpr ?_
            refine wp_append_run happ _ _ rfl rfl rfl ?_
            simp only [Act.put, List.getElem_toArray, List.getElem_cons_succ, List.getElem_cons_zero, List.setIfInBounds_toArray, List.set_cons_zero, List.set_cons_succ]
            have HL4 := hide ((HGR.out.block wr.heap.size (blk_lt HL3.out) (fun e => HOW.out _ e.symm rfl)).trans HL3.out)
            refine hK.out _ _ (HSW.out _ HL4.out) (fun _ => ?_)
            clear hK K
            clear happ
            have HY5 := hide (HY3.out.add (t' := tabsTo gn g held ls k ++ [bq]) (n' := k + 1) (by rw [List.length_append, HTL.out]; rfl) HM.out (by rw [HTL.out]; exact HGR.out) (by rw [HTL.out]; exact HNB.out))
            have k4 : y4.cell? ⟨x4, 0, none⟩ = some (.slice ta k tc) ∧ y4.frozen? ⟨x4, 0, none⟩ = false := by
              have hh : y4.heap[x4]? = (y2.alloc (.cells #[.bool bq] 4)).heap[x4]? := HGR.out.block x4 (blk_lt HY3.out.b4) (fun e => (HY3.out.sep x4 (by rw [HTL.out]; exact e.symm)).2.2.2 rfl)
              have h4 := HY3.out.b4
              simp only [HTL.out] at h4
              exact ⟨by rw [blk_cell (hh.trans h4)]; rfl, blk_frozen (hh.trans h4) 0⟩
            obtain ⟨k4, z4⟩ := k4
            refine wpAnyH_ready (rs := [6]) (by kernel_rfl) (by simp) ?_
            refine AllReadyH.cons rfl (fun K hK => ?_) AllReadyH.nil
            go_simp
            refine hK.out _ _ (HSW.out _ ((Below.heap_setCell y4 ⟨x4, 0, none⟩ _ wr.heap.size (by (have := HX4.out; show wr.heap.size ≠ x4; omega))).trans HL4.out)) (fun _ => ?_)
            clear hK K
            refine wpAnyH_done (by kernel_rfl) ?_ _
            go_wp2_with fail
            exact ⟨⟨k + 1, _, _, by omega, by go_num, hide (by rw [HTN.out]; exact HY5.out)⟩, by simp [intOf]; omega⟩
          · skip
            go_simp
            have HL3 := hide (Below.blk (below_alloc y2 (.cells #[.bool bq] 4)) HL2.out)
            have HY3 := hide (HY2.out.more (below_alloc y2 (.cells #[.bool bq] 4)))
            have HE3 := hide (blk_new y2 (.cells #[.bool bq] 4))
            have t3 := HY3.out.c4
            simp only [HTL.out] at t3
            refine hK.out _ _ (HSW.out _ HL3.out) (fun _ => ?_)
            clear hK K
            have hmm := HY3.out.mine
            simp only [HTL.out] at hmm
            obtain ⟨ta2, tc2, y4, happ, hm, hg, hnb⟩ := app_bo (B := w.heap.size) (w := (y2.alloc (.cells #[.bool bq] 4))) (c := 1) (n' := k + 1) (l := tabsTo gn g held ls k) (new := [bq]) (m := 1) hmm HTL.out rfl rfl (Lies.blk (cs := bitsC [bq]) HE3.out trivial) (HY3.out.below.size) (by omega)
            clear hmm
            have HM := hide hm
            have HGR := hide hg
            have HNB := hide hnb
            clear hm hg hnb
            refine wpAnyH_ready (rs := [0]) (by kernel_rfl) (by simp) ?_
            refine AllReadyH.cons rfl (fun K hK => ?_) AllReadyH.nil
            go_simp
            refine hK.out _ _ (HSW.out _ HL3.out) (fun _ => ?_)
            clear hK K
            refine wpAnyH_ready (rs := [5]) (by kernel_rfl) (by simp) ?_
            refine AllReadyH.cons rfl (fun K hK => ?_) AllReadyH.nil
            refine (if_pos (by kernel_rfl)).mpr ?_
            refine wp_append_run happ _ _ rfl rfl rfl ?_
            simp only [Act.put, List.getElem_toArray, List.getElem_cons_succ, List.getElem_cons_zero, List.setIfInBounds_toArray, List.set_cons_zero, List.set_cons_succ]
            have HL4 := hide ((HGR.out.block wr.heap.size (blk_lt HL3.out) (fun e => HOW.out _ e.symm rfl)).trans HL3.out)
            refine hK.out _ _ (HSW.out _ HL4.out) (fun _ => ?_)
            clear hK K
            clear happ
            have HY5 := hide (HY3.out.add (t' := tabsTo gn g held ls k ++ [bq]) (n' := k + 1) (by rw [List.length_append, HTL.out]; rfl) HM.out (by rw [HTL.out]; exact HGR.out) (by rw [HTL.out]; exact HNB.out))
            have k4 : y4.cell? ⟨x4, 0, none⟩ = some (.slice ta k tc) ∧ y4.frozen? ⟨x4, 0, none⟩ = false := by
              have hh : y4.heap[x4]? = (y2.alloc (.cells #[.bool bq] 4)).heap[x4]? := HGR.out.block x4 (blk_lt HY3.out.b4) (fun e => (HY3.out.sep x4 (by rw [HTL.out]; exact e.symm)).2.2.2 rfl)
              have h4 := HY3.out.b4
              simp only [HTL.out] at h4
              exact ⟨by rw [blk_cell (hh.trans h4)]; rfl, blk_frozen (hh.trans h4) 0⟩
            obtain ⟨k4, z4⟩ := k4
            refine wpAnyH_ready (rs := [6]) (by kernel_rfl) (by simp) ?_
            refine AllReadyH.cons rfl (fun K hK => ?_) AllReadyH.nil
            go_simp
            refine hK.out _ _ (HSW.out _ ((Below.heap_setCell y4 ⟨x4, 0, none⟩ _ wr.heap.size (by (have := HX4.out; show wr.heap.size ≠ x4; omega))).trans HL4.out)) (fun _ => ?_)
            clear hK K
            refine wpAnyH_done (by kernel_rfl) ?_ _
            go_wp2_with fail
            exact ⟨⟨k + 1, _, _, by omega, by go_num, hide (by rw [HTN.out]; exact HY5.out)⟩, by simp [intOf]; omega⟩
      · have HK : Hid (k = ls.length) := hide (by omega)
        have HLO := hide (hcy.out.look HCP.out HG.out HLH.out)
        go_wp2_with fail
        go_ret
        exact ⟨⟨⟨w.heap.size, w.heap.size + 1, x3, x4, s.p, ga, gc, ha, hc, ta, tc⟩, rfl, by have := HLO.out; rw [HK.out] at this; exact this⟩, hcy.out.below⟩
end Go.Proofs.Ytacgepdmhdcdkaa
