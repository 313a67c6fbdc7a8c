/-
  THE LAW GateSteps, its walk.
-/
import Derived.Test.YtoghcacigdeloaaDoorGRStep
import Derived.Test.YtoghcacigdeloaaDoorGRRef
import Derived.Test.YtoghcacigdeloaaDoorGErr
import Derived.Test.YtoghcacigdeloaaDoorGGrid
set_option linter.unusedSimpArgs false
set_option linter.unusedVariables false
namespace Go.Proofs.YtoghcacigdeloaaDoor
open Go.RowKit

theorem app_rn {B : Nat} {w : World} {v : Value} {l new : List Nd} {n m n' c : Nat} {ao : Option Addr} (h : Mine 31 4 B w v n (ndsC l)) (hn : l.length = n) (hm : new.length = m) (hn' : n' = n + m) (hnew : Lies AnyB w ao (ndsC new)) (hB : B ≤ w.heap.size) (hbig : n' ≤ 100000) :
    Apped 27 31 4 B w v m ao c n' (ndsC (l ++ new)) := by
  obtain ⟨i, hi, hz, hs, hby⟩ := (info_of (by kernel_rfl) : ∃ i : TypeInfo, Tryd.prog.info? 31 = some i ∧ i.zero = some (.agg #[.int .i64 0, .int .i64 0, .int .i64 0, .int .i64 0]) ∧ i.size = 4 ∧ i.bytes = 32)
  subst hn hm hn'
  obtain ⟨ao', cap', w', hr, h2, h3, h4⟩ := app_own (P := Tryd.prog) (w := w) 27 27 31 i _ 4 32 (by kernel_rfl) hi hz hs hby rfl (by decide) v l.length _ h.own ao new.length c (ndsC new) (ndsC_len new) hnew (nds_one new) (by omega) (by decide)
  exact ⟨ao', cap', w', hr, ⟨by rw [ndsC_app]; exact h2, fun b hb => (h4 b hb).elim (h.new b) (Nat.le_trans hB)⟩, h3, h4⟩
theorem Mine.ltE {e size B : Nat} {w : World} {v : Value} {n : Nat} {xs : List Value} (h : Mine e size B w v n xs) {b : Nat} (hb : v.ownBlock = some b) : b < w.heap.size := (h.own.lt b hb).2
/-- the reference's net, while it is built -/
structure RBld (B : Nat) (w wx : World) (M : Nat) (given : Int) (xa : Option Addr) (xc m : Nat) (oa : Option Addr) (oc : Nat) (l : List Nd) : Prop where
  below : Below B w wx
  me : wx.heap[M]? = some (.cells #[.int .i64 given, .slice xa l.length xc, .slice oa m oc] 29 (0, 0))
  nodes : Mine 31 4 B wx (.slice xa l.length xc) l.length (ndsC l)
  dn : ∀ b, (Value.slice xa l.length xc).ownBlock = some b → b ≠ M
  mB : B ≤ M
  hB : B ≤ wx.heap.size
theorem RBld.more {B : Nat} {w wx wy : World} {M : Nat} {given : Int} {xa : Option Addr} {xc m : Nat} {oa : Option Addr} {oc : Nat} {l : List Nd} (h : RBld B w wx M given xa xc m oa oc l) (hb : Below wx.heap.size wx wy) : RBld B w wy M given xa xc m oa oc l :=
  ⟨h.below.trans (hb.mono h.hB), Below.blk hb h.me, h.nodes.below hb, h.dn, h.mB, Nat.le_trans h.hB hb.size⟩
theorem RBld.addN {B : Nat} {w wx w2 : World} {M : Nat} {given : Int} {xa xa' : Option Addr} {xc xc' n' m : Nat} {oa : Option Addr} {oc : Nat} {l new : List Nd} (h : RBld B w wx M given xa xc m oa oc l)
    (hn : n' = (l ++ new).length) (hm : Mine 31 4 B w2 (.slice xa' n' xc') n' (ndsC (l ++ new))) (hg : wx.grownBy w2 (Value.slice xa l.length xc).ownBlock) (hnew : ∀ b, (Value.slice xa' n' xc').ownBlock = some b → (Value.slice xa l.length xc).ownBlock = some b ∨ wx.heap.size ≤ b) :
    RBld B w (w2.setCell ⟨M, 1, none⟩ (.slice xa' n' xc')) M given xa' xc' m oa oc (l ++ new) := by
  have hMl := blk_lt h.me
  have hM2 : w2.heap[M]? = wx.heap[M]? := hg.block M hMl fun e => h.dn M e.symm rfl
  have hown : ∀ b, (Value.slice xa' n' xc').ownBlock = some b → b ≠ M := fun b hb => by
    rcases hnew b hb with e | e
    · exact h.dn b e
    · omega
  subst hn
  refine ⟨(Below.grownOn h.below hg (fun b hb => h.nodes.new b hb) h.hB).setCell h.mB _, ?_, ?_, hown, h.mB, by simp only [World.setCell, Array.size_modify]; exact Nat.le_trans h.hB hg.size⟩
  · rw [blk_set (hM2.trans h.me)]; rfl
  · exact hm.same fun b hb _ => Below.heap_setCell w2 ⟨M, 1, none⟩ _ b (hown b hb)
theorem RBld.s1 {B : Nat} {w wx : World} {M : Nat} {given : Int} {xa : Option Addr} {xc m : Nat} {oa : Option Addr} {oc : Nat} {l : List Nd} (h : RBld B w wx M given xa xc m oa oc l) {W : World} (hg : wx.grownBy W (Value.slice xa l.length xc).ownBlock) : W.cell? ⟨M, 1, none⟩ = some (.slice xa l.length xc) ∧ W.frozen? ⟨M, 1, none⟩ = false := by
  have hM2 : W.heap[M]? = wx.heap[M]? := hg.block M (blk_lt h.me) fun e => h.dn M e.symm rfl
  exact ⟨by rw [blk_cell (hM2.trans h.me)]; rfl, blk_frozen (hM2.trans h.me) 1⟩
theorem RBld.cells {B : Nat} {w wx : World} {M : Nat} {given : Int} {xa : Option Addr} {xc m : Nat} {oa : Option Addr} {oc : Nat} {l : List Nd} (h : RBld B w wx M given xa xc m oa oc l) : wx.cell? ⟨M, 0, none⟩ = some (.int .i64 given) ∧ wx.cell? ⟨M, 1, none⟩ = some (.slice xa l.length xc) ∧ wx.cell? ⟨M, 2, none⟩ = some (.slice oa m oc) :=
  ⟨by rw [blk_cell h.me]; rfl, by rw [blk_cell h.me]; rfl, by rw [blk_cell h.me]; rfl⟩
theorem step_isD {s : SimP} {w : World} {lo hi : Nat} {given : Int} {ns : List Nd} {os : List Int} {held g : List Bool} (h : SimAt s w lo hi ns os held) (hr : RightP given ns os) (n : Nat) (hgn : g.length = n) (ga : Option Addr) (gc : Nat) (hg : Lies AnyB w ga (bitsC g)) (hgl : n ≤ 20000) :
    Calls Tryd.prog 13 #[.pointer (some ⟨s.p, 0, none⟩), .slice ga n gc] w fun e w' => (∃ O, e = .returned (.slice (some ⟨O, 0, none⟩) os.length os.length) ∧ w.heap.size ≤ O ∧ w'.heap[O]? = some (.cells (bitsC (outs (vals g held ns) os)).toArray 4 (0, 0))) ∧ SimAt s w' lo hi ns os (heldNext (vals g held ns) held ns) ∧ Kept s.h w w' := by
  subst hgn
  exact step_at h hr ga gc hg (by omega)
theorem outs_lenD (v : List Bool) (os : List Int) : (outs v os).length = os.length := by simp [outs]
theorem grown_of {w w' : World} (h : Below w.heap.size w w') : w.grownBy w' none := ⟨h.os, h.tape, h.output, h.size, fun i hi _ => h.block i hi⟩
theorem grown_kept {R : Nat} {w w' : World} (h : Kept R w w') : w.grownBy w' (some R) := ⟨h.os, h.tape, h.output, h.size, fun i hi hn => h.block i hi (fun e => hn (by rw [e]))⟩

set_option maxRecDepth 100000 in
set_option maxHeartbeats 6400000 in
theorem st_a (given : Int) (ns : List Nd) (os : List Int) (na oa ga : Option Addr) (nc oc gc : Nat) (A : Nat → Option Addr) (C : Nat → Nat) (gs : List (List Bool)) (w : World) (h1 : (60 : Int) < (ns.length : Int)) :
    Calls Tryd.prog 3 #[.agg #[.int .i64 given, .slice na ns.length nc, .slice oa os.length oc], .slice ga gs.length gc] w fun e w' => e = .returned (.bool true) ∧ Below w.heap.size w w' := by
  go_enter Tryd.func3, Tryd.ntmps3
  go_wp2_with fail
  go_ret
  exact ⟨rfl, below_alloc _ _⟩

set_option maxRecDepth 100000 in
set_option maxHeartbeats 6400000 in
theorem st_b (given : Int) (ns : List Nd) (os : List Int) (na oa ga : Option Addr) (nc oc gc : Nat) (A : Nat → Option Addr) (C : Nat → Nat) (gs : List (List Bool)) (w : World) (h1 : (ns.length : Int) ≤ 60) (h2 : (30 : Int) < (os.length : Int)) :
    Calls Tryd.prog 3 #[.agg #[.int .i64 given, .slice na ns.length nc, .slice oa os.length oc], .slice ga gs.length gc] w fun e w' => e = .returned (.bool true) ∧ Below w.heap.size w w' := by
  go_enter Tryd.func3, Tryd.ntmps3
  go_wp2_with fail
  go_ret
  exact ⟨rfl, below_alloc _ _⟩

set_option maxRecDepth 100000 in
set_option maxHeartbeats 6400000 in
theorem st_c (given : Int) (ns : List Nd) (os : List Int) (na oa ga : Option Addr) (nc oc gc : Nat) (A : Nat → Option Addr) (C : Nat → Nat) (gs : List (List Bool)) (w : World) (h1 : (ns.length : Int) ≤ 60) (h2 : (os.length : Int) ≤ 30) (h3 : (30 : Int) < (gs.length : Int)) :
    Calls Tryd.prog 3 #[.agg #[.int .i64 given, .slice na ns.length nc, .slice oa os.length oc], .slice ga gs.length gc] w fun e w' => e = .returned (.bool true) ∧ Below w.heap.size w w' := by
  go_enter Tryd.func3, Tryd.ntmps3
  go_wp2_with fail
  go_ret
  exact ⟨rfl, below_alloc _ _⟩

set_option maxRecDepth 100000 in
set_option maxHeartbeats 6400000 in
theorem st_d (given : Int) (ns : List Nd) (os : List Int) (na oa ga : Option Addr) (nc oc gc : Nat) (A : Nat → Option Addr) (C : Nat → Nat) (gs : List (List Bool)) (w : World) (h1 : (ns.length : Int) ≤ 60) (h2 : (os.length : Int) ≤ 30) (h3 : (gs.length : Int) ≤ 30) (h4 : (1000 : Int) < given) (h5 : given ≤ 20000) :
    Calls Tryd.prog 3 #[.agg #[.int .i64 given, .slice na ns.length nc, .slice oa os.length oc], .slice ga gs.length gc] w fun e w' => e = .returned (.bool true) ∧ Below w.heap.size w w' := by
  go_enter Tryd.func3, Tryd.ntmps3
  go_wp2_with fail
  go_ret
  exact ⟨rfl, below_alloc _ _⟩

set_option maxRecDepth 100000 in
set_option maxHeartbeats 6400000 in
theorem st_wrong (given : Int) (ns : List Nd) (os : List Int) (na oa ga : Option Addr) (nc oc gc : Nat) (A : Nat → Option Addr) (C : Nat → Nat) (gs : List (List Bool)) (w : World) (hn : Lies AnyB w na (ndsC ns)) (ho : Lies AnyB w oa (intsC os)) (h1 : (ns.length : Int) ≤ 60) (h2 : (os.length : Int) ≤ 30) (h3 : (gs.length : Int) ≤ 30) (h4 : ¬ ((1000 : Int) < given ∧ given ≤ 20000)) (hr : rightP given ns os = false) (hdl : w.cell? ⟨0, 0, none⟩ = some (.iface 86 (.agg #[.pointer (some ⟨1, 35, none⟩)]))) :
    Calls Tryd.prog 3 #[.agg #[.int .i64 given, .slice na ns.length nc, .slice oa os.length oc], .slice ga gs.length gc] w fun e w' => e = .returned (.bool true) ∧ Below w.heap.size w w' := by
  have HDL := hide hdl
  clear hdl
  have HB1 : Hid (Below w.heap.size w (w.alloc (.cells #[.int .i64 given, .slice na ns.length nc, .slice oa os.length oc] 25))) := hide (below_alloc _ _)
  have HN1 : Hid (NetAt ⟨w.heap.size, na, nc, oa, oc⟩ AnyB (w.alloc (.cells #[.int .i64 given, .slice na ns.length nc, .slice oa os.length oc] 25)) given ns os) := hide ⟨blk_new _ _, hn.below HB1.out, ho.below HB1.out⟩
  have HP1 : Hid (w.heap.size < (w.alloc (.cells #[.int .i64 given, .slice na ns.length nc, .slice oa os.length oc] 25)).heap.size) := hide (by simp)
  have HR1 : Hid (RBld (w.alloc (.cells #[.int .i64 given, .slice na ns.length nc, .slice oa os.length oc] 25)).heap.size (w.alloc (.cells #[.int .i64 given, .slice na ns.length nc, .slice oa os.length oc] 25)) ((w.alloc (.cells #[.int .i64 given, .slice na ns.length nc, .slice oa os.length oc] 25)).alloc (.cells #[.int .i64 given, .slice none 0 0, .slice oa os.length oc] 29)) (w.heap.size + 1) given none 0 os.length oa oc []) := hide (by
    have h := blk_new (w.alloc (.cells #[.int .i64 given, .slice na ns.length nc, .slice oa os.length oc] 25)) (.cells #[.int .i64 given, .slice none 0 0, .slice oa os.length oc] 29)
    have hb := below_alloc (w.alloc (.cells #[.int .i64 given, .slice na ns.length nc, .slice oa os.length oc] 25)) (.cells #[.int .i64 given, .slice none 0 0, .slice oa os.length oc] 29)
    have hz : (w.alloc (.cells #[.int .i64 given, .slice na ns.length nc, .slice oa os.length oc] 25)).heap.size = w.heap.size + 1 := by simp
    exact ⟨hb, by rw [hz] at h; exact h, Mine.none _, (fun b hb => by cases hb), by omega, hb.size⟩)
  clear hn ho
  by_cases h5 : (1000 : Int) < given
  · have h6 : ¬ given ≤ 20000 := fun h => h4 ⟨h5, h⟩
    have h6b : decide (given ≤ 20000) = false := decide_eq_false h6
    clear h4
    go_enter Tryd.func3, Tryd.ntmps3
    go_wp2_with fail
    clear h6 h6b
    generalize ((w.alloc (.cells #[.int .i64 given, .slice na ns.length nc, .slice oa os.length oc] 25)).alloc (.cells #[.int .i64 given, .slice none 0 0, .slice oa os.length oc] 29)) = w2 at *
    generalize (w.alloc (.cells #[.int .i64 given, .slice na ns.length nc, .slice oa os.length oc] 25)) = w1 at *
    go_loopw [6] (fun i wr => ∃ (q : Nat) (xa : Option Addr) (xc : Nat), q ≤ ns.length ∧ i = .int .i64 q ∧ Hid (RBld w1.heap.size w1 wr (w.heap.size + 1) given xa xc os.length oa oc (ns.take q))) (fun i _ => ns.length - (intOf i).toNat)
    case atStart => exact ⟨0, none, 0, Nat.zero_le _, rfl, HR1⟩
    case round =>
      obtain ⟨q, xa, xc, hq, rfl, hbl⟩ := hrel
      have c1 : wr.cell? ⟨w.heap.size, 1, none⟩ = some (.slice na ns.length nc) := (HN1.out.below hbl.out.below).c1
      by_cases hlt : q < ns.length
      · have hqi : (q : Int) < (ns.length : Int) := by omega
        obtain ⟨nb, noff, hna, _, _, m0, m1, m2, m3⟩ := (HN1.out.below hbl.out.below).nodes.nodes hlt
        simp only at hna
        subst hna
        have HLN : Hid ((ns.take q).length = q) := hide (by simp; omega)
        have HTN : Hid (ns.take (q + 1) = ns.take q ++ [ndAt ns q]) := hide (by rw [List.take_succ_eq_append_getElem hlt]; unfold ndAt; rw [List.getElem?_eq_getElem hlt]; rfl)
        have t1 : wr.cell? ⟨w.heap.size + 1, 1, none⟩ = some (.slice xa q xc) := by have := hbl.out.cells.2.1; rwa [HLN.out] at this
        go_wp2_with fail
        have HS : Hid (∀ W, Below w1.heap.size w1 W → W.cell? ⟨w.heap.size, 1, none⟩ = some (.slice (some ⟨nb, noff, none⟩) ns.length nc) ∧ W.cell? ⟨nb, noff + q * 4, none⟩ = some (.int .i64 (ndAt ns q).op) ∧ W.cell? ⟨nb, noff + q * 4 + 1, none⟩ = some (.int .i64 (ndAt ns q).a) ∧ W.cell? ⟨nb, noff + q * 4 + 2, none⟩ = some (.int .i64 (ndAt ns q).b) ∧ W.cell? ⟨nb, noff + q * 4 + 3, none⟩ = some (.int .i64 (ndAt ns q).next)) := hide fun W hb => ⟨(HN1.out.below hb).c1, by
          obtain ⟨b', o', e1, _, _, k0, k1, k2, k3⟩ := (HN1.out.below hb).nodes.nodes hlt
          cases e1
          exact ⟨k0, k1, k2, k3⟩⟩
        have HBd : Hid (Below wr.heap.size wr wr.drew) := hide (Below.refl _ _).drew
        have t1d : wr.drew.cell? ⟨w.heap.size + 1, 1, none⟩ = some (.slice xa q xc) := t1
        have hbd := hide (hbl.out.more HBd.out)
        clear t1 c1 m0 m1 m2 m3 hbl
        refine wp_region_held_drew (S := fun W => W.cell? ⟨w.heap.size, 1, none⟩ = some (.slice (some ⟨nb, noff, none⟩) ns.length nc) ∧ W.cell? ⟨nb, noff + q * 4, none⟩ = some (.int .i64 (ndAt ns q).op) ∧ W.cell? ⟨nb, noff + q * 4 + 1, none⟩ = some (.int .i64 (ndAt ns q).a) ∧ W.cell? ⟨nb, noff + q * 4 + 2, none⟩ = some (.int .i64 (ndAt ns q).b) ∧ W.cell? ⟨nb, noff + q * 4 + 3, none⟩ = some (.int .i64 (ndAt ns q).next)) (by kernel_rfl) (HS.out _ hbd.out.below) (fun _ => ?_)
        generalize wr.drew = x1 at *
        generalize ndAt ns q = x at *
        obtain ⟨op, a, bb, nx⟩ := x
        simp only at HS
        refine wpAnyH_take (i := 0) (oi := ⟨some 49, _, _, _, _, _⟩) (v := (.pointer (some ⟨w.heap.size + 1, 1, none⟩))) rfl (by kernel_rfl) (by kernel_rfl) (by kernel_rfl) (fun _ _ _ h => h) (Or.inl ⟨by rfl, fun W hS => by (obtain ⟨s0, s1, s2, s3, s4⟩ := hS; go_simp)⟩) (HS.out _ hbd.out.below) ?_
        simp only [Act.put, List.setIfInBounds_toArray, List.set_cons_zero, List.set_cons_succ]
        refine wpAnyH_take (i := 2) (oi := ⟨some 51, _, _, _, _, _⟩) (v := (.pointer (some ⟨w.heap.size, 1, none⟩))) rfl (by kernel_rfl) (by kernel_rfl) (by kernel_rfl) (fun _ _ _ h => h) (Or.inl ⟨by rfl, fun W hS => by (obtain ⟨s0, s1, s2, s3, s4⟩ := hS; go_simp)⟩) (HS.out _ hbd.out.below) ?_
        simp only [Act.put, List.setIfInBounds_toArray, List.set_cons_zero, List.set_cons_succ]
        refine wpAnyH_take (i := 3) (oi := ⟨some 52, _, _, _, _, _⟩) (v := (.slice (some ⟨nb, noff, none⟩) ns.length nc)) rfl (by kernel_rfl) (by kernel_rfl) (by kernel_rfl) (fun _ _ _ h => h) (Or.inl ⟨by rfl, fun W hS => by (obtain ⟨s0, s1, s2, s3, s4⟩ := hS; go_simp)⟩) (HS.out _ hbd.out.below) ?_
        simp only [Act.put, List.setIfInBounds_toArray, List.set_cons_zero, List.set_cons_succ]
        refine wpAnyH_take (i := 4) (oi := ⟨some 53, _, _, _, _, _⟩) (v := (.int .i64 q)) rfl (by kernel_rfl) (by kernel_rfl) (by kernel_rfl) (fun _ _ _ h => h) (Or.inl ⟨by rfl, fun W hS => by (obtain ⟨s0, s1, s2, s3, s4⟩ := hS; go_simp)⟩) (HS.out _ hbd.out.below) ?_
        simp only [Act.put, List.setIfInBounds_toArray, List.set_cons_zero, List.set_cons_succ]
        refine wpAnyH_take (i := 5) (oi := ⟨some 54, _, _, _, _, _⟩) (v := (.pointer (some ⟨nb, noff + q * 4, none⟩))) rfl (by kernel_rfl) (by kernel_rfl) (by kernel_rfl) (fun _ _ _ h => h) (Or.inl ⟨by rfl, fun W hS => by (obtain ⟨s0, s1, s2, s3, s4⟩ := hS; go_simp)⟩) (HS.out _ hbd.out.below) ?_
        simp only [Act.put, List.setIfInBounds_toArray, List.set_cons_zero, List.set_cons_succ]
        refine wpAnyH_take (i := 6) (oi := ⟨some 55, _, _, _, _, _⟩) (v := (.agg #[.int .i64 op, .int .i64 a, .int .i64 bb, .int .i64 nx])) rfl (by kernel_rfl) (by kernel_rfl) (by kernel_rfl) (fun _ _ _ h => h) (Or.inl ⟨by rfl, fun W hS => by (obtain ⟨s0, s1, s2, s3, s4⟩ := hS; go_simp)⟩) (HS.out _ hbd.out.below) ?_
        simp only [Act.put, List.setIfInBounds_toArray, List.set_cons_zero, List.set_cons_succ]
        have HTx2 : Hid (Below x1.heap.size x1 (x1.alloc (.cells #[.int .i64 op, .int .i64 a, .int .i64 bb, .int .i64 nx] 31))) := hide (below_alloc _ _)
        have HEx2 := hide (blk_new x1 (.cells #[.int .i64 op, .int .i64 a, .int .i64 bb, .int .i64 nx] 31))
        have hb2 := hide (hbd.out.more HTx2.out)
        have t1a := fun o => cell_alloc t1d o
        obtain ⟨xa3, xc3, x3, happ, hm, hg, hnb⟩ := app_rn (c := 1) (n' := q + 1) hb2.out.nodes rfl (new := [⟨op, a, bb, nx⟩]) (m := 1) rfl (by rw [HLN.out]) (Lies.blk (cs := ndsC [⟨op, a, bb, nx⟩]) HEx2.out trivial) hb2.out.hB (by omega)
        rw [HLN.out] at happ
        have HM3 := hide hm
        have HG3 := hide hg
        have HNB := hide hnb
        clear hm hg hnb
        obtain ⟨k1, kf⟩ := hb2.out.s1 HG3.out
        rw [HLN.out] at k1
        have hb4 := hide (hb2.out.addN (n' := q + 1) (new := [⟨op, a, bb, nx⟩]) (by rw [List.length_append, HLN.out]; rfl) HM3.out HG3.out HNB.out)
        have HB3 : Hid (Below w1.heap.size w1 x3) := hide (Below.grownOn hb2.out.below HG3.out (fun b hb => hb2.out.nodes.new b hb) hb2.out.hB)
        clear HM3 HG3 HNB
        refine wpAnyH_ready (rs := [1, 7]) (by kernel_rfl) (by simp) ?_
        refine AllReadyH.cons rfl (fun K hK => ?_) (AllReadyH.cons rfl (fun K hK => ?_) AllReadyH.nil)
        · go_simp
          refine hK.out _ _ (HS.out _ hbd.out.below) (fun _ => ?_)
          clear hK K
          refine wpAnyH_ready (rs := [7]) (by kernel_rfl) (by simp) ?_
          refine AllReadyH.cons rfl (fun K hK => ?_) AllReadyH.nil
          go_simp
          refine hK.out _ _ (HS.out _ hb2.out.below) (fun _ => ?_)
          clear hK K
          refine wpAnyH_ready (rs := [8]) (by kernel_rfl) (by simp) ?_
          refine AllReadyH.cons rfl (fun K hK => ?_) AllReadyH.nil
          refine (if_pos (by kernel_rfl)).mpr ?_
          refine wp_append_run happ _ _ rfl rfl rfl ?_
          simp only [Act.put, List.getElem_toArray, List.getElem_cons_succ, List.getElem_cons_zero, List.setIfInBounds_toArray, List.set_cons_zero, List.set_cons_succ]
          refine hK.out _ _ (HS.out _ HB3.out) (fun _ => ?_)
          clear hK K
          clear happ
          refine wpAnyH_take (i := 9) (oi := ⟨some 58, _, _, _, _, _⟩) (v := (.pointer (some ⟨w.heap.size + 1, 1, none⟩))) rfl (by kernel_rfl) (by kernel_rfl) (by kernel_rfl) (fun _ _ _ h => h) (Or.inl ⟨by rfl, fun W hS => by (obtain ⟨s0, s1, s2, s3, s4⟩ := hS; go_simp)⟩) (HS.out _ HB3.out) ?_
          simp only [Act.put, List.setIfInBounds_toArray, List.set_cons_zero, List.set_cons_succ]
          refine wpAnyH_ready (rs := [10]) (by kernel_rfl) (by simp) ?_
          refine AllReadyH.cons rfl (fun K hK => ?_) AllReadyH.nil
          go_simp
          refine hK.out _ _ (HS.out _ hb4.out.below) (fun _ => ?_)
          clear hK K
          refine wpAnyH_done (by kernel_rfl) ?_ _
          go_wp2_with fail
          exact ⟨⟨q + 1, _, _, by omega, by go_num, hide (by rw [HTN.out]; exact hb4.out)⟩, by simp [intOf]; omega⟩
        · go_simp
          refine hK.out _ _ (HS.out _ hb2.out.below) (fun _ => ?_)
          clear hK K
          refine wpAnyH_ready (rs := [1]) (by kernel_rfl) (by simp) ?_
          refine AllReadyH.cons rfl (fun K hK => ?_) AllReadyH.nil
          go_simp
          refine hK.out _ _ (HS.out _ hb2.out.below) (fun _ => ?_)
          clear hK K
          refine wpAnyH_ready (rs := [8]) (by kernel_rfl) (by simp) ?_
          refine AllReadyH.cons rfl (fun K hK => ?_) AllReadyH.nil
          refine (if_pos (by kernel_rfl)).mpr ?_
          refine wp_append_run happ _ _ rfl rfl rfl ?_
          simp only [Act.put, List.getElem_toArray, List.getElem_cons_succ, List.getElem_cons_zero, List.setIfInBounds_toArray, List.set_cons_zero, List.set_cons_succ]
          refine hK.out _ _ (HS.out _ HB3.out) (fun _ => ?_)
          clear hK K
          clear happ
          refine wpAnyH_take (i := 9) (oi := ⟨some 58, _, _, _, _, _⟩) (v := (.pointer (some ⟨w.heap.size + 1, 1, none⟩))) rfl (by kernel_rfl) (by kernel_rfl) (by kernel_rfl) (fun _ _ _ h => h) (Or.inl ⟨by rfl, fun W hS => by (obtain ⟨s0, s1, s2, s3, s4⟩ := hS; go_simp)⟩) (HS.out _ HB3.out) ?_
          simp only [Act.put, List.setIfInBounds_toArray, List.set_cons_zero, List.set_cons_succ]
          refine wpAnyH_ready (rs := [10]) (by kernel_rfl) (by simp) ?_
          refine AllReadyH.cons rfl (fun K hK => ?_) AllReadyH.nil
          go_simp
          refine hK.out _ _ (HS.out _ hb4.out.below) (fun _ => ?_)
          clear hK K
          refine wpAnyH_done (by kernel_rfl) ?_ _
          go_wp2_with fail
          exact ⟨⟨q + 1, _, _, by omega, by go_num, hide (by rw [HTN.out]; exact hb4.out)⟩, by simp [intOf]; omega⟩
      · have HQ : q = ns.length := by omega
        subst HQ
        have HBF : Hid (RBld w1.heap.size w1 wr (w.heap.size + 1) given xa xc os.length oa oc ns) := hide (by have := hbl.out; rwa [List.take_length] at this)
        have HNr := hide (HN1.out.below hbl.out.below)
        clear hbl
        go_wp2_with fail
        refine (new_no HNr.out (by omega) (by omega) hr).mono ?_
        rintro e wA ⟨rfl, hb⟩
        have HFA := hide (HBF.out.more hb)
        have HWA := hide hb
        have HLO : Hid (wr.heap.size ≤ wA.heap.size) := hide hb.size
        have HZ0 : Hid (w1.heap.size ≤ wr.heap.size) := hide HBF.out.hB
        clear hb HBF HNr c1
        go_wp2_with fail
        have HSW : Hid (∀ W, Below wA.heap.size wA W → W.cell? ⟨w.heap.size + 1, 0, none⟩ = some (.int .i64 given) ∧ W.cell? ⟨w.heap.size + 1, 1, none⟩ = some (.slice xa ns.length xc) ∧ W.cell? ⟨w.heap.size + 1, 2, none⟩ = some (.slice oa os.length oc)) := hide fun W hb => (HFA.out.more hb).cells
        have HNN : Hid (∀ W, Below wA.heap.size wA W → NetAt ⟨w.heap.size, na, nc, oa, oc⟩ AnyB W given ns os) := hide fun W hb => HN1.out.below (HFA.out.more hb).below
        have HXN : Hid (∀ W, Below wA.heap.size wA W → Lies AnyB W xa (ndsC ns) ∧ Lies AnyB W oa (intsC os)) := hide fun W hb => ⟨(HFA.out.more hb).nodes.lies fun _ _ => trivial, (HNN.out W hb).outs⟩
        have HB2 : Hid (Below wA.heap.size wA wA.drew) := hide (Below.refl _ _).drew
        refine wp_region_held_drew (S := fun W => W.cell? ⟨w.heap.size + 1, 0, none⟩ = some (.int .i64 given) ∧ W.cell? ⟨w.heap.size + 1, 1, none⟩ = some (.slice xa ns.length xc) ∧ W.cell? ⟨w.heap.size + 1, 2, none⟩ = some (.slice oa os.length oc)) (by kernel_rfl) (HSW.out _ HB2.out) (fun _ => ?_)
        generalize wA.drew = z2 at *
        refine wpAnyH_take (i := 1) (oi := ⟨some 64, _, _, _, _, _⟩) (v := (.agg #[.int .i64 given, .slice xa ns.length xc, .slice oa os.length oc])) rfl (by kernel_rfl) (by kernel_rfl) (by kernel_rfl) (fun _ _ _ h => h) (Or.inl ⟨by rfl, fun W hS => by (obtain ⟨s0, s1, s2⟩ := hS; go_simp)⟩) (HSW.out _ HB2.out) ?_
        simp only [Act.put, List.setIfInBounds_toArray, List.set_cons_zero, List.set_cons_succ]
        refine wpAnyH_ready (rs := [0]) (by kernel_rfl) (by simp) ?_
        refine AllReadyH.cons rfl (fun K hK => ?_) AllReadyH.nil
        go_simp
        refine (Right_at (HNN.out _ HB2.out) (by omega) (by omega)).mono ?_
        rintro e z3 ⟨rfl, hb⟩
        rw [hr]
        have HB3 := hide (Below.step HB2.out hb)
        clear hb
        refine hK.out _ _ (HSW.out _ HB3.out) (fun _ => ?_)
        clear hK K
        refine wpAnyH_ready (rs := [2]) (by kernel_rfl) (by simp) ?_
        refine AllReadyH.cons rfl (fun K hK => ?_) AllReadyH.nil
        go_simp
        refine (rright_at given ns os xa oa xc oc z3 (HXN.out _ HB3.out).1 (HXN.out _ HB3.out).2 (by omega) (by omega)).mono ?_
        rintro e z4 ⟨rfl, hb⟩
        rw [hr]
        have HB4 := hide (Below.step HB3.out hb)
        clear hb
        refine hK.out _ _ (HSW.out _ HB4.out) (fun _ => ?_)
        clear hK K
        refine wpAnyH_take (i := 3) (oi := ⟨some 66, _, _, _, _, _⟩) (v := (.bool false)) rfl (by kernel_rfl) (by kernel_rfl) (by kernel_rfl) (fun _ _ _ h => h) (Or.inl ⟨by rfl, fun W hS => by (obtain ⟨s0, s1, s2⟩ := hS; go_simp)⟩) (HSW.out _ HB4.out) ?_
        simp only [Act.put, List.setIfInBounds_toArray, List.set_cons_zero, List.set_cons_succ]
        refine wpAnyH_take (i := 4) (oi := ⟨some 67, _, _, _, _, _⟩) (v := (.bool false)) rfl (by kernel_rfl) (by kernel_rfl) (by kernel_rfl) (fun _ _ _ h => h) (Or.inl ⟨by rfl, fun W hS => by (obtain ⟨s0, s1, s2⟩ := hS; go_simp)⟩) (HSW.out _ HB4.out) ?_
        simp only [Act.put, List.setIfInBounds_toArray, List.set_cons_zero, List.set_cons_succ]
        refine wpAnyH_take (i := 6) (oi := ⟨some 69, _, _, _, _, _⟩) (v := (.agg #[.int .i64 given, .slice xa ns.length xc, .slice oa os.length oc])) rfl (by kernel_rfl) (by kernel_rfl) (by kernel_rfl) (fun _ _ _ h => h) (Or.inl ⟨by rfl, fun W hS => by (obtain ⟨s0, s1, s2⟩ := hS; go_simp)⟩) (HSW.out _ HB4.out) ?_
        simp only [Act.put, List.setIfInBounds_toArray, List.set_cons_zero, List.set_cons_succ]
        refine wpAnyH_ready (rs := [5]) (by kernel_rfl) (by simp) ?_
        refine AllReadyH.cons rfl (fun K hK => ?_) AllReadyH.nil
        go_simp
        refine (Gates_at (HNN.out _ HB4.out) (by omega)).mono ?_
        rintro e z5 ⟨rfl, hb⟩
        have HB5 := hide (Below.step HB4.out hb)
        clear hb
        refine hK.out _ _ (HSW.out _ HB5.out) (fun _ => ?_)
        clear hK K
        refine wpAnyH_ready (rs := [7]) (by kernel_rfl) (by simp) ?_
        refine AllReadyH.cons rfl (fun K hK => ?_) AllReadyH.nil
        go_simp
        refine (rgates_at given ns os.length xa oa xc oc z5 (HXN.out _ HB5.out).1 (by omega)).mono ?_
        rintro e z6 ⟨rfl, hb⟩
        have HB6 := hide (Below.step HB5.out hb)
        clear hb
        refine hK.out _ _ (HSW.out _ HB6.out) (fun _ => ?_)
        clear hK K
        refine wpAnyH_take (i := 8) (oi := ⟨some 71, _, _, _, _, _⟩) (v := (.bool false)) rfl (by kernel_rfl) (by kernel_rfl) (by kernel_rfl) (fun _ _ _ h => h) (Or.inl ⟨by rfl, fun W hS => by (obtain ⟨s0, s1, s2⟩ := hS; go_simp)⟩) (HSW.out _ HB6.out) ?_
        simp only [Act.put, List.setIfInBounds_toArray, List.set_cons_zero, List.set_cons_succ]
        refine wpAnyH_take (i := 9) (oi := ⟨some 72, _, _, _, _, _⟩) (v := (.bool false)) rfl (by kernel_rfl) (by kernel_rfl) (by kernel_rfl) (fun _ _ _ h => h) (Or.inl ⟨by rfl, fun W hS => by (obtain ⟨s0, s1, s2⟩ := hS; go_simp)⟩) (HSW.out _ HB6.out) ?_
        simp only [Act.put, List.setIfInBounds_toArray, List.set_cons_zero, List.set_cons_succ]
        refine wpAnyH_take (i := 10) (oi := ⟨some 73, _, _, _, _, _⟩) (v := (.bool false)) rfl (by kernel_rfl) (by kernel_rfl) (by kernel_rfl) (fun _ _ _ h => h) (Or.inl ⟨by rfl, fun W hS => by (obtain ⟨s0, s1, s2⟩ := hS; go_simp)⟩) (HSW.out _ HB6.out) ?_
        simp only [Act.put, List.setIfInBounds_toArray, List.set_cons_zero, List.set_cons_succ]
        refine wpAnyH_take (i := 11) (oi := ⟨some 74, _, _, _, _, _⟩) (v := (.iface 42 (.int .i64 1))) rfl (by kernel_rfl) (by kernel_rfl) (by kernel_rfl) (fun _ _ _ h => h) (Or.inl ⟨by rfl, fun W hS => by (obtain ⟨s0, s1, s2⟩ := hS; go_simp)⟩) (HSW.out _ HB6.out) ?_
        simp only [Act.put, List.setIfInBounds_toArray, List.set_cons_zero, List.set_cons_succ]
        have hen : ∀ W, (binOp .eql 35 (.iface 42 (.int .i64 1)) .nilIface).run Tryd.prog W = .ok (.bool false) W := fun W => by kernel_rfl
        refine wpAnyH_take (i := 12) (oi := ⟨some 75, _, _, _, _, _⟩) (v := (.bool false)) rfl (by kernel_rfl) (by kernel_rfl) (by kernel_rfl) (fun _ _ _ h => h) (Or.inl ⟨by rfl, fun W hS => by (obtain ⟨s0, s1, s2⟩ := hS; go_simp)⟩) (HSW.out _ HB6.out) ?_
        simp only [Act.put, List.setIfInBounds_toArray, List.set_cons_zero, List.set_cons_succ]
        refine wpAnyH_take (i := 13) (oi := ⟨some 76, _, _, _, _, _⟩) (v := (.agg #[.int .i64 given, .slice xa ns.length xc, .slice oa os.length oc])) rfl (by kernel_rfl) (by kernel_rfl) (by kernel_rfl) (fun _ _ _ h => h) (Or.inl ⟨by rfl, fun W hS => by (obtain ⟨s0, s1, s2⟩ := hS; go_simp)⟩) (HSW.out _ HB6.out) ?_
        simp only [Act.put, List.setIfInBounds_toArray, List.set_cons_zero, List.set_cons_succ]
        refine wpAnyH_ready (rs := [14]) (by kernel_rfl) (by simp) ?_
        refine AllReadyH.cons rfl (fun K hK => ?_) AllReadyH.nil
        go_simp
        refine (rright_at given ns os xa oa xc oc z6 (HXN.out _ HB6.out).1 (HXN.out _ HB6.out).2 (by omega) (by omega)).mono ?_
        rintro e z7 ⟨rfl, hb⟩
        rw [hr]
        have HB7 := hide (Below.step HB6.out hb)
        clear hb
        refine hK.out _ _ (HSW.out _ HB7.out) (fun _ => ?_)
        clear hK K
        refine wpAnyH_take (i := 15) (oi := ⟨some 78, _, _, _, _, _⟩) (v := (.bool false)) rfl (by kernel_rfl) (by kernel_rfl) (by kernel_rfl) (fun _ _ _ h => h) (Or.inl ⟨by rfl, fun W hS => by (obtain ⟨s0, s1, s2⟩ := hS; go_simp)⟩) (HSW.out _ HB7.out) ?_
        simp only [Act.put, List.setIfInBounds_toArray, List.set_cons_zero, List.set_cons_succ]
        refine wpAnyH_take (i := 16) (oi := ⟨some 79, _, _, _, _, _⟩) (v := (.bool false)) rfl (by kernel_rfl) (by kernel_rfl) (by kernel_rfl) (fun _ _ _ h => h) (Or.inl ⟨by rfl, fun W hS => by (obtain ⟨s0, s1, s2⟩ := hS; go_simp)⟩) (HSW.out _ HB7.out) ?_
        simp only [Act.put, List.setIfInBounds_toArray, List.set_cons_zero, List.set_cons_succ]
        refine wpAnyH_done (by kernel_rfl) ?_ _
        have hnn : ∀ W, (binOp .neq 35 (.iface 42 (.int .i64 1)) .nilIface).run Tryd.prog W = .ok (.bool true) W := fun W => by kernel_rfl
        have HBA : Hid (Below w.heap.size w wA) := hide (Below.step HB1.out HFA.out.below)
        clear HB2 HB3 HB4 HB5 HB6 hen
        go_wp2_with fail
        refine (bare_e 1 _ (((Below.step HBA.out HB7.out).cell (cell_lt HDL.out)).trans HDL.out)).mono ?_
        rintro e z8 ⟨rfl, hb⟩
        have HB8 := hide (Below.step (Below.step HBA.out HB7.out) hb)
        clear hb
        go_wp2_with fail
        go_ret
        exact ⟨rfl, HB8.out⟩
  · clear h4
    go_enter Tryd.func3, Tryd.ntmps3
    go_wp2_with fail
    generalize ((w.alloc (.cells #[.int .i64 given, .slice na ns.length nc, .slice oa os.length oc] 25)).alloc (.cells #[.int .i64 given, .slice none 0 0, .slice oa os.length oc] 29)) = w2 at *
    generalize (w.alloc (.cells #[.int .i64 given, .slice na ns.length nc, .slice oa os.length oc] 25)) = w1 at *
    go_loopw [6] (fun i wr => ∃ (q : Nat) (xa : Option Addr) (xc : Nat), q ≤ ns.length ∧ i = .int .i64 q ∧ Hid (RBld w1.heap.size w1 wr (w.heap.size + 1) given xa xc os.length oa oc (ns.take q))) (fun i _ => ns.length - (intOf i).toNat)
    case atStart => exact ⟨0, none, 0, Nat.zero_le _, rfl, HR1⟩
    case round =>
      obtain ⟨q, xa, xc, hq, rfl, hbl⟩ := hrel
      have c1 : wr.cell? ⟨w.heap.size, 1, none⟩ = some (.slice na ns.length nc) := (HN1.out.below hbl.out.below).c1
      by_cases hlt : q < ns.length
      · have hqi : (q : Int) < (ns.length : Int) := by omega
        obtain ⟨nb, noff, hna, _, _, m0, m1, m2, m3⟩ := (HN1.out.below hbl.out.below).nodes.nodes hlt
        simp only at hna
        subst hna
        have HLN : Hid ((ns.take q).length = q) := hide (by simp; omega)
        have HTN : Hid (ns.take (q + 1) = ns.take q ++ [ndAt ns q]) := hide (by rw [List.take_succ_eq_append_getElem hlt]; unfold ndAt; rw [List.getElem?_eq_getElem hlt]; rfl)
        have t1 : wr.cell? ⟨w.heap.size + 1, 1, none⟩ = some (.slice xa q xc) := by have := hbl.out.cells.2.1; rwa [HLN.out] at this
        go_wp2_with fail
        have HS : Hid (∀ W, Below w1.heap.size w1 W → W.cell? ⟨w.heap.size, 1, none⟩ = some (.slice (some ⟨nb, noff, none⟩) ns.length nc) ∧ W.cell? ⟨nb, noff + q * 4, none⟩ = some (.int .i64 (ndAt ns q).op) ∧ W.cell? ⟨nb, noff + q * 4 + 1, none⟩ = some (.int .i64 (ndAt ns q).a) ∧ W.cell? ⟨nb, noff + q * 4 + 2, none⟩ = some (.int .i64 (ndAt ns q).b) ∧ W.cell? ⟨nb, noff + q * 4 + 3, none⟩ = some (.int .i64 (ndAt ns q).next)) := hide fun W hb => ⟨(HN1.out.below hb).c1, by
          obtain ⟨b', o', e1, _, _, k0, k1, k2, k3⟩ := (HN1.out.below hb).nodes.nodes hlt
          cases e1
          exact ⟨k0, k1, k2, k3⟩⟩
        have HBd : Hid (Below wr.heap.size wr wr.drew) := hide (Below.refl _ _).drew
        have t1d : wr.drew.cell? ⟨w.heap.size + 1, 1, none⟩ = some (.slice xa q xc) := t1
        have hbd := hide (hbl.out.more HBd.out)
        clear t1 c1 m0 m1 m2 m3 hbl
        refine wp_region_held_drew (S := fun W => W.cell? ⟨w.heap.size, 1, none⟩ = some (.slice (some ⟨nb, noff, none⟩) ns.length nc) ∧ W.cell? ⟨nb, noff + q * 4, none⟩ = some (.int .i64 (ndAt ns q).op) ∧ W.cell? ⟨nb, noff + q * 4 + 1, none⟩ = some (.int .i64 (ndAt ns q).a) ∧ W.cell? ⟨nb, noff + q * 4 + 2, none⟩ = some (.int .i64 (ndAt ns q).b) ∧ W.cell? ⟨nb, noff + q * 4 + 3, none⟩ = some (.int .i64 (ndAt ns q).next)) (by kernel_rfl) (HS.out _ hbd.out.below) (fun _ => ?_)
        generalize wr.drew = x1 at *
        generalize ndAt ns q = x at *
        obtain ⟨op, a, bb, nx⟩ := x
        simp only at HS
        refine wpAnyH_take (i := 0) (oi := ⟨some 49, _, _, _, _, _⟩) (v := (.pointer (some ⟨w.heap.size + 1, 1, none⟩))) rfl (by kernel_rfl) (by kernel_rfl) (by kernel_rfl) (fun _ _ _ h => h) (Or.inl ⟨by rfl, fun W hS => by (obtain ⟨s0, s1, s2, s3, s4⟩ := hS; go_simp)⟩) (HS.out _ hbd.out.below) ?_
        simp only [Act.put, List.setIfInBounds_toArray, List.set_cons_zero, List.set_cons_succ]
        refine wpAnyH_take (i := 2) (oi := ⟨some 51, _, _, _, _, _⟩) (v := (.pointer (some ⟨w.heap.size, 1, none⟩))) rfl (by kernel_rfl) (by kernel_rfl) (by kernel_rfl) (fun _ _ _ h => h) (Or.inl ⟨by rfl, fun W hS => by (obtain ⟨s0, s1, s2, s3, s4⟩ := hS; go_simp)⟩) (HS.out _ hbd.out.below) ?_
        simp only [Act.put, List.setIfInBounds_toArray, List.set_cons_zero, List.set_cons_succ]
        refine wpAnyH_take (i := 3) (oi := ⟨some 52, _, _, _, _, _⟩) (v := (.slice (some ⟨nb, noff, none⟩) ns.length nc)) rfl (by kernel_rfl) (by kernel_rfl) (by kernel_rfl) (fun _ _ _ h => h) (Or.inl ⟨by rfl, fun W hS => by (obtain ⟨s0, s1, s2, s3, s4⟩ := hS; go_simp)⟩) (HS.out _ hbd.out.below) ?_
        simp only [Act.put, List.setIfInBounds_toArray, List.set_cons_zero, List.set_cons_succ]
        refine wpAnyH_take (i := 4) (oi := ⟨some 53, _, _, _, _, _⟩) (v := (.int .i64 q)) rfl (by kernel_rfl) (by kernel_rfl) (by kernel_rfl) (fun _ _ _ h => h) (Or.inl ⟨by rfl, fun W hS => by (obtain ⟨s0, s1, s2, s3, s4⟩ := hS; go_simp)⟩) (HS.out _ hbd.out.below) ?_
        simp only [Act.put, List.setIfInBounds_toArray, List.set_cons_zero, List.set_cons_succ]
        refine wpAnyH_take (i := 5) (oi := ⟨some 54, _, _, _, _, _⟩) (v := (.pointer (some ⟨nb, noff + q * 4, none⟩))) rfl (by kernel_rfl) (by kernel_rfl) (by kernel_rfl) (fun _ _ _ h => h) (Or.inl ⟨by rfl, fun W hS => by (obtain ⟨s0, s1, s2, s3, s4⟩ := hS; go_simp)⟩) (HS.out _ hbd.out.below) ?_
        simp only [Act.put, List.setIfInBounds_toArray, List.set_cons_zero, List.set_cons_succ]
        refine wpAnyH_take (i := 6) (oi := ⟨some 55, _, _, _, _, _⟩) (v := (.agg #[.int .i64 op, .int .i64 a, .int .i64 bb, .int .i64 nx])) rfl (by kernel_rfl) (by kernel_rfl) (by kernel_rfl) (fun _ _ _ h => h) (Or.inl ⟨by rfl, fun W hS => by (obtain ⟨s0, s1, s2, s3, s4⟩ := hS; go_simp)⟩) (HS.out _ hbd.out.below) ?_
        simp only [Act.put, List.setIfInBounds_toArray, List.set_cons_zero, List.set_cons_succ]
        have HTx2 : Hid (Below x1.heap.size x1 (x1.alloc (.cells #[.int .i64 op, .int .i64 a, .int .i64 bb, .int .i64 nx] 31))) := hide (below_alloc _ _)
        have HEx2 := hide (blk_new x1 (.cells #[.int .i64 op, .int .i64 a, .int .i64 bb, .int .i64 nx] 31))
        have hb2 := hide (hbd.out.more HTx2.out)
        have t1a := fun o => cell_alloc t1d o
        obtain ⟨xa3, xc3, x3, happ, hm, hg, hnb⟩ := app_rn (c := 1) (n' := q + 1) hb2.out.nodes rfl (new := [⟨op, a, bb, nx⟩]) (m := 1) rfl (by rw [HLN.out]) (Lies.blk (cs := ndsC [⟨op, a, bb, nx⟩]) HEx2.out trivial) hb2.out.hB (by omega)
        rw [HLN.out] at happ
        have HM3 := hide hm
        have HG3 := hide hg
        have HNB := hide hnb
        clear hm hg hnb
        obtain ⟨k1, kf⟩ := hb2.out.s1 HG3.out
        rw [HLN.out] at k1
        have hb4 := hide (hb2.out.addN (n' := q + 1) (new := [⟨op, a, bb, nx⟩]) (by rw [List.length_append, HLN.out]; rfl) HM3.out HG3.out HNB.out)
        have HB3 : Hid (Below w1.heap.size w1 x3) := hide (Below.grownOn hb2.out.below HG3.out (fun b hb => hb2.out.nodes.new b hb) hb2.out.hB)
        clear HM3 HG3 HNB
        refine wpAnyH_ready (rs := [1, 7]) (by kernel_rfl) (by simp) ?_
        refine AllReadyH.cons rfl (fun K hK => ?_) (AllReadyH.cons rfl (fun K hK => ?_) AllReadyH.nil)
        · go_simp
          refine hK.out _ _ (HS.out _ hbd.out.below) (fun _ => ?_)
          clear hK K
          refine wpAnyH_ready (rs := [7]) (by kernel_rfl) (by simp) ?_
          refine AllReadyH.cons rfl (fun K hK => ?_) AllReadyH.nil
          go_simp
          refine hK.out _ _ (HS.out _ hb2.out.below) (fun _ => ?_)
          clear hK K
          refine wpAnyH_ready (rs := [8]) (by kernel_rfl) (by simp) ?_
          refine AllReadyH.cons rfl (fun K hK => ?_) AllReadyH.nil
          refine (if_pos (by kernel_rfl)).mpr ?_
          refine wp_append_run happ _ _ rfl rfl rfl ?_
          simp only [Act.put, List.getElem_toArray, List.getElem_cons_succ, List.getElem_cons_zero, List.setIfInBounds_toArray, List.set_cons_zero, List.set_cons_succ]
          refine hK.out _ _ (HS.out _ HB3.out) (fun _ => ?_)
          clear hK K
          clear happ
          refine wpAnyH_take (i := 9) (oi := ⟨some 58, _, _, _, _, _⟩) (v := (.pointer (some ⟨w.heap.size + 1, 1, none⟩))) rfl (by kernel_rfl) (by kernel_rfl) (by kernel_rfl) (fun _ _ _ h => h) (Or.inl ⟨by rfl, fun W hS => by (obtain ⟨s0, s1, s2, s3, s4⟩ := hS; go_simp)⟩) (HS.out _ HB3.out) ?_
          simp only [Act.put, List.setIfInBounds_toArray, List.set_cons_zero, List.set_cons_succ]
          refine wpAnyH_ready (rs := [10]) (by kernel_rfl) (by simp) ?_
          refine AllReadyH.cons rfl (fun K hK => ?_) AllReadyH.nil
          go_simp
          refine hK.out _ _ (HS.out _ hb4.out.below) (fun _ => ?_)
          clear hK K
          refine wpAnyH_done (by kernel_rfl) ?_ _
          go_wp2_with fail
          exact ⟨⟨q + 1, _, _, by omega, by go_num, hide (by rw [HTN.out]; exact hb4.out)⟩, by simp [intOf]; omega⟩
        · go_simp
          refine hK.out _ _ (HS.out _ hb2.out.below) (fun _ => ?_)
          clear hK K
          refine wpAnyH_ready (rs := [1]) (by kernel_rfl) (by simp) ?_
          refine AllReadyH.cons rfl (fun K hK => ?_) AllReadyH.nil
          go_simp
          refine hK.out _ _ (HS.out _ hb2.out.below) (fun _ => ?_)
          clear hK K
          refine wpAnyH_ready (rs := [8]) (by kernel_rfl) (by simp) ?_
          refine AllReadyH.cons rfl (fun K hK => ?_) AllReadyH.nil
          refine (if_pos (by kernel_rfl)).mpr ?_
          refine wp_append_run happ _ _ rfl rfl rfl ?_
          simp only [Act.put, List.getElem_toArray, List.getElem_cons_succ, List.getElem_cons_zero, List.setIfInBounds_toArray, List.set_cons_zero, List.set_cons_succ]
          refine hK.out _ _ (HS.out _ HB3.out) (fun _ => ?_)
          clear hK K
          clear happ
          refine wpAnyH_take (i := 9) (oi := ⟨some 58, _, _, _, _, _⟩) (v := (.pointer (some ⟨w.heap.size + 1, 1, none⟩))) rfl (by kernel_rfl) (by kernel_rfl) (by kernel_rfl) (fun _ _ _ h => h) (Or.inl ⟨by rfl, fun W hS => by (obtain ⟨s0, s1, s2, s3, s4⟩ := hS; go_simp)⟩) (HS.out _ HB3.out) ?_
          simp only [Act.put, List.setIfInBounds_toArray, List.set_cons_zero, List.set_cons_succ]
          refine wpAnyH_ready (rs := [10]) (by kernel_rfl) (by simp) ?_
          refine AllReadyH.cons rfl (fun K hK => ?_) AllReadyH.nil
          go_simp
          refine hK.out _ _ (HS.out _ hb4.out.below) (fun _ => ?_)
          clear hK K
          refine wpAnyH_done (by kernel_rfl) ?_ _
          go_wp2_with fail
          exact ⟨⟨q + 1, _, _, by omega, by go_num, hide (by rw [HTN.out]; exact hb4.out)⟩, by simp [intOf]; omega⟩
      · have HQ : q = ns.length := by omega
        subst HQ
        have HBF : Hid (RBld w1.heap.size w1 wr (w.heap.size + 1) given xa xc os.length oa oc ns) := hide (by have := hbl.out; rwa [List.take_length] at this)
        have HNr := hide (HN1.out.below hbl.out.below)
        clear hbl
        go_wp2_with fail
        refine (new_no HNr.out (by omega) (by omega) hr).mono ?_
        rintro e wA ⟨rfl, hb⟩
        have HFA := hide (HBF.out.more hb)
        have HWA := hide hb
        have HLO : Hid (wr.heap.size ≤ wA.heap.size) := hide hb.size
        have HZ0 : Hid (w1.heap.size ≤ wr.heap.size) := hide HBF.out.hB
        clear hb HBF HNr c1
        go_wp2_with fail
        have HSW : Hid (∀ W, Below wA.heap.size wA W → W.cell? ⟨w.heap.size + 1, 0, none⟩ = some (.int .i64 given) ∧ W.cell? ⟨w.heap.size + 1, 1, none⟩ = some (.slice xa ns.length xc) ∧ W.cell? ⟨w.heap.size + 1, 2, none⟩ = some (.slice oa os.length oc)) := hide fun W hb => (HFA.out.more hb).cells
        have HNN : Hid (∀ W, Below wA.heap.size wA W → NetAt ⟨w.heap.size, na, nc, oa, oc⟩ AnyB W given ns os) := hide fun W hb => HN1.out.below (HFA.out.more hb).below
        have HXN : Hid (∀ W, Below wA.heap.size wA W → Lies AnyB W xa (ndsC ns) ∧ Lies AnyB W oa (intsC os)) := hide fun W hb => ⟨(HFA.out.more hb).nodes.lies fun _ _ => trivial, (HNN.out W hb).outs⟩
        have HB2 : Hid (Below wA.heap.size wA wA.drew) := hide (Below.refl _ _).drew
        refine wp_region_held_drew (S := fun W => W.cell? ⟨w.heap.size + 1, 0, none⟩ = some (.int .i64 given) ∧ W.cell? ⟨w.heap.size + 1, 1, none⟩ = some (.slice xa ns.length xc) ∧ W.cell? ⟨w.heap.size + 1, 2, none⟩ = some (.slice oa os.length oc)) (by kernel_rfl) (HSW.out _ HB2.out) (fun _ => ?_)
        generalize wA.drew = z2 at *
        refine wpAnyH_take (i := 1) (oi := ⟨some 64, _, _, _, _, _⟩) (v := (.agg #[.int .i64 given, .slice xa ns.length xc, .slice oa os.length oc])) rfl (by kernel_rfl) (by kernel_rfl) (by kernel_rfl) (fun _ _ _ h => h) (Or.inl ⟨by rfl, fun W hS => by (obtain ⟨s0, s1, s2⟩ := hS; go_simp)⟩) (HSW.out _ HB2.out) ?_
        simp only [Act.put, List.setIfInBounds_toArray, List.set_cons_zero, List.set_cons_succ]
        refine wpAnyH_ready (rs := [0]) (by kernel_rfl) (by simp) ?_
        refine AllReadyH.cons rfl (fun K hK => ?_) AllReadyH.nil
        go_simp
        refine (Right_at (HNN.out _ HB2.out) (by omega) (by omega)).mono ?_
        rintro e z3 ⟨rfl, hb⟩
        rw [hr]
        have HB3 := hide (Below.step HB2.out hb)
        clear hb
        refine hK.out _ _ (HSW.out _ HB3.out) (fun _ => ?_)
        clear hK K
        refine wpAnyH_ready (rs := [2]) (by kernel_rfl) (by simp) ?_
        refine AllReadyH.cons rfl (fun K hK => ?_) AllReadyH.nil
        go_simp
        refine (rright_at given ns os xa oa xc oc z3 (HXN.out _ HB3.out).1 (HXN.out _ HB3.out).2 (by omega) (by omega)).mono ?_
        rintro e z4 ⟨rfl, hb⟩
        rw [hr]
        have HB4 := hide (Below.step HB3.out hb)
        clear hb
        refine hK.out _ _ (HSW.out _ HB4.out) (fun _ => ?_)
        clear hK K
        refine wpAnyH_take (i := 3) (oi := ⟨some 66, _, _, _, _, _⟩) (v := (.bool false)) rfl (by kernel_rfl) (by kernel_rfl) (by kernel_rfl) (fun _ _ _ h => h) (Or.inl ⟨by rfl, fun W hS => by (obtain ⟨s0, s1, s2⟩ := hS; go_simp)⟩) (HSW.out _ HB4.out) ?_
        simp only [Act.put, List.setIfInBounds_toArray, List.set_cons_zero, List.set_cons_succ]
        refine wpAnyH_take (i := 4) (oi := ⟨some 67, _, _, _, _, _⟩) (v := (.bool false)) rfl (by kernel_rfl) (by kernel_rfl) (by kernel_rfl) (fun _ _ _ h => h) (Or.inl ⟨by rfl, fun W hS => by (obtain ⟨s0, s1, s2⟩ := hS; go_simp)⟩) (HSW.out _ HB4.out) ?_
        simp only [Act.put, List.setIfInBounds_toArray, List.set_cons_zero, List.set_cons_succ]
        refine wpAnyH_take (i := 6) (oi := ⟨some 69, _, _, _, _, _⟩) (v := (.agg #[.int .i64 given, .slice xa ns.length xc, .slice oa os.length oc])) rfl (by kernel_rfl) (by kernel_rfl) (by kernel_rfl) (fun _ _ _ h => h) (Or.inl ⟨by rfl, fun W hS => by (obtain ⟨s0, s1, s2⟩ := hS; go_simp)⟩) (HSW.out _ HB4.out) ?_
        simp only [Act.put, List.setIfInBounds_toArray, List.set_cons_zero, List.set_cons_succ]
        refine wpAnyH_ready (rs := [5]) (by kernel_rfl) (by simp) ?_
        refine AllReadyH.cons rfl (fun K hK => ?_) AllReadyH.nil
        go_simp
        refine (Gates_at (HNN.out _ HB4.out) (by omega)).mono ?_
        rintro e z5 ⟨rfl, hb⟩
        have HB5 := hide (Below.step HB4.out hb)
        clear hb
        refine hK.out _ _ (HSW.out _ HB5.out) (fun _ => ?_)
        clear hK K
        refine wpAnyH_ready (rs := [7]) (by kernel_rfl) (by simp) ?_
        refine AllReadyH.cons rfl (fun K hK => ?_) AllReadyH.nil
        go_simp
        refine (rgates_at given ns os.length xa oa xc oc z5 (HXN.out _ HB5.out).1 (by omega)).mono ?_
        rintro e z6 ⟨rfl, hb⟩
        have HB6 := hide (Below.step HB5.out hb)
        clear hb
        refine hK.out _ _ (HSW.out _ HB6.out) (fun _ => ?_)
        clear hK K
        refine wpAnyH_take (i := 8) (oi := ⟨some 71, _, _, _, _, _⟩) (v := (.bool false)) rfl (by kernel_rfl) (by kernel_rfl) (by kernel_rfl) (fun _ _ _ h => h) (Or.inl ⟨by rfl, fun W hS => by (obtain ⟨s0, s1, s2⟩ := hS; go_simp)⟩) (HSW.out _ HB6.out) ?_
        simp only [Act.put, List.setIfInBounds_toArray, List.set_cons_zero, List.set_cons_succ]
        refine wpAnyH_take (i := 9) (oi := ⟨some 72, _, _, _, _, _⟩) (v := (.bool false)) rfl (by kernel_rfl) (by kernel_rfl) (by kernel_rfl) (fun _ _ _ h => h) (Or.inl ⟨by rfl, fun W hS => by (obtain ⟨s0, s1, s2⟩ := hS; go_simp)⟩) (HSW.out _ HB6.out) ?_
        simp only [Act.put, List.setIfInBounds_toArray, List.set_cons_zero, List.set_cons_succ]
        refine wpAnyH_take (i := 10) (oi := ⟨some 73, _, _, _, _, _⟩) (v := (.bool false)) rfl (by kernel_rfl) (by kernel_rfl) (by kernel_rfl) (fun _ _ _ h => h) (Or.inl ⟨by rfl, fun W hS => by (obtain ⟨s0, s1, s2⟩ := hS; go_simp)⟩) (HSW.out _ HB6.out) ?_
        simp only [Act.put, List.setIfInBounds_toArray, List.set_cons_zero, List.set_cons_succ]
        refine wpAnyH_take (i := 11) (oi := ⟨some 74, _, _, _, _, _⟩) (v := (.iface 42 (.int .i64 1))) rfl (by kernel_rfl) (by kernel_rfl) (by kernel_rfl) (fun _ _ _ h => h) (Or.inl ⟨by rfl, fun W hS => by (obtain ⟨s0, s1, s2⟩ := hS; go_simp)⟩) (HSW.out _ HB6.out) ?_
        simp only [Act.put, List.setIfInBounds_toArray, List.set_cons_zero, List.set_cons_succ]
        have hen : ∀ W, (binOp .eql 35 (.iface 42 (.int .i64 1)) .nilIface).run Tryd.prog W = .ok (.bool false) W := fun W => by kernel_rfl
        refine wpAnyH_take (i := 12) (oi := ⟨some 75, _, _, _, _, _⟩) (v := (.bool false)) rfl (by kernel_rfl) (by kernel_rfl) (by kernel_rfl) (fun _ _ _ h => h) (Or.inl ⟨by rfl, fun W hS => by (obtain ⟨s0, s1, s2⟩ := hS; go_simp)⟩) (HSW.out _ HB6.out) ?_
        simp only [Act.put, List.setIfInBounds_toArray, List.set_cons_zero, List.set_cons_succ]
        refine wpAnyH_take (i := 13) (oi := ⟨some 76, _, _, _, _, _⟩) (v := (.agg #[.int .i64 given, .slice xa ns.length xc, .slice oa os.length oc])) rfl (by kernel_rfl) (by kernel_rfl) (by kernel_rfl) (fun _ _ _ h => h) (Or.inl ⟨by rfl, fun W hS => by (obtain ⟨s0, s1, s2⟩ := hS; go_simp)⟩) (HSW.out _ HB6.out) ?_
        simp only [Act.put, List.setIfInBounds_toArray, List.set_cons_zero, List.set_cons_succ]
        refine wpAnyH_ready (rs := [14]) (by kernel_rfl) (by simp) ?_
        refine AllReadyH.cons rfl (fun K hK => ?_) AllReadyH.nil
        go_simp
        refine (rright_at given ns os xa oa xc oc z6 (HXN.out _ HB6.out).1 (HXN.out _ HB6.out).2 (by omega) (by omega)).mono ?_
        rintro e z7 ⟨rfl, hb⟩
        rw [hr]
        have HB7 := hide (Below.step HB6.out hb)
        clear hb
        refine hK.out _ _ (HSW.out _ HB7.out) (fun _ => ?_)
        clear hK K
        refine wpAnyH_take (i := 15) (oi := ⟨some 78, _, _, _, _, _⟩) (v := (.bool false)) rfl (by kernel_rfl) (by kernel_rfl) (by kernel_rfl) (fun _ _ _ h => h) (Or.inl ⟨by rfl, fun W hS => by (obtain ⟨s0, s1, s2⟩ := hS; go_simp)⟩) (HSW.out _ HB7.out) ?_
        simp only [Act.put, List.setIfInBounds_toArray, List.set_cons_zero, List.set_cons_succ]
        refine wpAnyH_take (i := 16) (oi := ⟨some 79, _, _, _, _, _⟩) (v := (.bool false)) rfl (by kernel_rfl) (by kernel_rfl) (by kernel_rfl) (fun _ _ _ h => h) (Or.inl ⟨by rfl, fun W hS => by (obtain ⟨s0, s1, s2⟩ := hS; go_simp)⟩) (HSW.out _ HB7.out) ?_
        simp only [Act.put, List.setIfInBounds_toArray, List.set_cons_zero, List.set_cons_succ]
        refine wpAnyH_done (by kernel_rfl) ?_ _
        have hnn : ∀ W, (binOp .neq 35 (.iface 42 (.int .i64 1)) .nilIface).run Tryd.prog W = .ok (.bool true) W := fun W => by kernel_rfl
        have HBA : Hid (Below w.heap.size w wA) := hide (Below.step HB1.out HFA.out.below)
        clear HB2 HB3 HB4 HB5 HB6 hen
        go_wp2_with fail
        refine (bare_e 1 _ (((Below.step HBA.out HB7.out).cell (cell_lt HDL.out)).trans HDL.out)).mono ?_
        rintro e z8 ⟨rfl, hb⟩
        have HB8 := hide (Below.step (Below.step HBA.out HB7.out) hb)
        clear hb
        go_wp2_with fail
        go_ret
        exact ⟨rfl, HB8.out⟩

set_option maxRecDepth 100000 in
set_option maxHeartbeats 6400000 in
theorem st_right (given : Int) (ns : List Nd) (os : List Int) (na oa ga : Option Addr) (nc oc gc : Nat) (A : Nat → Option Addr) (C : Nat → Nat) (gs : List (List Bool)) (w : World) (hn : Lies AnyB w na (ndsC ns)) (ho : Lies AnyB w oa (intsC os)) (h1 : (ns.length : Int) ≤ 60) (h2 : (os.length : Int) ≤ 30) (h3 : (gs.length : Int) ≤ 30) (h4 : ¬ ((1000 : Int) < given ∧ given ≤ 20000)) (hr : rightP given ns os = true) (hgr : Grid w ga A C gs) :
    Calls Tryd.prog 3 #[.agg #[.int .i64 given, .slice na ns.length nc, .slice oa os.length oc], .slice ga gs.length gc] w fun e w' => e = .returned (.bool true) ∧ Below w.heap.size w w' := by
  have HGR := hide hgr
  clear hgr
  have HB1 : Hid (Below w.heap.size w (w.alloc (.cells #[.int .i64 given, .slice na ns.length nc, .slice oa os.length oc] 25))) := hide (below_alloc _ _)
  have HN1 : Hid (NetAt ⟨w.heap.size, na, nc, oa, oc⟩ AnyB (w.alloc (.cells #[.int .i64 given, .slice na ns.length nc, .slice oa os.length oc] 25)) given ns os) := hide ⟨blk_new _ _, hn.below HB1.out, ho.below HB1.out⟩
  have HP1 : Hid (w.heap.size < (w.alloc (.cells #[.int .i64 given, .slice na ns.length nc, .slice oa os.length oc] 25)).heap.size) := hide (by simp)
  have HR1 : Hid (RBld (w.alloc (.cells #[.int .i64 given, .slice na ns.length nc, .slice oa os.length oc] 25)).heap.size (w.alloc (.cells #[.int .i64 given, .slice na ns.length nc, .slice oa os.length oc] 25)) ((w.alloc (.cells #[.int .i64 given, .slice na ns.length nc, .slice oa os.length oc] 25)).alloc (.cells #[.int .i64 given, .slice none 0 0, .slice oa os.length oc] 29)) (w.heap.size + 1) given none 0 os.length oa oc []) := hide (by
    have h := blk_new (w.alloc (.cells #[.int .i64 given, .slice na ns.length nc, .slice oa os.length oc] 25)) (.cells #[.int .i64 given, .slice none 0 0, .slice oa os.length oc] 29)
    have hb := below_alloc (w.alloc (.cells #[.int .i64 given, .slice na ns.length nc, .slice oa os.length oc] 25)) (.cells #[.int .i64 given, .slice none 0 0, .slice oa os.length oc] 29)
    have hz : (w.alloc (.cells #[.int .i64 given, .slice na ns.length nc, .slice oa os.length oc] 25)).heap.size = w.heap.size + 1 := by simp
    exact ⟨hb, by rw [hz] at h; exact h, Mine.none _, (fun b hb => by cases hb), by omega, hb.size⟩)
  clear hn ho
  by_cases h5 : (1000 : Int) < given
  · have h6 : ¬ given ≤ 20000 := fun h => h4 ⟨h5, h⟩
    have h6b : decide (given ≤ 20000) = false := decide_eq_false h6
    clear h4
    go_enter Tryd.func3, Tryd.ntmps3
    go_wp2_with fail
    clear h6 h6b
    generalize ((w.alloc (.cells #[.int .i64 given, .slice na ns.length nc, .slice oa os.length oc] 25)).alloc (.cells #[.int .i64 given, .slice none 0 0, .slice oa os.length oc] 29)) = w2 at *
    generalize (w.alloc (.cells #[.int .i64 given, .slice na ns.length nc, .slice oa os.length oc] 25)) = w1 at *
    go_loopw [6] (fun i wr => ∃ (q : Nat) (xa : Option Addr) (xc : Nat), q ≤ ns.length ∧ i = .int .i64 q ∧ Hid (RBld w1.heap.size w1 wr (w.heap.size + 1) given xa xc os.length oa oc (ns.take q))) (fun i _ => ns.length - (intOf i).toNat)
    case atStart => exact ⟨0, none, 0, Nat.zero_le _, rfl, HR1⟩
    case round =>
      obtain ⟨q, xa, xc, hq, rfl, hbl⟩ := hrel
      have c1 : wr.cell? ⟨w.heap.size, 1, none⟩ = some (.slice na ns.length nc) := (HN1.out.below hbl.out.below).c1
      by_cases hlt : q < ns.length
      · have hqi : (q : Int) < (ns.length : Int) := by omega
        obtain ⟨nb, noff, hna, _, _, m0, m1, m2, m3⟩ := (HN1.out.below hbl.out.below).nodes.nodes hlt
        simp only at hna
        subst hna
        have HLN : Hid ((ns.take q).length = q) := hide (by simp; omega)
        have HTN : Hid (ns.take (q + 1) = ns.take q ++ [ndAt ns q]) := hide (by rw [List.take_succ_eq_append_getElem hlt]; unfold ndAt; rw [List.getElem?_eq_getElem hlt]; rfl)
        have t1 : wr.cell? ⟨w.heap.size + 1, 1, none⟩ = some (.slice xa q xc) := by have := hbl.out.cells.2.1; rwa [HLN.out] at this
        go_wp2_with fail
        have HS : Hid (∀ W, Below w1.heap.size w1 W → W.cell? ⟨w.heap.size, 1, none⟩ = some (.slice (some ⟨nb, noff, none⟩) ns.length nc) ∧ W.cell? ⟨nb, noff + q * 4, none⟩ = some (.int .i64 (ndAt ns q).op) ∧ W.cell? ⟨nb, noff + q * 4 + 1, none⟩ = some (.int .i64 (ndAt ns q).a) ∧ W.cell? ⟨nb, noff + q * 4 + 2, none⟩ = some (.int .i64 (ndAt ns q).b) ∧ W.cell? ⟨nb, noff + q * 4 + 3, none⟩ = some (.int .i64 (ndAt ns q).next)) := hide fun W hb => ⟨(HN1.out.below hb).c1, by
          obtain ⟨b', o', e1, _, _, k0, k1, k2, k3⟩ := (HN1.out.below hb).nodes.nodes hlt
          cases e1
          exact ⟨k0, k1, k2, k3⟩⟩
        have HBd : Hid (Below wr.heap.size wr wr.drew) := hide (Below.refl _ _).drew
        have t1d : wr.drew.cell? ⟨w.heap.size + 1, 1, none⟩ = some (.slice xa q xc) := t1
        have hbd := hide (hbl.out.more HBd.out)
        clear t1 c1 m0 m1 m2 m3 hbl
        refine wp_region_held_drew (S := fun W => W.cell? ⟨w.heap.size, 1, none⟩ = some (.slice (some ⟨nb, noff, none⟩) ns.length nc) ∧ W.cell? ⟨nb, noff + q * 4, none⟩ = some (.int .i64 (ndAt ns q).op) ∧ W.cell? ⟨nb, noff + q * 4 + 1, none⟩ = some (.int .i64 (ndAt ns q).a) ∧ W.cell? ⟨nb, noff + q * 4 + 2, none⟩ = some (.int .i64 (ndAt ns q).b) ∧ W.cell? ⟨nb, noff + q * 4 + 3, none⟩ = some (.int .i64 (ndAt ns q).next)) (by kernel_rfl) (HS.out _ hbd.out.below) (fun _ => ?_)
        generalize wr.drew = x1 at *
        generalize ndAt ns q = x at *
        obtain ⟨op, a, bb, nx⟩ := x
        simp only at HS
        refine wpAnyH_take (i := 0) (oi := ⟨some 49, _, _, _, _, _⟩) (v := (.pointer (some ⟨w.heap.size + 1, 1, none⟩))) rfl (by kernel_rfl) (by kernel_rfl) (by kernel_rfl) (fun _ _ _ h => h) (Or.inl ⟨by rfl, fun W hS => by (obtain ⟨s0, s1, s2, s3, s4⟩ := hS; go_simp)⟩) (HS.out _ hbd.out.below) ?_
        simp only [Act.put, List.setIfInBounds_toArray, List.set_cons_zero, List.set_cons_succ]
        refine wpAnyH_take (i := 2) (oi := ⟨some 51, _, _, _, _, _⟩) (v := (.pointer (some ⟨w.heap.size, 1, none⟩))) rfl (by kernel_rfl) (by kernel_rfl) (by kernel_rfl) (fun _ _ _ h => h) (Or.inl ⟨by rfl, fun W hS => by (obtain ⟨s0, s1, s2, s3, s4⟩ := hS; go_simp)⟩) (HS.out _ hbd.out.below) ?_
        simp only [Act.put, List.setIfInBounds_toArray, List.set_cons_zero, List.set_cons_succ]
        refine wpAnyH_take (i := 3) (oi := ⟨some 52, _, _, _, _, _⟩) (v := (.slice (some ⟨nb, noff, none⟩) ns.length nc)) rfl (by kernel_rfl) (by kernel_rfl) (by kernel_rfl) (fun _ _ _ h => h) (Or.inl ⟨by rfl, fun W hS => by (obtain ⟨s0, s1, s2, s3, s4⟩ := hS; go_simp)⟩) (HS.out _ hbd.out.below) ?_
        simp only [Act.put, List.setIfInBounds_toArray, List.set_cons_zero, List.set_cons_succ]
        refine wpAnyH_take (i := 4) (oi := ⟨some 53, _, _, _, _, _⟩) (v := (.int .i64 q)) rfl (by kernel_rfl) (by kernel_rfl) (by kernel_rfl) (fun _ _ _ h => h) (Or.inl ⟨by rfl, fun W hS => by (obtain ⟨s0, s1, s2, s3, s4⟩ := hS; go_simp)⟩) (HS.out _ hbd.out.below) ?_
        simp only [Act.put, List.setIfInBounds_toArray, List.set_cons_zero, List.set_cons_succ]
        refine wpAnyH_take (i := 5) (oi := ⟨some 54, _, _, _, _, _⟩) (v := (.pointer (some ⟨nb, noff + q * 4, none⟩))) rfl (by kernel_rfl) (by kernel_rfl) (by kernel_rfl) (fun _ _ _ h => h) (Or.inl ⟨by rfl, fun W hS => by (obtain ⟨s0, s1, s2, s3, s4⟩ := hS; go_simp)⟩) (HS.out _ hbd.out.below) ?_
        simp only [Act.put, List.setIfInBounds_toArray, List.set_cons_zero, List.set_cons_succ]
        refine wpAnyH_take (i := 6) (oi := ⟨some 55, _, _, _, _, _⟩) (v := (.agg #[.int .i64 op, .int .i64 a, .int .i64 bb, .int .i64 nx])) rfl (by kernel_rfl) (by kernel_rfl) (by kernel_rfl) (fun _ _ _ h => h) (Or.inl ⟨by rfl, fun W hS => by (obtain ⟨s0, s1, s2, s3, s4⟩ := hS; go_simp)⟩) (HS.out _ hbd.out.below) ?_
        simp only [Act.put, List.setIfInBounds_toArray, List.set_cons_zero, List.set_cons_succ]
        have HTx2 : Hid (Below x1.heap.size x1 (x1.alloc (.cells #[.int .i64 op, .int .i64 a, .int .i64 bb, .int .i64 nx] 31))) := hide (below_alloc _ _)
        have HEx2 := hide (blk_new x1 (.cells #[.int .i64 op, .int .i64 a, .int .i64 bb, .int .i64 nx] 31))
        have hb2 := hide (hbd.out.more HTx2.out)
        have t1a := fun o => cell_alloc t1d o
        obtain ⟨xa3, xc3, x3, happ, hm, hg, hnb⟩ := app_rn (c := 1) (n' := q + 1) hb2.out.nodes rfl (new := [⟨op, a, bb, nx⟩]) (m := 1) rfl (by rw [HLN.out]) (Lies.blk (cs := ndsC [⟨op, a, bb, nx⟩]) HEx2.out trivial) hb2.out.hB (by omega)
        rw [HLN.out] at happ
        have HM3 := hide hm
        have HG3 := hide hg
        have HNB := hide hnb
        clear hm hg hnb
        obtain ⟨k1, kf⟩ := hb2.out.s1 HG3.out
        rw [HLN.out] at k1
        have hb4 := hide (hb2.out.addN (n' := q + 1) (new := [⟨op, a, bb, nx⟩]) (by rw [List.length_append, HLN.out]; rfl) HM3.out HG3.out HNB.out)
        have HB3 : Hid (Below w1.heap.size w1 x3) := hide (Below.grownOn hb2.out.below HG3.out (fun b hb => hb2.out.nodes.new b hb) hb2.out.hB)
        clear HM3 HG3 HNB
        refine wpAnyH_ready (rs := [1, 7]) (by kernel_rfl) (by simp) ?_
        refine AllReadyH.cons rfl (fun K hK => ?_) (AllReadyH.cons rfl (fun K hK => ?_) AllReadyH.nil)
        · go_simp
          refine hK.out _ _ (HS.out _ hbd.out.below) (fun _ => ?_)
          clear hK K
          refine wpAnyH_ready (rs := [7]) (by kernel_rfl) (by simp) ?_
          refine AllReadyH.cons rfl (fun K hK => ?_) AllReadyH.nil
          go_simp
          refine hK.out _ _ (HS.out _ hb2.out.below) (fun _ => ?_)
          clear hK K
          refine wpAnyH_ready (rs := [8]) (by kernel_rfl) (by simp) ?_
          refine AllReadyH.cons rfl (fun K hK => ?_) AllReadyH.nil
          refine (if_pos (by kernel_rfl)).mpr ?_
          refine wp_append_run happ _ _ rfl rfl rfl ?_
          simp only [Act.put, List.getElem_toArray, List.getElem_cons_succ, List.getElem_cons_zero, List.setIfInBounds_toArray, List.set_cons_zero, List.set_cons_succ]
          refine hK.out _ _ (HS.out _ HB3.out) (fun _ => ?_)
          clear hK K
          clear happ
          refine wpAnyH_take (i := 9) (oi := ⟨some 58, _, _, _, _, _⟩) (v := (.pointer (some ⟨w.heap.size + 1, 1, none⟩))) rfl (by kernel_rfl) (by kernel_rfl) (by kernel_rfl) (fun _ _ _ h => h) (Or.inl ⟨by rfl, fun W hS => by (obtain ⟨s0, s1, s2, s3, s4⟩ := hS; go_simp)⟩) (HS.out _ HB3.out) ?_
          simp only [Act.put, List.setIfInBounds_toArray, List.set_cons_zero, List.set_cons_succ]
          refine wpAnyH_ready (rs := [10]) (by kernel_rfl) (by simp) ?_
          refine AllReadyH.cons rfl (fun K hK => ?_) AllReadyH.nil
          go_simp
          refine hK.out _ _ (HS.out _ hb4.out.below) (fun _ => ?_)
          clear hK K
          refine wpAnyH_done (by kernel_rfl) ?_ _
          go_wp2_with fail
          exact ⟨⟨q + 1, _, _, by omega, by go_num, hide (by rw [HTN.out]; exact hb4.out)⟩, by simp [intOf]; omega⟩
        · go_simp
          refine hK.out _ _ (HS.out _ hb2.out.below) (fun _ => ?_)
          clear hK K
          refine wpAnyH_ready (rs := [1]) (by kernel_rfl) (by simp) ?_
          refine AllReadyH.cons rfl (fun K hK => ?_) AllReadyH.nil
          go_simp
          refine hK.out _ _ (HS.out _ hb2.out.below) (fun _ => ?_)
          clear hK K
          refine wpAnyH_ready (rs := [8]) (by kernel_rfl) (by simp) ?_
          refine AllReadyH.cons rfl (fun K hK => ?_) AllReadyH.nil
          refine (if_pos (by kernel_rfl)).mpr ?_
          refine wp_append_run happ _ _ rfl rfl rfl ?_
          simp only [Act.put, List.getElem_toArray, List.getElem_cons_succ, List.getElem_cons_zero, List.setIfInBounds_toArray, List.set_cons_zero, List.set_cons_succ]
          refine hK.out _ _ (HS.out _ HB3.out) (fun _ => ?_)
          clear hK K
          clear happ
          refine wpAnyH_take (i := 9) (oi := ⟨some 58, _, _, _, _, _⟩) (v := (.pointer (some ⟨w.heap.size + 1, 1, none⟩))) rfl (by kernel_rfl) (by kernel_rfl) (by kernel_rfl) (fun _ _ _ h => h) (Or.inl ⟨by rfl, fun W hS => by (obtain ⟨s0, s1, s2, s3, s4⟩ := hS; go_simp)⟩) (HS.out _ HB3.out) ?_
          simp only [Act.put, List.setIfInBounds_toArray, List.set_cons_zero, List.set_cons_succ]
          refine wpAnyH_ready (rs := [10]) (by kernel_rfl) (by simp) ?_
          refine AllReadyH.cons rfl (fun K hK => ?_) AllReadyH.nil
          go_simp
          refine hK.out _ _ (HS.out _ hb4.out.below) (fun _ => ?_)
          clear hK K
          refine wpAnyH_done (by kernel_rfl) ?_ _
          go_wp2_with fail
          exact ⟨⟨q + 1, _, _, by omega, by go_num, hide (by rw [HTN.out]; exact hb4.out)⟩, by simp [intOf]; omega⟩
      · have HQ : q = ns.length := by omega
        subst HQ
        have HBF : Hid (RBld w1.heap.size w1 wr (w.heap.size + 1) given xa xc os.length oa oc ns) := hide (by have := hbl.out; rwa [List.take_length] at this)
        have HNr := hide (HN1.out.below hbl.out.below)
        clear hbl
        go_wp2_with fail
        refine (new_at HNr.out (rightP_iff.1 hr)).mono ?_
        rintro e wA ⟨⟨sa, rfl, hsa⟩, hb⟩
        have HSA := hide hsa
        have HFA := hide (HBF.out.more hb)
        have HWA := hide hb
        have HLO : Hid (wr.heap.size ≤ wA.heap.size) := hide hb.size
        have HZ0 : Hid (w1.heap.size ≤ wr.heap.size) := hide HBF.out.hB
        have HQ5 : Hid (∀ W, Below wr.heap.size wr W → (W.cell? ⟨w.heap.size + 1, 0, none⟩ = some (.int .i64 given) ∧ W.cell? ⟨w.heap.size + 1, 1, none⟩ = some (.slice xa ns.length xc) ∧ W.cell? ⟨w.heap.size + 1, 2, none⟩ = some (.slice oa os.length oc)) ∧ (Lies AnyB W xa (ndsC ns) ∧ Lies AnyB W oa (intsC os)) ∧ Grid W ga A C gs ∧ Below w.heap.size w W) := hide fun W hb => ⟨(HBF.out.more hb).cells, ⟨(HBF.out.more hb).nodes.lies fun _ _ => trivial, (HN1.out.below (HBF.out.more hb).below).outs⟩, HGR.out.below (Below.step HB1.out (HBF.out.more hb).below), Below.step HB1.out (HBF.out.more hb).below⟩
        clear hb HBF HNr c1
        go_wp2_with fail
        have HSW : Hid (∀ W, Below wA.heap.size wA W → W.cell? ⟨w.heap.size + 1, 0, none⟩ = some (.int .i64 given) ∧ W.cell? ⟨w.heap.size + 1, 1, none⟩ = some (.slice xa ns.length xc) ∧ W.cell? ⟨w.heap.size + 1, 2, none⟩ = some (.slice oa os.length oc)) := hide fun W hb => (HFA.out.more hb).cells
        have HNN : Hid (∀ W, Below wA.heap.size wA W → NetAt ⟨w.heap.size, na, nc, oa, oc⟩ AnyB W given ns os) := hide fun W hb => HN1.out.below (HFA.out.more hb).below
        have HXN : Hid (∀ W, Below wA.heap.size wA W → Lies AnyB W xa (ndsC ns) ∧ Lies AnyB W oa (intsC os)) := hide fun W hb => ⟨(HFA.out.more hb).nodes.lies fun _ _ => trivial, (HNN.out W hb).outs⟩
        have HB2 : Hid (Below wA.heap.size wA wA.drew) := hide (Below.refl _ _).drew
        refine wp_region_held_drew (S := fun W => W.cell? ⟨w.heap.size + 1, 0, none⟩ = some (.int .i64 given) ∧ W.cell? ⟨w.heap.size + 1, 1, none⟩ = some (.slice xa ns.length xc) ∧ W.cell? ⟨w.heap.size + 1, 2, none⟩ = some (.slice oa os.length oc)) (by kernel_rfl) (HSW.out _ HB2.out) (fun _ => ?_)
        generalize wA.drew = z2 at *
        refine wpAnyH_take (i := 1) (oi := ⟨some 64, _, _, _, _, _⟩) (v := (.agg #[.int .i64 given, .slice xa ns.length xc, .slice oa os.length oc])) rfl (by kernel_rfl) (by kernel_rfl) (by kernel_rfl) (fun _ _ _ h => h) (Or.inl ⟨by rfl, fun W hS => by (obtain ⟨s0, s1, s2⟩ := hS; go_simp)⟩) (HSW.out _ HB2.out) ?_
        simp only [Act.put, List.setIfInBounds_toArray, List.set_cons_zero, List.set_cons_succ]
        refine wpAnyH_ready (rs := [0]) (by kernel_rfl) (by simp) ?_
        refine AllReadyH.cons rfl (fun K hK => ?_) AllReadyH.nil
        go_simp
        refine (Right_at (HNN.out _ HB2.out) (by omega) (by omega)).mono ?_
        rintro e z3 ⟨rfl, hb⟩
        rw [hr]
        have HB3 := hide (Below.step HB2.out hb)
        clear hb
        refine hK.out _ _ (HSW.out _ HB3.out) (fun _ => ?_)
        clear hK K
        refine wpAnyH_ready (rs := [2]) (by kernel_rfl) (by simp) ?_
        refine AllReadyH.cons rfl (fun K hK => ?_) AllReadyH.nil
        go_simp
        refine (rright_at given ns os xa oa xc oc z3 (HXN.out _ HB3.out).1 (HXN.out _ HB3.out).2 (by omega) (by omega)).mono ?_
        rintro e z4 ⟨rfl, hb⟩
        rw [hr]
        have HB4 := hide (Below.step HB3.out hb)
        clear hb
        refine hK.out _ _ (HSW.out _ HB4.out) (fun _ => ?_)
        clear hK K
        refine wpAnyH_take (i := 3) (oi := ⟨some 66, _, _, _, _, _⟩) (v := (.bool false)) rfl (by kernel_rfl) (by kernel_rfl) (by kernel_rfl) (fun _ _ _ h => h) (Or.inl ⟨by rfl, fun W hS => by (obtain ⟨s0, s1, s2⟩ := hS; go_simp)⟩) (HSW.out _ HB4.out) ?_
        simp only [Act.put, List.setIfInBounds_toArray, List.set_cons_zero, List.set_cons_succ]
        refine wpAnyH_take (i := 4) (oi := ⟨some 67, _, _, _, _, _⟩) (v := (.bool false)) rfl (by kernel_rfl) (by kernel_rfl) (by kernel_rfl) (fun _ _ _ h => h) (Or.inl ⟨by rfl, fun W hS => by (obtain ⟨s0, s1, s2⟩ := hS; go_simp)⟩) (HSW.out _ HB4.out) ?_
        simp only [Act.put, List.setIfInBounds_toArray, List.set_cons_zero, List.set_cons_succ]
        refine wpAnyH_take (i := 6) (oi := ⟨some 69, _, _, _, _, _⟩) (v := (.agg #[.int .i64 given, .slice xa ns.length xc, .slice oa os.length oc])) rfl (by kernel_rfl) (by kernel_rfl) (by kernel_rfl) (fun _ _ _ h => h) (Or.inl ⟨by rfl, fun W hS => by (obtain ⟨s0, s1, s2⟩ := hS; go_simp)⟩) (HSW.out _ HB4.out) ?_
        simp only [Act.put, List.setIfInBounds_toArray, List.set_cons_zero, List.set_cons_succ]
        refine wpAnyH_ready (rs := [5]) (by kernel_rfl) (by simp) ?_
        refine AllReadyH.cons rfl (fun K hK => ?_) AllReadyH.nil
        go_simp
        refine (Gates_at (HNN.out _ HB4.out) (by omega)).mono ?_
        rintro e z5 ⟨rfl, hb⟩
        have HB5 := hide (Below.step HB4.out hb)
        clear hb
        refine hK.out _ _ (HSW.out _ HB5.out) (fun _ => ?_)
        clear hK K
        refine wpAnyH_ready (rs := [7]) (by kernel_rfl) (by simp) ?_
        refine AllReadyH.cons rfl (fun K hK => ?_) AllReadyH.nil
        go_simp
        refine (rgates_at given ns os.length xa oa xc oc z5 (HXN.out _ HB5.out).1 (by omega)).mono ?_
        rintro e z6 ⟨rfl, hb⟩
        have HB6 := hide (Below.step HB5.out hb)
        clear hb
        refine hK.out _ _ (HSW.out _ HB6.out) (fun _ => ?_)
        clear hK K
        refine wpAnyH_take (i := 8) (oi := ⟨some 71, _, _, _, _, _⟩) (v := (.bool false)) rfl (by kernel_rfl) (by kernel_rfl) (by kernel_rfl) (fun _ _ _ h => h) (Or.inl ⟨by rfl, fun W hS => by (obtain ⟨s0, s1, s2⟩ := hS; go_simp)⟩) (HSW.out _ HB6.out) ?_
        simp only [Act.put, List.setIfInBounds_toArray, List.set_cons_zero, List.set_cons_succ]
        refine wpAnyH_take (i := 9) (oi := ⟨some 72, _, _, _, _, _⟩) (v := (.bool false)) rfl (by kernel_rfl) (by kernel_rfl) (by kernel_rfl) (fun _ _ _ h => h) (Or.inl ⟨by rfl, fun W hS => by (obtain ⟨s0, s1, s2⟩ := hS; go_simp)⟩) (HSW.out _ HB6.out) ?_
        simp only [Act.put, List.setIfInBounds_toArray, List.set_cons_zero, List.set_cons_succ]
        refine wpAnyH_take (i := 10) (oi := ⟨some 73, _, _, _, _, _⟩) (v := (.bool false)) rfl (by kernel_rfl) (by kernel_rfl) (by kernel_rfl) (fun _ _ _ h => h) (Or.inl ⟨by rfl, fun W hS => by (obtain ⟨s0, s1, s2⟩ := hS; go_simp)⟩) (HSW.out _ HB6.out) ?_
        simp only [Act.put, List.setIfInBounds_toArray, List.set_cons_zero, List.set_cons_succ]
        refine wpAnyH_take (i := 11) (oi := ⟨some 74, _, _, _, _, _⟩) (v := .nilIface) rfl (by kernel_rfl) (by kernel_rfl) (by kernel_rfl) (fun _ _ _ h => h) (Or.inl ⟨by rfl, fun W hS => by (obtain ⟨s0, s1, s2⟩ := hS; go_simp)⟩) (HSW.out _ HB6.out) ?_
        simp only [Act.put, List.setIfInBounds_toArray, List.set_cons_zero, List.set_cons_succ]
        have hen : ∀ W, (binOp .eql 35 .nilIface .nilIface).run Tryd.prog W = .ok (.bool true) W := fun W => by kernel_rfl
        refine wpAnyH_take (i := 12) (oi := ⟨some 75, _, _, _, _, _⟩) (v := (.bool true)) rfl (by kernel_rfl) (by kernel_rfl) (by kernel_rfl) (fun _ _ _ h => h) (Or.inl ⟨by rfl, fun W hS => by (obtain ⟨s0, s1, s2⟩ := hS; go_simp)⟩) (HSW.out _ HB6.out) ?_
        simp only [Act.put, List.setIfInBounds_toArray, List.set_cons_zero, List.set_cons_succ]
        refine wpAnyH_take (i := 13) (oi := ⟨some 76, _, _, _, _, _⟩) (v := (.agg #[.int .i64 given, .slice xa ns.length xc, .slice oa os.length oc])) rfl (by kernel_rfl) (by kernel_rfl) (by kernel_rfl) (fun _ _ _ h => h) (Or.inl ⟨by rfl, fun W hS => by (obtain ⟨s0, s1, s2⟩ := hS; go_simp)⟩) (HSW.out _ HB6.out) ?_
        simp only [Act.put, List.setIfInBounds_toArray, List.set_cons_zero, List.set_cons_succ]
        refine wpAnyH_ready (rs := [14]) (by kernel_rfl) (by simp) ?_
        refine AllReadyH.cons rfl (fun K hK => ?_) AllReadyH.nil
        go_simp
        refine (rright_at given ns os xa oa xc oc z6 (HXN.out _ HB6.out).1 (HXN.out _ HB6.out).2 (by omega) (by omega)).mono ?_
        rintro e z7 ⟨rfl, hb⟩
        rw [hr]
        have HB7 := hide (Below.step HB6.out hb)
        clear hb
        refine hK.out _ _ (HSW.out _ HB7.out) (fun _ => ?_)
        clear hK K
        refine wpAnyH_take (i := 15) (oi := ⟨some 78, _, _, _, _, _⟩) (v := (.bool false)) rfl (by kernel_rfl) (by kernel_rfl) (by kernel_rfl) (fun _ _ _ h => h) (Or.inl ⟨by rfl, fun W hS => by (obtain ⟨s0, s1, s2⟩ := hS; go_simp)⟩) (HSW.out _ HB7.out) ?_
        simp only [Act.put, List.setIfInBounds_toArray, List.set_cons_zero, List.set_cons_succ]
        refine wpAnyH_take (i := 16) (oi := ⟨some 79, _, _, _, _, _⟩) (v := (.bool false)) rfl (by kernel_rfl) (by kernel_rfl) (by kernel_rfl) (fun _ _ _ h => h) (Or.inl ⟨by rfl, fun W hS => by (obtain ⟨s0, s1, s2⟩ := hS; go_simp)⟩) (HSW.out _ HB7.out) ?_
        simp only [Act.put, List.setIfInBounds_toArray, List.set_cons_zero, List.set_cons_succ]
        refine wpAnyH_done (by kernel_rfl) ?_ _
        have hnn : ∀ W, (binOp .neq 35 .nilIface .nilIface).run Tryd.prog W = .ok (.bool false) W := fun W => by kernel_rfl
        have HBA : Hid (Below w.heap.size w wA) := hide (Below.step HB1.out HFA.out.below)
        clear HB2 HB3 HB4 HB5 HB6 hen
        go_wp2_with fail
        refine (rfirst_at given ns os.length xa oa xc oc _ (HXN.out _ HB7.out).1 (by omega)).mono ?_
        rintro e z8 ⟨⟨B, D, rfl, hBz, hown, hrd⟩, hb⟩
        have HB8 := hide (Below.step HB7.out hb)
        have HS8 := hide (HSA.out.below HB8.out)
        have HOW := hide hown
        have HRD := hide hrd
        have HBB : Hid (wA.heap.size ≤ B) := hide (Nat.le_trans HB7.out.size hBz)
        have HRP := hide (rightP_iff.1 hr)
        have HW8 : Hid (Below wr.heap.size wr z8) := hide (Below.step HWA.out HB8.out)
        have HZ8 : Hid (wA.heap.size ≤ z8.heap.size) := hide HB8.out.size
        clear hBz hown hrd hb HSA HB7 hr hnn HB8
        go_wp2_with fail
        obtain ⟨w5, hw5⟩ : ∃ w5, w5 = wr := ⟨_, rfl⟩
        rw [← hw5] at HS8 HQ5 HW8
        clear hw5
        go_loopw [9, 10, 11] (fun m i _ wx => ∃ (p : Nat) (held : List Bool) (B : Nat) (D : DataW Unit), p ≤ gs.length ∧ i = .int .i64 p ∧ m = .map (some B) ∧ Hid (SimAt sa wx w5.heap.size wA.heap.size ns os held) ∧ Hid (wx.ownsMap Tryd.prog 3 (plainElem Tryd.prog 4) B ns.length D) ∧ Hid (RegD ns held ns.length D) ∧ Hid (wA.heap.size ≤ B) ∧ Hid (Below w5.heap.size w5 wx) ∧ Hid (wA.heap.size ≤ wx.heap.size)) (fun _ i _ _ => gs.length - (intOf i).toNat)
        case atStart => exact ⟨0, first ns, B, D, Nat.zero_le _, rfl, rfl, HS8, HOW, HRD, HBB, HW8, HZ8⟩
        case round =>
          obtain ⟨p, held, B, D, hp, rfl, rfl, hsa, hown, hrd, hBB, hbw, hzz⟩ := hrel
          by_cases hlt : p < gs.length
          · have hpi : (p : Int) < (gs.length : Int) := by omega
            obtain ⟨⟨gb, goff, hga, hgc⟩, _⟩ := (HQ5.out wr hbw.out).2.2.1 p hlt
            have HGC : Hid (∀ W, Below w5.heap.size w5 W → W.cell? ⟨gb, goff + p, none⟩ = some (.slice (A p) (rowAt gs p).length (C p)) ∧ Lies AnyB W (A p) (bitsC (rowAt gs p))) := hide (by
              intro W hb
              obtain ⟨⟨gb', goff', hga', hgc'⟩, hrow'⟩ := (HQ5.out W hb).2.2.1 p hlt
              rw [hga] at hga'
              cases hga'
              exact ⟨hgc', hrow'⟩)
            subst hga
            generalize rowAt gs p = g at hgc HGC
            by_cases h11 : (1100 : Int) < (g.length : Int)
            · go_wp2_with fail
              go_ret
              exact ⟨rfl, (HQ5.out wr hbw.out).2.2.2⟩
            · have h12 : (g.length : Int) ≤ 1100 := by omega
              go_wp2_with fail
              have HSW2 : Hid (∀ W, Below w5.heap.size w5 W → W.cell? ⟨w.heap.size + 1, 0, none⟩ = some (.int .i64 given) ∧ W.cell? ⟨w.heap.size + 1, 1, none⟩ = some (.slice xa ns.length xc) ∧ W.cell? ⟨w.heap.size + 1, 2, none⟩ = some (.slice oa os.length oc) ∧ W.cell? ⟨gb, goff + p, none⟩ = some (.slice (A p) g.length (C p))) := hide fun W hb => ⟨(HQ5.out W hb).1.1, (HQ5.out W hb).1.2.1, (HQ5.out W hb).1.2.2, (HGC.out W hb).1⟩
              have HT1 : Hid (Below wr.heap.size wr wr.drew) := hide (Below.refl _ _).drew
              have HBY1 : Hid (Below w5.heap.size w5 wr.drew) := hide (Below.step hbw.out HT1.out)
              have HSA1 := hide (hsa.out.below HT1.out)
              have HOW1 : Hid (wr.drew.ownsMap Tryd.prog 3 (plainElem Tryd.prog 4) B ns.length D) := hide hown.out.drew
              have HZ1 : Hid (wA.heap.size ≤ wr.drew.heap.size) := hide (Nat.le_trans hzz.out HT1.out.size)
              clear hgc
              refine wp_region_held_drew (S := fun W => W.cell? ⟨w.heap.size + 1, 0, none⟩ = some (.int .i64 given) ∧ W.cell? ⟨w.heap.size + 1, 1, none⟩ = some (.slice xa ns.length xc) ∧ W.cell? ⟨w.heap.size + 1, 2, none⟩ = some (.slice oa os.length oc) ∧ W.cell? ⟨gb, goff + p, none⟩ = some (.slice (A p) g.length (C p))) (by kernel_rfl) (HSW2.out _ HBY1.out) (fun _ => ?_)
              generalize wr.drew = y1 at *
              refine wpAnyH_take (i := 0) (oi := ⟨some 103, _, _, _, _, _⟩) (v := (.agg #[.int .i64 given, .slice xa ns.length xc, .slice oa os.length oc])) rfl (by kernel_rfl) (by kernel_rfl) (by kernel_rfl) (fun _ _ _ h => h) (Or.inl ⟨by rfl, fun W hS => by (obtain ⟨s0, s1, s2, s3⟩ := hS; go_simp)⟩) (HSW2.out _ HBY1.out) ?_
              simp only [Act.put, List.setIfInBounds_toArray, List.set_cons_zero, List.set_cons_succ]
              refine wpAnyH_take (i := 1) (oi := ⟨some 104, _, _, _, _, _⟩) (v := (.map (some B))) rfl (by kernel_rfl) (by kernel_rfl) (by kernel_rfl) (fun _ _ _ h => h) (Or.inl ⟨by rfl, fun W hS => by (obtain ⟨s0, s1, s2, s3⟩ := hS; go_simp)⟩) (HSW2.out _ HBY1.out) ?_
              simp only [Act.put, List.setIfInBounds_toArray, List.set_cons_zero, List.set_cons_succ]
              refine wpAnyH_take (i := 2) (oi := ⟨some 105, _, _, _, _, _⟩) (v := (.slice (some ⟨gb, goff, none⟩) gs.length gc)) rfl (by kernel_rfl) (by kernel_rfl) (by kernel_rfl) (fun _ _ _ h => h) (Or.inl ⟨by rfl, fun W hS => by (obtain ⟨s0, s1, s2, s3⟩ := hS; go_simp)⟩) (HSW2.out _ HBY1.out) ?_
              simp only [Act.put, List.setIfInBounds_toArray, List.set_cons_zero, List.set_cons_succ]
              refine wpAnyH_take (i := 3) (oi := ⟨some 106, _, _, _, _, _⟩) (v := (.int .i64 p)) rfl (by kernel_rfl) (by kernel_rfl) (by kernel_rfl) (fun _ _ _ h => h) (Or.inl ⟨by rfl, fun W hS => by (obtain ⟨s0, s1, s2, s3⟩ := hS; go_simp)⟩) (HSW2.out _ HBY1.out) ?_
              simp only [Act.put, List.setIfInBounds_toArray, List.set_cons_zero, List.set_cons_succ]
              refine wpAnyH_take (i := 4) (oi := ⟨some 107, _, _, _, _, _⟩) (v := (.pointer (some ⟨gb, goff + p, none⟩))) rfl (by kernel_rfl) (by kernel_rfl) (by kernel_rfl) (fun _ _ _ h => h) (Or.inl ⟨by rfl, fun W hS => by (obtain ⟨s0, s1, s2, s3⟩ := hS; go_simp)⟩) (HSW2.out _ HBY1.out) ?_
              simp only [Act.put, List.setIfInBounds_toArray, List.set_cons_zero, List.set_cons_succ]
              refine wpAnyH_take (i := 5) (oi := ⟨some 108, _, _, _, _, _⟩) (v := (.slice (A p) g.length (C p))) rfl (by kernel_rfl) (by kernel_rfl) (by kernel_rfl) (fun _ _ _ h => h) (Or.inl ⟨by rfl, fun W hS => by (obtain ⟨s0, s1, s2, s3⟩ := hS; go_simp)⟩) (HSW2.out _ HBY1.out) ?_
              simp only [Act.put, List.setIfInBounds_toArray, List.set_cons_zero, List.set_cons_succ]
              refine wpAnyH_ready (rs := [6]) (by kernel_rfl) (by simp) ?_
              refine AllReadyH.cons rfl (fun K hK => ?_) AllReadyH.nil
              go_simp
              refine (rstep_at given ns os xa oa (A p) xc oc (C p) held g B D y1 (HQ5.out _ HBY1.out).2.1.1 (HQ5.out _ HBY1.out).2.1.2 (HGC.out _ HBY1.out).2 HRP.out h1 h2 (by omega) HOW1.out hrd.out HSA1.out.len).mono ?_
              rintro e y2 ⟨⟨ao, ac, B', D', rfl, hlo, hBn, hown2, hrd2⟩, hb⟩
              have HT2 := hide hb
              have HBY2 := hide (Below.step HBY1.out hb)
              have HSA2 := hide (HSA1.out.below hb)
              have HLO2 := hide hlo
              have HOW2 := hide hown2
              have HRD2 := hide hrd2
              have HBB2 : Hid (wA.heap.size ≤ B') := hide (Nat.le_trans HZ1.out hBn)
              have HZ2 : Hid (wA.heap.size ≤ y2.heap.size) := hide (Nat.le_trans HZ1.out hb.size)
              clear hlo hBn hown2 hrd2 hb
              refine hK.out _ _ (HSW2.out _ HBY2.out) (fun _ => ?_)
              clear hK K
              refine wpAnyH_take (i := 7) (oi := ⟨some 102, _, _, _, _, _⟩) (v := (.tuple #[.slice ao os.length ac, .map (some B')])) rfl (by kernel_rfl) (by kernel_rfl) (by kernel_rfl) (fun _ _ _ h => h) (Or.inl ⟨by rfl, fun W hS => by (obtain ⟨s0, s1, s2, s3⟩ := hS; go_simp)⟩) (HSW2.out _ HBY2.out) ?_
              simp only [Act.put, List.setIfInBounds_toArray, List.set_cons_zero, List.set_cons_succ]
              refine wpAnyH_take (i := 8) (oi := ⟨some 110, _, _, _, _, _⟩) (v := (.slice ao os.length ac)) rfl (by kernel_rfl) (by kernel_rfl) (by kernel_rfl) (fun _ _ _ h => h) (Or.inl ⟨by rfl, fun W hS => by (obtain ⟨s0, s1, s2, s3⟩ := hS; go_simp)⟩) (HSW2.out _ HBY2.out) ?_
              simp only [Act.put, List.setIfInBounds_toArray, List.set_cons_zero, List.set_cons_succ]
              refine wpAnyH_take (i := 9) (oi := ⟨some 111, _, _, _, _, _⟩) (v := (.map (some B'))) rfl (by kernel_rfl) (by kernel_rfl) (by kernel_rfl) (fun _ _ _ h => h) (Or.inl ⟨by rfl, fun W hS => by (obtain ⟨s0, s1, s2, s3⟩ := hS; go_simp)⟩) (HSW2.out _ HBY2.out) ?_
              simp only [Act.put, List.setIfInBounds_toArray, List.set_cons_zero, List.set_cons_succ]
              refine wpAnyH_take (i := 10) (oi := ⟨some 11, _, _, _, _, _⟩) (v := (.slice ao os.length ac)) rfl (by kernel_rfl) (by kernel_rfl) (by kernel_rfl) (fun _ _ _ h => h) (Or.inl ⟨by rfl, fun W hS => by (obtain ⟨s0, s1, s2, s3⟩ := hS; go_simp)⟩) (HSW2.out _ HBY2.out) ?_
              simp only [Act.put, List.setIfInBounds_toArray, List.set_cons_zero, List.set_cons_succ]
              refine wpAnyH_take (i := 11) (oi := ⟨some 9, _, _, _, _, _⟩) (v := (.map (some B'))) rfl (by kernel_rfl) (by kernel_rfl) (by kernel_rfl) (fun _ _ _ h => h) (Or.inl ⟨by rfl, fun W hS => by (obtain ⟨s0, s1, s2, s3⟩ := hS; go_simp)⟩) (HSW2.out _ HBY2.out) ?_
              simp only [Act.put, List.setIfInBounds_toArray, List.set_cons_zero, List.set_cons_succ]
              refine wpAnyH_done (by kernel_rfl) ?_ _
              have e2 : y2.cell? ⟨gb, goff + p, none⟩ = some (.slice (A p) g.length (C p)) := (HGC.out _ HBY2.out).1
              go_wp2_with fail
              refine (step_isD HSA2.out HRP.out g.length rfl (A p) (C p) (HGC.out _ HBY2.out).2 (by omega)).mono ?_
              rintro e y3 ⟨⟨O, rfl, hO, hro⟩, hsa3, hk⟩
              have hin := HSA2.out.hin
              have q1 := HZ1.out
              have q2 := HBB2.out
              have HLO3 := hide (HLO2.out.same fun b hS hl => hk.block b hl (by have h : y1.heap.size ≤ b := hS; omega))
              have HOW3 := hide (HOW2.out.kept (grown_kept hk) (fun e => by have := Option.some.inj e; omega))
              have HBY3 := hide (Below.keptOn HBY2.out hk hin.1 HBY2.out.size)
              have HRO3 := hide hro
              have HSA3 := hide hsa3
              have HZ3 : Hid (wA.heap.size ≤ y3.heap.size) := hide (Nat.le_trans HZ2.out hk.size)
              clear hO hro hsa3 hk hin q1 q2 e2
              go_wp2_with fail
              refine (same_is _ _ os.length os.length (outs_lenD _ _) (outs_lenD _ _) _ _ _ _ y3 (Lies.blk (S := AnyB) HRO3.out trivial) HLO3.out (by omega) rfl).mono ?_
              rintro e y4 ⟨rfl, hb⟩
              have HSA4 := hide (HSA3.out.below hb)
              have HOW4 := hide (HOW3.out.kept (grown_of hb) (by simp))
              have HBY4 := hide (Below.step HBY3.out hb)
              have HZ4 : Hid (wA.heap.size ≤ y4.heap.size) := hide (Nat.le_trans HZ3.out hb.size)
              clear hb
              go_wp2_with fail
              exact ⟨⟨p + 1, _, B', D', by omega, by go_num, rfl, HSA4, HOW4, HRD2, HBB2, HBY4, HZ4⟩, by simp [intOf]; omega⟩
          · go_wp2_with fail
            go_ret
            exact ⟨rfl, (HQ5.out wr hbw.out).2.2.2⟩
  · clear h4
    go_enter Tryd.func3, Tryd.ntmps3
    go_wp2_with fail
    generalize ((w.alloc (.cells #[.int .i64 given, .slice na ns.length nc, .slice oa os.length oc] 25)).alloc (.cells #[.int .i64 given, .slice none 0 0, .slice oa os.length oc] 29)) = w2 at *
    generalize (w.alloc (.cells #[.int .i64 given, .slice na ns.length nc, .slice oa os.length oc] 25)) = w1 at *
    go_loopw [6] (fun i wr => ∃ (q : Nat) (xa : Option Addr) (xc : Nat), q ≤ ns.length ∧ i = .int .i64 q ∧ Hid (RBld w1.heap.size w1 wr (w.heap.size + 1) given xa xc os.length oa oc (ns.take q))) (fun i _ => ns.length - (intOf i).toNat)
    case atStart => exact ⟨0, none, 0, Nat.zero_le _, rfl, HR1⟩
    case round =>
      obtain ⟨q, xa, xc, hq, rfl, hbl⟩ := hrel
      have c1 : wr.cell? ⟨w.heap.size, 1, none⟩ = some (.slice na ns.length nc) := (HN1.out.below hbl.out.below).c1
      by_cases hlt : q < ns.length
      · have hqi : (q : Int) < (ns.length : Int) := by omega
        obtain ⟨nb, noff, hna, _, _, m0, m1, m2, m3⟩ := (HN1.out.below hbl.out.below).nodes.nodes hlt
        simp only at hna
        subst hna
        have HLN : Hid ((ns.take q).length = q) := hide (by simp; omega)
        have HTN : Hid (ns.take (q + 1) = ns.take q ++ [ndAt ns q]) := hide (by rw [List.take_succ_eq_append_getElem hlt]; unfold ndAt; rw [List.getElem?_eq_getElem hlt]; rfl)
        have t1 : wr.cell? ⟨w.heap.size + 1, 1, none⟩ = some (.slice xa q xc) := by have := hbl.out.cells.2.1; rwa [HLN.out] at this
        go_wp2_with fail
        have HS : Hid (∀ W, Below w1.heap.size w1 W → W.cell? ⟨w.heap.size, 1, none⟩ = some (.slice (some ⟨nb, noff, none⟩) ns.length nc) ∧ W.cell? ⟨nb, noff + q * 4, none⟩ = some (.int .i64 (ndAt ns q).op) ∧ W.cell? ⟨nb, noff + q * 4 + 1, none⟩ = some (.int .i64 (ndAt ns q).a) ∧ W.cell? ⟨nb, noff + q * 4 + 2, none⟩ = some (.int .i64 (ndAt ns q).b) ∧ W.cell? ⟨nb, noff + q * 4 + 3, none⟩ = some (.int .i64 (ndAt ns q).next)) := hide fun W hb => ⟨(HN1.out.below hb).c1, by
          obtain ⟨b', o', e1, _, _, k0, k1, k2, k3⟩ := (HN1.out.below hb).nodes.nodes hlt
          cases e1
          exact ⟨k0, k1, k2, k3⟩⟩
        have HBd : Hid (Below wr.heap.size wr wr.drew) := hide (Below.refl _ _).drew
        have t1d : wr.drew.cell? ⟨w.heap.size + 1, 1, none⟩ = some (.slice xa q xc) := t1
        have hbd := hide (hbl.out.more HBd.out)
        clear t1 c1 m0 m1 m2 m3 hbl
        refine wp_region_held_drew (S := fun W => W.cell? ⟨w.heap.size, 1, none⟩ = some (.slice (some ⟨nb, noff, none⟩) ns.length nc) ∧ W.cell? ⟨nb, noff + q * 4, none⟩ = some (.int .i64 (ndAt ns q).op) ∧ W.cell? ⟨nb, noff + q * 4 + 1, none⟩ = some (.int .i64 (ndAt ns q).a) ∧ W.cell? ⟨nb, noff + q * 4 + 2, none⟩ = some (.int .i64 (ndAt ns q).b) ∧ W.cell? ⟨nb, noff + q * 4 + 3, none⟩ = some (.int .i64 (ndAt ns q).next)) (by kernel_rfl) (HS.out _ hbd.out.below) (fun _ => ?_)
        generalize wr.drew = x1 at *
        generalize ndAt ns q = x at *
        obtain ⟨op, a, bb, nx⟩ := x
        simp only at HS
        refine wpAnyH_take (i := 0) (oi := ⟨some 49, _, _, _, _, _⟩) (v := (.pointer (some ⟨w.heap.size + 1, 1, none⟩))) rfl (by kernel_rfl) (by kernel_rfl) (by kernel_rfl) (fun _ _ _ h => h) (Or.inl ⟨by rfl, fun W hS => by (obtain ⟨s0, s1, s2, s3, s4⟩ := hS; go_simp)⟩) (HS.out _ hbd.out.below) ?_
        simp only [Act.put, List.setIfInBounds_toArray, List.set_cons_zero, List.set_cons_succ]
        refine wpAnyH_take (i := 2) (oi := ⟨some 51, _, _, _, _, _⟩) (v := (.pointer (some ⟨w.heap.size, 1, none⟩))) rfl (by kernel_rfl) (by kernel_rfl) (by kernel_rfl) (fun _ _ _ h => h) (Or.inl ⟨by rfl, fun W hS => by (obtain ⟨s0, s1, s2, s3, s4⟩ := hS; go_simp)⟩) (HS.out _ hbd.out.below) ?_
        simp only [Act.put, List.setIfInBounds_toArray, List.set_cons_zero, List.set_cons_succ]
        refine wpAnyH_take (i := 3) (oi := ⟨some 52, _, _, _, _, _⟩) (v := (.slice (some ⟨nb, noff, none⟩) ns.length nc)) rfl (by kernel_rfl) (by kernel_rfl) (by kernel_rfl) (fun _ _ _ h => h) (Or.inl ⟨by rfl, fun W hS => by (obtain ⟨s0, s1, s2, s3, s4⟩ := hS; go_simp)⟩) (HS.out _ hbd.out.below) ?_
        simp only [Act.put, List.setIfInBounds_toArray, List.set_cons_zero, List.set_cons_succ]
        refine wpAnyH_take (i := 4) (oi := ⟨some 53, _, _, _, _, _⟩) (v := (.int .i64 q)) rfl (by kernel_rfl) (by kernel_rfl) (by kernel_rfl) (fun _ _ _ h => h) (Or.inl ⟨by rfl, fun W hS => by (obtain ⟨s0, s1, s2, s3, s4⟩ := hS; go_simp)⟩) (HS.out _ hbd.out.below) ?_
        simp only [Act.put, List.setIfInBounds_toArray, List.set_cons_zero, List.set_cons_succ]
        refine wpAnyH_take (i := 5) (oi := ⟨some 54, _, _, _, _, _⟩) (v := (.pointer (some ⟨nb, noff + q * 4, none⟩))) rfl (by kernel_rfl) (by kernel_rfl) (by kernel_rfl) (fun _ _ _ h => h) (Or.inl ⟨by rfl, fun W hS => by (obtain ⟨s0, s1, s2, s3, s4⟩ := hS; go_simp)⟩) (HS.out _ hbd.out.below) ?_
        simp only [Act.put, List.setIfInBounds_toArray, List.set_cons_zero, List.set_cons_succ]
        refine wpAnyH_take (i := 6) (oi := ⟨some 55, _, _, _, _, _⟩) (v := (.agg #[.int .i64 op, .int .i64 a, .int .i64 bb, .int .i64 nx])) rfl (by kernel_rfl) (by kernel_rfl) (by kernel_rfl) (fun _ _ _ h => h) (Or.inl ⟨by rfl, fun W hS => by (obtain ⟨s0, s1, s2, s3, s4⟩ := hS; go_simp)⟩) (HS.out _ hbd.out.below) ?_
        simp only [Act.put, List.setIfInBounds_toArray, List.set_cons_zero, List.set_cons_succ]
        have HTx2 : Hid (Below x1.heap.size x1 (x1.alloc (.cells #[.int .i64 op, .int .i64 a, .int .i64 bb, .int .i64 nx] 31))) := hide (below_alloc _ _)
        have HEx2 := hide (blk_new x1 (.cells #[.int .i64 op, .int .i64 a, .int .i64 bb, .int .i64 nx] 31))
        have hb2 := hide (hbd.out.more HTx2.out)
        have t1a := fun o => cell_alloc t1d o
        obtain ⟨xa3, xc3, x3, happ, hm, hg, hnb⟩ := app_rn (c := 1) (n' := q + 1) hb2.out.nodes rfl (new := [⟨op, a, bb, nx⟩]) (m := 1) rfl (by rw [HLN.out]) (Lies.blk (cs := ndsC [⟨op, a, bb, nx⟩]) HEx2.out trivial) hb2.out.hB (by omega)
        rw [HLN.out] at happ
        have HM3 := hide hm
        have HG3 := hide hg
        have HNB := hide hnb
        clear hm hg hnb
        obtain ⟨k1, kf⟩ := hb2.out.s1 HG3.out
        rw [HLN.out] at k1
        have hb4 := hide (hb2.out.addN (n' := q + 1) (new := [⟨op, a, bb, nx⟩]) (by rw [List.length_append, HLN.out]; rfl) HM3.out HG3.out HNB.out)
        have HB3 : Hid (Below w1.heap.size w1 x3) := hide (Below.grownOn hb2.out.below HG3.out (fun b hb => hb2.out.nodes.new b hb) hb2.out.hB)
        clear HM3 HG3 HNB
        refine wpAnyH_ready (rs := [1, 7]) (by kernel_rfl) (by simp) ?_
        refine AllReadyH.cons rfl (fun K hK => ?_) (AllReadyH.cons rfl (fun K hK => ?_) AllReadyH.nil)
        · go_simp
          refine hK.out _ _ (HS.out _ hbd.out.below) (fun _ => ?_)
          clear hK K
          refine wpAnyH_ready (rs := [7]) (by kernel_rfl) (by simp) ?_
          refine AllReadyH.cons rfl (fun K hK => ?_) AllReadyH.nil
          go_simp
          refine hK.out _ _ (HS.out _ hb2.out.below) (fun _ => ?_)
          clear hK K
          refine wpAnyH_ready (rs := [8]) (by kernel_rfl) (by simp) ?_
          refine AllReadyH.cons rfl (fun K hK => ?_) AllReadyH.nil
          refine (if_pos (by kernel_rfl)).mpr ?_
          refine wp_append_run happ _ _ rfl rfl rfl ?_
          simp only [Act.put, List.getElem_toArray, List.getElem_cons_succ, List.getElem_cons_zero, List.setIfInBounds_toArray, List.set_cons_zero, List.set_cons_succ]
          refine hK.out _ _ (HS.out _ HB3.out) (fun _ => ?_)
          clear hK K
          clear happ
          refine wpAnyH_take (i := 9) (oi := ⟨some 58, _, _, _, _, _⟩) (v := (.pointer (some ⟨w.heap.size + 1, 1, none⟩))) rfl (by kernel_rfl) (by kernel_rfl) (by kernel_rfl) (fun _ _ _ h => h) (Or.inl ⟨by rfl, fun W hS => by (obtain ⟨s0, s1, s2, s3, s4⟩ := hS; go_simp)⟩) (HS.out _ HB3.out) ?_
          simp only [Act.put, List.setIfInBounds_toArray, List.set_cons_zero, List.set_cons_succ]
          refine wpAnyH_ready (rs := [10]) (by kernel_rfl) (by simp) ?_
          refine AllReadyH.cons rfl (fun K hK => ?_) AllReadyH.nil
          go_simp
          refine hK.out _ _ (HS.out _ hb4.out.below) (fun _ => ?_)
          clear hK K
          refine wpAnyH_done (by kernel_rfl) ?_ _
          go_wp2_with fail
          exact ⟨⟨q + 1, _, _, by omega, by go_num, hide (by rw [HTN.out]; exact hb4.out)⟩, by simp [intOf]; omega⟩
        · go_simp
          refine hK.out _ _ (HS.out _ hb2.out.below) (fun _ => ?_)
          clear hK K
          refine wpAnyH_ready (rs := [1]) (by kernel_rfl) (by simp) ?_
          refine AllReadyH.cons rfl (fun K hK => ?_) AllReadyH.nil
          go_simp
          refine hK.out _ _ (HS.out _ hb2.out.below) (fun _ => ?_)
          clear hK K
          refine wpAnyH_ready (rs := [8]) (by kernel_rfl) (by simp) ?_
          refine AllReadyH.cons rfl (fun K hK => ?_) AllReadyH.nil
          refine (if_pos (by kernel_rfl)).mpr ?_
          refine wp_append_run happ _ _ rfl rfl rfl ?_
          simp only [Act.put, List.getElem_toArray, List.getElem_cons_succ, List.getElem_cons_zero, List.setIfInBounds_toArray, List.set_cons_zero, List.set_cons_succ]
          refine hK.out _ _ (HS.out _ HB3.out) (fun _ => ?_)
          clear hK K
          clear happ
          refine wpAnyH_take (i := 9) (oi := ⟨some 58, _, _, _, _, _⟩) (v := (.pointer (some ⟨w.heap.size + 1, 1, none⟩))) rfl (by kernel_rfl) (by kernel_rfl) (by kernel_rfl) (fun _ _ _ h => h) (Or.inl ⟨by rfl, fun W hS => by (obtain ⟨s0, s1, s2, s3, s4⟩ := hS; go_simp)⟩) (HS.out _ HB3.out) ?_
          simp only [Act.put, List.setIfInBounds_toArray, List.set_cons_zero, List.set_cons_succ]
          refine wpAnyH_ready (rs := [10]) (by kernel_rfl) (by simp) ?_
          refine AllReadyH.cons rfl (fun K hK => ?_) AllReadyH.nil
          go_simp
          refine hK.out _ _ (HS.out _ hb4.out.below) (fun _ => ?_)
          clear hK K
          refine wpAnyH_done (by kernel_rfl) ?_ _
          go_wp2_with fail
          exact ⟨⟨q + 1, _, _, by omega, by go_num, hide (by rw [HTN.out]; exact hb4.out)⟩, by simp [intOf]; omega⟩
      · have HQ : q = ns.length := by omega
        subst HQ
        have HBF : Hid (RBld w1.heap.size w1 wr (w.heap.size + 1) given xa xc os.length oa oc ns) := hide (by have := hbl.out; rwa [List.take_length] at this)
        have HNr := hide (HN1.out.below hbl.out.below)
        clear hbl
        go_wp2_with fail
        refine (new_at HNr.out (rightP_iff.1 hr)).mono ?_
        rintro e wA ⟨⟨sa, rfl, hsa⟩, hb⟩
        have HSA := hide hsa
        have HFA := hide (HBF.out.more hb)
        have HWA := hide hb
        have HLO : Hid (wr.heap.size ≤ wA.heap.size) := hide hb.size
        have HZ0 : Hid (w1.heap.size ≤ wr.heap.size) := hide HBF.out.hB
        have HQ5 : Hid (∀ W, Below wr.heap.size wr W → (W.cell? ⟨w.heap.size + 1, 0, none⟩ = some (.int .i64 given) ∧ W.cell? ⟨w.heap.size + 1, 1, none⟩ = some (.slice xa ns.length xc) ∧ W.cell? ⟨w.heap.size + 1, 2, none⟩ = some (.slice oa os.length oc)) ∧ (Lies AnyB W xa (ndsC ns) ∧ Lies AnyB W oa (intsC os)) ∧ Grid W ga A C gs ∧ Below w.heap.size w W) := hide fun W hb => ⟨(HBF.out.more hb).cells, ⟨(HBF.out.more hb).nodes.lies fun _ _ => trivial, (HN1.out.below (HBF.out.more hb).below).outs⟩, HGR.out.below (Below.step HB1.out (HBF.out.more hb).below), Below.step HB1.out (HBF.out.more hb).below⟩
        clear hb HBF HNr c1
        go_wp2_with fail
        have HSW : Hid (∀ W, Below wA.heap.size wA W → W.cell? ⟨w.heap.size + 1, 0, none⟩ = some (.int .i64 given) ∧ W.cell? ⟨w.heap.size + 1, 1, none⟩ = some (.slice xa ns.length xc) ∧ W.cell? ⟨w.heap.size + 1, 2, none⟩ = some (.slice oa os.length oc)) := hide fun W hb => (HFA.out.more hb).cells
        have HNN : Hid (∀ W, Below wA.heap.size wA W → NetAt ⟨w.heap.size, na, nc, oa, oc⟩ AnyB W given ns os) := hide fun W hb => HN1.out.below (HFA.out.more hb).below
        have HXN : Hid (∀ W, Below wA.heap.size wA W → Lies AnyB W xa (ndsC ns) ∧ Lies AnyB W oa (intsC os)) := hide fun W hb => ⟨(HFA.out.more hb).nodes.lies fun _ _ => trivial, (HNN.out W hb).outs⟩
        have HB2 : Hid (Below wA.heap.size wA wA.drew) := hide (Below.refl _ _).drew
        refine wp_region_held_drew (S := fun W => W.cell? ⟨w.heap.size + 1, 0, none⟩ = some (.int .i64 given) ∧ W.cell? ⟨w.heap.size + 1, 1, none⟩ = some (.slice xa ns.length xc) ∧ W.cell? ⟨w.heap.size + 1, 2, none⟩ = some (.slice oa os.length oc)) (by kernel_rfl) (HSW.out _ HB2.out) (fun _ => ?_)
        generalize wA.drew = z2 at *
        refine wpAnyH_take (i := 1) (oi := ⟨some 64, _, _, _, _, _⟩) (v := (.agg #[.int .i64 given, .slice xa ns.length xc, .slice oa os.length oc])) rfl (by kernel_rfl) (by kernel_rfl) (by kernel_rfl) (fun _ _ _ h => h) (Or.inl ⟨by rfl, fun W hS => by (obtain ⟨s0, s1, s2⟩ := hS; go_simp)⟩) (HSW.out _ HB2.out) ?_
        simp only [Act.put, List.setIfInBounds_toArray, List.set_cons_zero, List.set_cons_succ]
        refine wpAnyH_ready (rs := [0]) (by kernel_rfl) (by simp) ?_
        refine AllReadyH.cons rfl (fun K hK => ?_) AllReadyH.nil
        go_simp
        refine (Right_at (HNN.out _ HB2.out) (by omega) (by omega)).mono ?_
        rintro e z3 ⟨rfl, hb⟩
        rw [hr]
        have HB3 := hide (Below.step HB2.out hb)
        clear hb
        refine hK.out _ _ (HSW.out _ HB3.out) (fun _ => ?_)
        clear hK K
        refine wpAnyH_ready (rs := [2]) (by kernel_rfl) (by simp) ?_
        refine AllReadyH.cons rfl (fun K hK => ?_) AllReadyH.nil
        go_simp
        refine (rright_at given ns os xa oa xc oc z3 (HXN.out _ HB3.out).1 (HXN.out _ HB3.out).2 (by omega) (by omega)).mono ?_
        rintro e z4 ⟨rfl, hb⟩
        rw [hr]
        have HB4 := hide (Below.step HB3.out hb)
        clear hb
        refine hK.out _ _ (HSW.out _ HB4.out) (fun _ => ?_)
        clear hK K
        refine wpAnyH_take (i := 3) (oi := ⟨some 66, _, _, _, _, _⟩) (v := (.bool false)) rfl (by kernel_rfl) (by kernel_rfl) (by kernel_rfl) (fun _ _ _ h => h) (Or.inl ⟨by rfl, fun W hS => by (obtain ⟨s0, s1, s2⟩ := hS; go_simp)⟩) (HSW.out _ HB4.out) ?_
        simp only [Act.put, List.setIfInBounds_toArray, List.set_cons_zero, List.set_cons_succ]
        refine wpAnyH_take (i := 4) (oi := ⟨some 67, _, _, _, _, _⟩) (v := (.bool false)) rfl (by kernel_rfl) (by kernel_rfl) (by kernel_rfl) (fun _ _ _ h => h) (Or.inl ⟨by rfl, fun W hS => by (obtain ⟨s0, s1, s2⟩ := hS; go_simp)⟩) (HSW.out _ HB4.out) ?_
        simp only [Act.put, List.setIfInBounds_toArray, List.set_cons_zero, List.set_cons_succ]
        refine wpAnyH_take (i := 6) (oi := ⟨some 69, _, _, _, _, _⟩) (v := (.agg #[.int .i64 given, .slice xa ns.length xc, .slice oa os.length oc])) rfl (by kernel_rfl) (by kernel_rfl) (by kernel_rfl) (fun _ _ _ h => h) (Or.inl ⟨by rfl, fun W hS => by (obtain ⟨s0, s1, s2⟩ := hS; go_simp)⟩) (HSW.out _ HB4.out) ?_
        simp only [Act.put, List.setIfInBounds_toArray, List.set_cons_zero, List.set_cons_succ]
        refine wpAnyH_ready (rs := [5]) (by kernel_rfl) (by simp) ?_
        refine AllReadyH.cons rfl (fun K hK => ?_) AllReadyH.nil
        go_simp
        refine (Gates_at (HNN.out _ HB4.out) (by omega)).mono ?_
        rintro e z5 ⟨rfl, hb⟩
        have HB5 := hide (Below.step HB4.out hb)
        clear hb
        refine hK.out _ _ (HSW.out _ HB5.out) (fun _ => ?_)
        clear hK K
        refine wpAnyH_ready (rs := [7]) (by kernel_rfl) (by simp) ?_
        refine AllReadyH.cons rfl (fun K hK => ?_) AllReadyH.nil
        go_simp
        refine (rgates_at given ns os.length xa oa xc oc z5 (HXN.out _ HB5.out).1 (by omega)).mono ?_
        rintro e z6 ⟨rfl, hb⟩
        have HB6 := hide (Below.step HB5.out hb)
        clear hb
        refine hK.out _ _ (HSW.out _ HB6.out) (fun _ => ?_)
        clear hK K
        refine wpAnyH_take (i := 8) (oi := ⟨some 71, _, _, _, _, _⟩) (v := (.bool false)) rfl (by kernel_rfl) (by kernel_rfl) (by kernel_rfl) (fun _ _ _ h => h) (Or.inl ⟨by rfl, fun W hS => by (obtain ⟨s0, s1, s2⟩ := hS; go_simp)⟩) (HSW.out _ HB6.out) ?_
        simp only [Act.put, List.setIfInBounds_toArray, List.set_cons_zero, List.set_cons_succ]
        refine wpAnyH_take (i := 9) (oi := ⟨some 72, _, _, _, _, _⟩) (v := (.bool false)) rfl (by kernel_rfl) (by kernel_rfl) (by kernel_rfl) (fun _ _ _ h => h) (Or.inl ⟨by rfl, fun W hS => by (obtain ⟨s0, s1, s2⟩ := hS; go_simp)⟩) (HSW.out _ HB6.out) ?_
        simp only [Act.put, List.setIfInBounds_toArray, List.set_cons_zero, List.set_cons_succ]
        refine wpAnyH_take (i := 10) (oi := ⟨some 73, _, _, _, _, _⟩) (v := (.bool false)) rfl (by kernel_rfl) (by kernel_rfl) (by kernel_rfl) (fun _ _ _ h => h) (Or.inl ⟨by rfl, fun W hS => by (obtain ⟨s0, s1, s2⟩ := hS; go_simp)⟩) (HSW.out _ HB6.out) ?_
        simp only [Act.put, List.setIfInBounds_toArray, List.set_cons_zero, List.set_cons_succ]
        refine wpAnyH_take (i := 11) (oi := ⟨some 74, _, _, _, _, _⟩) (v := .nilIface) rfl (by kernel_rfl) (by kernel_rfl) (by kernel_rfl) (fun _ _ _ h => h) (Or.inl ⟨by rfl, fun W hS => by (obtain ⟨s0, s1, s2⟩ := hS; go_simp)⟩) (HSW.out _ HB6.out) ?_
        simp only [Act.put, List.setIfInBounds_toArray, List.set_cons_zero, List.set_cons_succ]
        have hen : ∀ W, (binOp .eql 35 .nilIface .nilIface).run Tryd.prog W = .ok (.bool true) W := fun W => by kernel_rfl
        refine wpAnyH_take (i := 12) (oi := ⟨some 75, _, _, _, _, _⟩) (v := (.bool true)) rfl (by kernel_rfl) (by kernel_rfl) (by kernel_rfl) (fun _ _ _ h => h) (Or.inl ⟨by rfl, fun W hS => by (obtain ⟨s0, s1, s2⟩ := hS; go_simp)⟩) (HSW.out _ HB6.out) ?_
        simp only [Act.put, List.setIfInBounds_toArray, List.set_cons_zero, List.set_cons_succ]
        refine wpAnyH_take (i := 13) (oi := ⟨some 76, _, _, _, _, _⟩) (v := (.agg #[.int .i64 given, .slice xa ns.length xc, .slice oa os.length oc])) rfl (by kernel_rfl) (by kernel_rfl) (by kernel_rfl) (fun _ _ _ h => h) (Or.inl ⟨by rfl, fun W hS => by (obtain ⟨s0, s1, s2⟩ := hS; go_simp)⟩) (HSW.out _ HB6.out) ?_
        simp only [Act.put, List.setIfInBounds_toArray, List.set_cons_zero, List.set_cons_succ]
        refine wpAnyH_ready (rs := [14]) (by kernel_rfl) (by simp) ?_
        refine AllReadyH.cons rfl (fun K hK => ?_) AllReadyH.nil
        go_simp
        refine (rright_at given ns os xa oa xc oc z6 (HXN.out _ HB6.out).1 (HXN.out _ HB6.out).2 (by omega) (by omega)).mono ?_
        rintro e z7 ⟨rfl, hb⟩
        rw [hr]
        have HB7 := hide (Below.step HB6.out hb)
        clear hb
        refine hK.out _ _ (HSW.out _ HB7.out) (fun _ => ?_)
        clear hK K
        refine wpAnyH_take (i := 15) (oi := ⟨some 78, _, _, _, _, _⟩) (v := (.bool false)) rfl (by kernel_rfl) (by kernel_rfl) (by kernel_rfl) (fun _ _ _ h => h) (Or.inl ⟨by rfl, fun W hS => by (obtain ⟨s0, s1, s2⟩ := hS; go_simp)⟩) (HSW.out _ HB7.out) ?_
        simp only [Act.put, List.setIfInBounds_toArray, List.set_cons_zero, List.set_cons_succ]
        refine wpAnyH_take (i := 16) (oi := ⟨some 79, _, _, _, _, _⟩) (v := (.bool false)) rfl (by kernel_rfl) (by kernel_rfl) (by kernel_rfl) (fun _ _ _ h => h) (Or.inl ⟨by rfl, fun W hS => by (obtain ⟨s0, s1, s2⟩ := hS; go_simp)⟩) (HSW.out _ HB7.out) ?_
        simp only [Act.put, List.setIfInBounds_toArray, List.set_cons_zero, List.set_cons_succ]
        refine wpAnyH_done (by kernel_rfl) ?_ _
        have hnn : ∀ W, (binOp .neq 35 .nilIface .nilIface).run Tryd.prog W = .ok (.bool false) W := fun W => by kernel_rfl
        have HBA : Hid (Below w.heap.size w wA) := hide (Below.step HB1.out HFA.out.below)
        clear HB2 HB3 HB4 HB5 HB6 hen
        go_wp2_with fail
        refine (rfirst_at given ns os.length xa oa xc oc _ (HXN.out _ HB7.out).1 (by omega)).mono ?_
        rintro e z8 ⟨⟨B, D, rfl, hBz, hown, hrd⟩, hb⟩
        have HB8 := hide (Below.step HB7.out hb)
        have HS8 := hide (HSA.out.below HB8.out)
        have HOW := hide hown
        have HRD := hide hrd
        have HBB : Hid (wA.heap.size ≤ B) := hide (Nat.le_trans HB7.out.size hBz)
        have HRP := hide (rightP_iff.1 hr)
        have HW8 : Hid (Below wr.heap.size wr z8) := hide (Below.step HWA.out HB8.out)
        have HZ8 : Hid (wA.heap.size ≤ z8.heap.size) := hide HB8.out.size
        clear hBz hown hrd hb HSA HB7 hr hnn HB8
        go_wp2_with fail
        obtain ⟨w5, hw5⟩ : ∃ w5, w5 = wr := ⟨_, rfl⟩
        rw [← hw5] at HS8 HQ5 HW8
        clear hw5
        go_loopw [9, 10, 11] (fun m i _ wx => ∃ (p : Nat) (held : List Bool) (B : Nat) (D : DataW Unit), p ≤ gs.length ∧ i = .int .i64 p ∧ m = .map (some B) ∧ Hid (SimAt sa wx w5.heap.size wA.heap.size ns os held) ∧ Hid (wx.ownsMap Tryd.prog 3 (plainElem Tryd.prog 4) B ns.length D) ∧ Hid (RegD ns held ns.length D) ∧ Hid (wA.heap.size ≤ B) ∧ Hid (Below w5.heap.size w5 wx) ∧ Hid (wA.heap.size ≤ wx.heap.size)) (fun _ i _ _ => gs.length - (intOf i).toNat)
        case atStart => exact ⟨0, first ns, B, D, Nat.zero_le _, rfl, rfl, HS8, HOW, HRD, HBB, HW8, HZ8⟩
        case round =>
          obtain ⟨p, held, B, D, hp, rfl, rfl, hsa, hown, hrd, hBB, hbw, hzz⟩ := hrel
          by_cases hlt : p < gs.length
          · have hpi : (p : Int) < (gs.length : Int) := by omega
            obtain ⟨⟨gb, goff, hga, hgc⟩, _⟩ := (HQ5.out wr hbw.out).2.2.1 p hlt
            have HGC : Hid (∀ W, Below w5.heap.size w5 W → W.cell? ⟨gb, goff + p, none⟩ = some (.slice (A p) (rowAt gs p).length (C p)) ∧ Lies AnyB W (A p) (bitsC (rowAt gs p))) := hide (by
              intro W hb
              obtain ⟨⟨gb', goff', hga', hgc'⟩, hrow'⟩ := (HQ5.out W hb).2.2.1 p hlt
              rw [hga] at hga'
              cases hga'
              exact ⟨hgc', hrow'⟩)
            subst hga
            generalize rowAt gs p = g at hgc HGC
            by_cases h11 : (1100 : Int) < (g.length : Int)
            · go_wp2_with fail
              go_ret
              exact ⟨rfl, (HQ5.out wr hbw.out).2.2.2⟩
            · have h12 : (g.length : Int) ≤ 1100 := by omega
              go_wp2_with fail
              have HSW2 : Hid (∀ W, Below w5.heap.size w5 W → W.cell? ⟨w.heap.size + 1, 0, none⟩ = some (.int .i64 given) ∧ W.cell? ⟨w.heap.size + 1, 1, none⟩ = some (.slice xa ns.length xc) ∧ W.cell? ⟨w.heap.size + 1, 2, none⟩ = some (.slice oa os.length oc) ∧ W.cell? ⟨gb, goff + p, none⟩ = some (.slice (A p) g.length (C p))) := hide fun W hb => ⟨(HQ5.out W hb).1.1, (HQ5.out W hb).1.2.1, (HQ5.out W hb).1.2.2, (HGC.out W hb).1⟩
              have HT1 : Hid (Below wr.heap.size wr wr.drew) := hide (Below.refl _ _).drew
              have HBY1 : Hid (Below w5.heap.size w5 wr.drew) := hide (Below.step hbw.out HT1.out)
              have HSA1 := hide (hsa.out.below HT1.out)
              have HOW1 : Hid (wr.drew.ownsMap Tryd.prog 3 (plainElem Tryd.prog 4) B ns.length D) := hide hown.out.drew
              have HZ1 : Hid (wA.heap.size ≤ wr.drew.heap.size) := hide (Nat.le_trans hzz.out HT1.out.size)
              clear hgc
              refine wp_region_held_drew (S := fun W => W.cell? ⟨w.heap.size + 1, 0, none⟩ = some (.int .i64 given) ∧ W.cell? ⟨w.heap.size + 1, 1, none⟩ = some (.slice xa ns.length xc) ∧ W.cell? ⟨w.heap.size + 1, 2, none⟩ = some (.slice oa os.length oc) ∧ W.cell? ⟨gb, goff + p, none⟩ = some (.slice (A p) g.length (C p))) (by kernel_rfl) (HSW2.out _ HBY1.out) (fun _ => ?_)
              generalize wr.drew = y1 at *
              refine wpAnyH_take (i := 0) (oi := ⟨some 103, _, _, _, _, _⟩) (v := (.agg #[.int .i64 given, .slice xa ns.length xc, .slice oa os.length oc])) rfl (by kernel_rfl) (by kernel_rfl) (by kernel_rfl) (fun _ _ _ h => h) (Or.inl ⟨by rfl, fun W hS => by (obtain ⟨s0, s1, s2, s3⟩ := hS; go_simp)⟩) (HSW2.out _ HBY1.out) ?_
              simp only [Act.put, List.setIfInBounds_toArray, List.set_cons_zero, List.set_cons_succ]
              refine wpAnyH_take (i := 1) (oi := ⟨some 104, _, _, _, _, _⟩) (v := (.map (some B))) rfl (by kernel_rfl) (by kernel_rfl) (by kernel_rfl) (fun _ _ _ h => h) (Or.inl ⟨by rfl, fun W hS => by (obtain ⟨s0, s1, s2, s3⟩ := hS; go_simp)⟩) (HSW2.out _ HBY1.out) ?_
              simp only [Act.put, List.setIfInBounds_toArray, List.set_cons_zero, List.set_cons_succ]
              refine wpAnyH_take (i := 2) (oi := ⟨some 105, _, _, _, _, _⟩) (v := (.slice (some ⟨gb, goff, none⟩) gs.length gc)) rfl (by kernel_rfl) (by kernel_rfl) (by kernel_rfl) (fun _ _ _ h => h) (Or.inl ⟨by rfl, fun W hS => by (obtain ⟨s0, s1, s2, s3⟩ := hS; go_simp)⟩) (HSW2.out _ HBY1.out) ?_
              simp only [Act.put, List.setIfInBounds_toArray, List.set_cons_zero, List.set_cons_succ]
              refine wpAnyH_take (i := 3) (oi := ⟨some 106, _, _, _, _, _⟩) (v := (.int .i64 p)) rfl (by kernel_rfl) (by kernel_rfl) (by kernel_rfl) (fun _ _ _ h => h) (Or.inl ⟨by rfl, fun W hS => by (obtain ⟨s0, s1, s2, s3⟩ := hS; go_simp)⟩) (HSW2.out _ HBY1.out) ?_
              simp only [Act.put, List.setIfInBounds_toArray, List.set_cons_zero, List.set_cons_succ]
              refine wpAnyH_take (i := 4) (oi := ⟨some 107, _, _, _, _, _⟩) (v := (.pointer (some ⟨gb, goff + p, none⟩))) rfl (by kernel_rfl) (by kernel_rfl) (by kernel_rfl) (fun _ _ _ h => h) (Or.inl ⟨by rfl, fun W hS => by (obtain ⟨s0, s1, s2, s3⟩ := hS; go_simp)⟩) (HSW2.out _ HBY1.out) ?_
              simp only [Act.put, List.setIfInBounds_toArray, List.set_cons_zero, List.set_cons_succ]
              refine wpAnyH_take (i := 5) (oi := ⟨some 108, _, _, _, _, _⟩) (v := (.slice (A p) g.length (C p))) rfl (by kernel_rfl) (by kernel_rfl) (by kernel_rfl) (fun _ _ _ h => h) (Or.inl ⟨by rfl, fun W hS => by (obtain ⟨s0, s1, s2, s3⟩ := hS; go_simp)⟩) (HSW2.out _ HBY1.out) ?_
              simp only [Act.put, List.setIfInBounds_toArray, List.set_cons_zero, List.set_cons_succ]
              refine wpAnyH_ready (rs := [6]) (by kernel_rfl) (by simp) ?_
              refine AllReadyH.cons rfl (fun K hK => ?_) AllReadyH.nil
              go_simp
              refine (rstep_at given ns os xa oa (A p) xc oc (C p) held g B D y1 (HQ5.out _ HBY1.out).2.1.1 (HQ5.out _ HBY1.out).2.1.2 (HGC.out _ HBY1.out).2 HRP.out h1 h2 (by omega) HOW1.out hrd.out HSA1.out.len).mono ?_
              rintro e y2 ⟨⟨ao, ac, B', D', rfl, hlo, hBn, hown2, hrd2⟩, hb⟩
              have HT2 := hide hb
              have HBY2 := hide (Below.step HBY1.out hb)
              have HSA2 := hide (HSA1.out.below hb)
              have HLO2 := hide hlo
              have HOW2 := hide hown2
              have HRD2 := hide hrd2
              have HBB2 : Hid (wA.heap.size ≤ B') := hide (Nat.le_trans HZ1.out hBn)
              have HZ2 : Hid (wA.heap.size ≤ y2.heap.size) := hide (Nat.le_trans HZ1.out hb.size)
              clear hlo hBn hown2 hrd2 hb
              refine hK.out _ _ (HSW2.out _ HBY2.out) (fun _ => ?_)
              clear hK K
              refine wpAnyH_take (i := 7) (oi := ⟨some 102, _, _, _, _, _⟩) (v := (.tuple #[.slice ao os.length ac, .map (some B')])) rfl (by kernel_rfl) (by kernel_rfl) (by kernel_rfl) (fun _ _ _ h => h) (Or.inl ⟨by rfl, fun W hS => by (obtain ⟨s0, s1, s2, s3⟩ := hS; go_simp)⟩) (HSW2.out _ HBY2.out) ?_
              simp only [Act.put, List.setIfInBounds_toArray, List.set_cons_zero, List.set_cons_succ]
              refine wpAnyH_take (i := 8) (oi := ⟨some 110, _, _, _, _, _⟩) (v := (.slice ao os.length ac)) rfl (by kernel_rfl) (by kernel_rfl) (by kernel_rfl) (fun _ _ _ h => h) (Or.inl ⟨by rfl, fun W hS => by (obtain ⟨s0, s1, s2, s3⟩ := hS; go_simp)⟩) (HSW2.out _ HBY2.out) ?_
              simp only [Act.put, List.setIfInBounds_toArray, List.set_cons_zero, List.set_cons_succ]
              refine wpAnyH_take (i := 9) (oi := ⟨some 111, _, _, _, _, _⟩) (v := (.map (some B'))) rfl (by kernel_rfl) (by kernel_rfl) (by kernel_rfl) (fun _ _ _ h => h) (Or.inl ⟨by rfl, fun W hS => by (obtain ⟨s0, s1, s2, s3⟩ := hS; go_simp)⟩) (HSW2.out _ HBY2.out) ?_
              simp only [Act.put, List.setIfInBounds_toArray, List.set_cons_zero, List.set_cons_succ]
              refine wpAnyH_take (i := 10) (oi := ⟨some 11, _, _, _, _, _⟩) (v := (.slice ao os.length ac)) rfl (by kernel_rfl) (by kernel_rfl) (by kernel_rfl) (fun _ _ _ h => h) (Or.inl ⟨by rfl, fun W hS => by (obtain ⟨s0, s1, s2, s3⟩ := hS; go_simp)⟩) (HSW2.out _ HBY2.out) ?_
              simp only [Act.put, List.setIfInBounds_toArray, List.set_cons_zero, List.set_cons_succ]
              refine wpAnyH_take (i := 11) (oi := ⟨some 9, _, _, _, _, _⟩) (v := (.map (some B'))) rfl (by kernel_rfl) (by kernel_rfl) (by kernel_rfl) (fun _ _ _ h => h) (Or.inl ⟨by rfl, fun W hS => by (obtain ⟨s0, s1, s2, s3⟩ := hS; go_simp)⟩) (HSW2.out _ HBY2.out) ?_
              simp only [Act.put, List.setIfInBounds_toArray, List.set_cons_zero, List.set_cons_succ]
              refine wpAnyH_done (by kernel_rfl) ?_ _
              have e2 : y2.cell? ⟨gb, goff + p, none⟩ = some (.slice (A p) g.length (C p)) := (HGC.out _ HBY2.out).1
              go_wp2_with fail
              refine (step_isD HSA2.out HRP.out g.length rfl (A p) (C p) (HGC.out _ HBY2.out).2 (by omega)).mono ?_
              rintro e y3 ⟨⟨O, rfl, hO, hro⟩, hsa3, hk⟩
              have hin := HSA2.out.hin
              have q1 := HZ1.out
              have q2 := HBB2.out
              have HLO3 := hide (HLO2.out.same fun b hS hl => hk.block b hl (by have h : y1.heap.size ≤ b := hS; omega))
              have HOW3 := hide (HOW2.out.kept (grown_kept hk) (fun e => by have := Option.some.inj e; omega))
              have HBY3 := hide (Below.keptOn HBY2.out hk hin.1 HBY2.out.size)
              have HRO3 := hide hro
              have HSA3 := hide hsa3
              have HZ3 : Hid (wA.heap.size ≤ y3.heap.size) := hide (Nat.le_trans HZ2.out hk.size)
              clear hO hro hsa3 hk hin q1 q2 e2
              go_wp2_with fail
              refine (same_is _ _ os.length os.length (outs_lenD _ _) (outs_lenD _ _) _ _ _ _ y3 (Lies.blk (S := AnyB) HRO3.out trivial) HLO3.out (by omega) rfl).mono ?_
              rintro e y4 ⟨rfl, hb⟩
              have HSA4 := hide (HSA3.out.below hb)
              have HOW4 := hide (HOW3.out.kept (grown_of hb) (by simp))
              have HBY4 := hide (Below.step HBY3.out hb)
              have HZ4 : Hid (wA.heap.size ≤ y4.heap.size) := hide (Nat.le_trans HZ3.out hb.size)
              clear hb
              go_wp2_with fail
              exact ⟨⟨p + 1, _, B', D', by omega, by go_num, rfl, HSA4, HOW4, HRD2, HBB2, HBY4, HZ4⟩, by simp [intOf]; omega⟩
          · go_wp2_with fail
            go_ret
            exact ⟨rfl, (HQ5.out wr hbw.out).2.2.2⟩

end Go.Proofs.YtoghcacigdeloaaDoor
