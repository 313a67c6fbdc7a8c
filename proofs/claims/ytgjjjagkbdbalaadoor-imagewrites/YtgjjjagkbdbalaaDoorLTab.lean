/-
  CONTRACT of the law's tables: a net of tables as the reference has it.
-/
import Derived.Test.YtgjjjagkbdbalaaDoorLSet4
set_option linter.unusedSimpArgs false
set_option linter.unusedVariables false
namespace Go.Proofs.YtgjjjagkbdbalaaDoor
open Go.RowKit

theorem info_rr : ∃ i : TypeInfo, Tryd.prog.info? 49 = some i ∧ i.zero = some (.agg #[.bool false, .int .i64 0]) ∧ i.size = 2 ∧ i.bytes = 16 := info_of (by kernel_rfl)
theorem info_rl : ∃ i : TypeInfo, Tryd.prog.info? 53 = some i ∧ i.zero = some (.agg #[.slice none 0 0, .int .i64 0]) ∧ i.size = 2 ∧ i.bytes = 32 := info_of (by kernel_rfl)
theorem Below.keptOn {B R : Nat} {w0 w w' : World} (h : Below B w0 w) (hk : Kept R w w') (hR : B ≤ R) (hB : B ≤ w.heap.size) : Below B w0 w' :=
  ⟨hk.os.trans h.os, hk.tape.trans h.tape, hk.output.trans h.output, Nat.le_trans h.size hk.size, fun k hl => (hk.block k (Nat.lt_of_lt_of_le hl hB) (by omega)).trans (h.block k hl)⟩
/-- a row that a field of block M leads to, built behind a world -/
structure FRow (e : TypeId) (M : Nat) (wb wr : World) (va : Option Addr) (vc k : Nat) (cs : List Value) : Prop where
  kept : Kept M wb wr
  mine : Mine e 2 wb.heap.size wr (.slice va k vc) k cs
  mlt : M < wb.heap.size
theorem frow_none {e M : Nat} {w : World} (h : M < w.heap.size) : FRow e M w w .none 0 0 [] := ⟨Kept.refl _ _, Mine.none _, h⟩
theorem FRow.app {M : Nat} {wb wr wy : World} {va : Option Addr} {vc k : Nat} {cs new : List Value} {t e : TypeId} {z : Value} {by0 : Nat} (h : FRow e M wb wr va vc k cs) (hb : Below wr.heap.size wr wy) (hi : ∃ i : TypeInfo, Tryd.prog.info? e = some i ∧ i.zero = some z ∧ i.size = 2 ∧ i.bytes = by0) (hby : by0 ≤ 1000) (hz : z.cells.size = 2) (ht : Tryd.prog.underlying t = some (.slice e)) (ao : Option Addr) (hnew : Lies AnyB wy ao new) (hnl : new.length = 2) (h1 : ∀ u ∈ new, u.oneCell' = true) (hk : k ≤ 1000) (f : Nat) :
    ∃ va' vc' w2, (Builtin.append_ #[t, t] t #[.slice va k vc, .slice ao 1 1]).run Tryd.prog wy = .ok (.slice va' (k + 1) vc') w2 ∧ FRow e M wb (w2.setCell ⟨M, f, none⟩ (.slice va' (k + 1) vc')) va' vc' (k + 1) (cs ++ new) ∧ Kept M wb w2 ∧ w2.heap[M]? = wy.heap[M]? := by
  have hm := h.mine.below hb
  have hkb := h.kept.below hb
  obtain ⟨va', vc', w2, hr, hmm, hg, hnb⟩ := app_pr (B := wb.heap.size) (w := wy) (c := 1) (n' := k + 1) t e hi hby hz ht hm (m := 1) (by omega) rfl hnew h1 hkb.size (by omega)
  have hMy : M < wy.heap.size := Nat.lt_of_lt_of_le h.mlt hkb.size
  have hMn : ∀ b, (Value.slice va k vc).ownBlock = some b → b ≠ M := fun b hb => by have := hm.new b hb; have := h.mlt; omega
  have hMn2 : ∀ b, (Value.slice va' (k + 1) vc').ownBlock = some b → b ≠ M := fun b hb => by have := hmm.new b hb; have := h.mlt; omega
  have hk2 : Kept M wb w2 := ⟨hg.os.trans hkb.os, hg.tape.trans hkb.tape, hg.output.trans hkb.output, Nat.le_trans hkb.size hg.size, fun j hj hn => (hg.block j (Nat.lt_of_lt_of_le hj hkb.size) (fun e => by have := hm.new j e.symm; omega)).trans (hkb.block j hj hn)⟩
  exact ⟨va', vc', w2, hr, ⟨hk2.step f _, hmm.same fun b hb _ => Below.heap_setCell w2 ⟨M, f, none⟩ _ b (hMn2 b hb), h.mlt⟩, hk2, hg.block M hMy fun e => hMn M e.symm rfl⟩

theorem results_cell_tmp {P : Program} {fn : Func} {p t : Tmp} {ty : TypeId} (h : fn.results = #[.cell p ty, .tmp t]) (tmps : Array Value) (w : World) (g : Nat) (t0 : TypeId) (cs : Array Value) (fr : Nat × Nat) (d : TypeDesc)
    (hp : tmps.getD p undef = .pointer (some ⟨g, 0, none⟩)) (hg : w.heap[g]? = some (.cells cs t0 fr))
    (hu : P.underlying ty = some d) (hd : (match d with | .struct _ | .array _ _ => true | _ => false) = true) (hi : (P.info? ty).map (·.size) = some cs.size) :
    (results fn tmps).run P w = .ok (.tuple #[.agg cs, tmps.getD t undef]) w := by
  have hp' : tmps[p]?.getD undef = .pointer (some ⟨g, 0, none⟩) := by simpa using hp
  simp [results, h, hp', asAddr, run_loadVar_row w g t0 ty cs fr d hg hu hd hi]
abbrev TabNo (given : Int) (rn ln on rc lc oc : Nat) (ra la oa : Option Addr) (w : World) : Prop :=
    Calls Tryd.prog 4 #[.agg #[.int .i64 given, .slice ra rn rc, .slice la ln lc, .slice oa on oc]] w fun e w' => (∃ (g : Int) (a1 a2 a3 : Option Addr) (n1 c1 n2 c2 n3 c3 : Nat), e = .returned (.tuple #[.agg #[.int .i64 g, .slice a1 n1 c1, .slice a2 n2 c2, .slice a3 n3 c3], .bool false])) ∧ Below w.heap.size w w'
theorem tab_blk (given : Int) (rn ln on rc lc oc : Nat) (ra la oa : Option Addr) (w : World) :
    ((((w.alloc (.cells #[.int .i64 given, .slice ra rn rc, .slice la ln lc, .slice oa on oc] 26)).alloc (.cells #[.int .i64 given, .slice none 0 0, .slice none 0 0, .slice oa on oc] 30)).alloc (.cells #[.int .i64 given, .slice none 0 0, .slice none 0 0, .slice oa on oc] 30)).heap[w.heap.size + 1]? = some (.cells #[.int .i64 given, .slice none 0 0, .slice none 0 0, .slice oa on oc] 30 (0, 0))) ∧ Below w.heap.size w (((w.alloc (.cells #[.int .i64 given, .slice ra rn rc, .slice la ln lc, .slice oa on oc] 26)).alloc (.cells #[.int .i64 given, .slice none 0 0, .slice none 0 0, .slice oa on oc] 30)).alloc (.cells #[.int .i64 given, .slice none 0 0, .slice none 0 0, .slice oa on oc] 30)) := by
  refine ⟨?_, Below.step (Below.step (below_alloc _ _) (below_alloc _ _)) (below_alloc _ _)⟩
  have h := blk_new (w.alloc (.cells #[.int .i64 given, .slice ra rn rc, .slice la ln lc, .slice oa on oc] 26)) (.cells #[.int .i64 given, .slice none 0 0, .slice none 0 0, .slice oa on oc] 30)
  rw [show (w.alloc (.cells #[.int .i64 given, .slice ra rn rc, .slice la ln lc, .slice oa on oc] 26)).heap.size = w.heap.size + 1 by simp] at h
  exact Below.blk (below_alloc _ _) h

set_option maxRecDepth 100000 in
set_option maxHeartbeats 3200000 in
theorem tables_a (given : Int) (rn ln on rc lc oc : Nat) (ra la oa : Option Addr) (w : World) (h : (40 : Int) < (rn : Int)) : TabNo given rn ln on rc lc oc ra la oa w := by
  have HT := hide (tab_blk given rn ln on rc lc oc ra la oa w)
  go_enter Tryd.func4, Tryd.ntmps4
  go_wp2_with fail
  refine bodyPost_ret (results_cell_tmp rfl _ _ (w.heap.size + 1) _ _ (0, 0) _ rfl HT.out.1 Tryd.underlying30 rfl (by kernel_rfl)) rfl ?_
  exact ⟨⟨_, _, _, _, _, _, _, _, _, _, rfl⟩, HT.out.2⟩
set_option maxRecDepth 100000 in
set_option maxHeartbeats 3200000 in
theorem tables_b (given : Int) (rn ln on rc lc oc : Nat) (ra la oa : Option Addr) (w : World) (h1 : (rn : Int) ≤ 40) (h : (60 : Int) < (ln : Int)) : TabNo given rn ln on rc lc oc ra la oa w := by
  have HT := hide (tab_blk given rn ln on rc lc oc ra la oa w)
  go_enter Tryd.func4, Tryd.ntmps4
  go_wp2_with fail
  refine bodyPost_ret (results_cell_tmp rfl _ _ (w.heap.size + 1) _ _ (0, 0) _ rfl HT.out.1 Tryd.underlying30 rfl (by kernel_rfl)) rfl ?_
  exact ⟨⟨_, _, _, _, _, _, _, _, _, _, rfl⟩, HT.out.2⟩
set_option maxRecDepth 100000 in
set_option maxHeartbeats 3200000 in
theorem tables_c (given : Int) (rn ln on rc lc oc : Nat) (ra la oa : Option Addr) (w : World) (h1 : (rn : Int) ≤ 40) (h2 : (ln : Int) ≤ 60) (h : (40 : Int) < (on : Int)) : TabNo given rn ln on rc lc oc ra la oa w := by
  have HT := hide (tab_blk given rn ln on rc lc oc ra la oa w)
  go_enter Tryd.func4, Tryd.ntmps4
  go_wp2_with fail
  refine bodyPost_ret (results_cell_tmp rfl _ _ (w.heap.size + 1) _ _ (0, 0) _ rfl HT.out.1 Tryd.underlying30 rfl (by kernel_rfl)) rfl ?_
  exact ⟨⟨_, _, _, _, _, _, _, _, _, _, rfl⟩, HT.out.2⟩
set_option maxRecDepth 100000 in
set_option maxHeartbeats 3200000 in
theorem tables_d (given : Int) (rn ln on rc lc oc : Nat) (ra la oa : Option Addr) (w : World) (h1 : (rn : Int) ≤ 40) (h2 : (ln : Int) ≤ 60) (h3 : (on : Int) ≤ 40) (h : (1000 : Int) < given) (h5 : given ≤ 20000) : TabNo given rn ln on rc lc oc ra la oa w := by
  have HT := hide (tab_blk given rn ln on rc lc oc ra la oa w)
  go_enter Tryd.func4, Tryd.ntmps4
  go_wp2_with fail
  refine bodyPost_ret (results_cell_tmp rfl _ _ (w.heap.size + 1) _ _ (0, 0) _ rfl HT.out.1 Tryd.underlying30 rfl (by kernel_rfl)) rfl ?_
  exact ⟨⟨_, _, _, _, _, _, _, _, _, _, rfl⟩, HT.out.2⟩

abbrev TabYes (given : Int) (rs : List Rg) (ls : List Lt) (on rc lc oc : Nat) (ra la oa : Option Addr) (A : Nat → Option Addr) (C : Nat → Nat) (w : World) : Prop :=
    Calls Tryd.prog 4 #[.agg #[.int .i64 given, .slice ra rs.length rc, .slice la ls.length lc, .slice oa on oc]] w fun e w' => ((∃ (g : Int) (a1 a2 a3 : Option Addr) (n1 c1 n2 c2 n3 c3 : Nat), e = .returned (.tuple #[.agg #[.int .i64 g, .slice a1 n1 c1, .slice a2 n2 c2, .slice a3 n3 c3], .bool false])) ∨ ∃ (xa : Option Addr) (xc : Nat) (ya : Option Addr) (yc : Nat), e = .returned (.tuple #[.agg #[.int .i64 given, .slice xa rs.length xc, .slice ya ls.length yc, .slice oa on oc], .bool true]) ∧ Lies (FromB w.heap.size) w' xa (rgsC rs) ∧ Lies (FromB w.heap.size) w' ya (lutsC A C ls) ∧ ∀ i, i < ls.length → (ltAt ls i).ins.length ≤ 10) ∧ Below w.heap.size w w'

set_option maxRecDepth 100000 in
set_option maxHeartbeats 6400000 in
theorem tables_e {S : Nat → Prop} (given : Int) (rs : List Rg) (ls : List Lt) (on rc lc oc : Nat) (ra la oa : Option Addr) (A : Nat → Option Addr) (C : Nat → Nat) (w : World) (hr : Lies S w ra (rgsC rs)) (hl : LutsAt S w la A C ls) (h1 : (rs.length : Int) ≤ 40) (h2 : (ls.length : Int) ≤ 60) (h3 : (on : Int) ≤ 40) (hd : given ≤ 1000 ∨ 20000 < given) : TabYes given rs ls on rc lc oc ra la oa A C w := by
  have HT := hide (tab_blk given rs.length ls.length on rc lc oc ra la oa w)
  have HN0 : Hid ((((w.alloc (.cells #[.int .i64 given, .slice ra rs.length rc, .slice la ls.length lc, .slice oa on oc] 26)).alloc (.cells #[.int .i64 0, .slice none 0 0, .slice none 0 0, .slice none 0 0] 30)).alloc (.cells #[.int .i64 given, .slice none 0 0, .slice none 0 0, .slice oa on oc] 30)).heap[w.heap.size]? = some (.cells #[.int .i64 given, .slice ra rs.length rc, .slice la ls.length lc, .slice oa on oc] 26 (0, 0))) := hide (Below.blk (below_alloc _ _) (Below.blk (below_alloc _ _) (blk_new _ _)))
  have HR0 : Hid ((((w.alloc (.cells #[.int .i64 given, .slice ra rs.length rc, .slice la ls.length lc, .slice oa on oc] 26)).alloc (.cells #[.int .i64 0, .slice none 0 0, .slice none 0 0, .slice none 0 0] 30)).alloc (.cells #[.int .i64 given, .slice none 0 0, .slice none 0 0, .slice oa on oc] 30)).heap[w.heap.size + 1]? = some (.cells #[.int .i64 0, .slice none 0 0, .slice none 0 0, .slice none 0 0] 30 (0, 0))) := hide (by
    have h := blk_new (w.alloc (.cells #[.int .i64 given, .slice ra rs.length rc, .slice la ls.length lc, .slice oa on oc] 26)) (.cells #[.int .i64 0, .slice none 0 0, .slice none 0 0, .slice none 0 0] 30)
    rw [show (w.alloc (.cells #[.int .i64 given, .slice ra rs.length rc, .slice la ls.length lc, .slice oa on oc] 26)).heap.size = w.heap.size + 1 by simp] at h
    exact Below.blk (below_alloc _ _) h)
  have HM0 : Hid ((((w.alloc (.cells #[.int .i64 given, .slice ra rs.length rc, .slice la ls.length lc, .slice oa on oc] 26)).alloc (.cells #[.int .i64 0, .slice none 0 0, .slice none 0 0, .slice none 0 0] 30)).alloc (.cells #[.int .i64 given, .slice none 0 0, .slice none 0 0, .slice oa on oc] 30)).heap[w.heap.size + 2]? = some (.cells #[.int .i64 given, .slice none 0 0, .slice none 0 0, .slice oa on oc] 30 (0, 0))) := hide (by
    have h := blk_new ((w.alloc (.cells #[.int .i64 given, .slice ra rs.length rc, .slice la ls.length lc, .slice oa on oc] 26)).alloc (.cells #[.int .i64 0, .slice none 0 0, .slice none 0 0, .slice none 0 0] 30)) (.cells #[.int .i64 given, .slice none 0 0, .slice none 0 0, .slice oa on oc] 30)
    rw [show ((w.alloc (.cells #[.int .i64 given, .slice ra rs.length rc, .slice la ls.length lc, .slice oa on oc] 26)).alloc (.cells #[.int .i64 0, .slice none 0 0, .slice none 0 0, .slice none 0 0] 30)).heap.size = w.heap.size + 2 by simp] at h
    exact h)
  have HB3 : Hid (Below w.heap.size w (((w.alloc (.cells #[.int .i64 given, .slice ra rs.length rc, .slice la ls.length lc, .slice oa on oc] 26)).alloc (.cells #[.int .i64 0, .slice none 0 0, .slice none 0 0, .slice none 0 0] 30)).alloc (.cells #[.int .i64 given, .slice none 0 0, .slice none 0 0, .slice oa on oc] 30))) := hide (Below.step (Below.step (below_alloc _ _) (below_alloc _ _)) (below_alloc _ _))
  have HR := hide (hr.imp (T := fun b => b < w.heap.size) fun b hlt _ => hlt)
  have HL := hide (hl.imp (T := fun b => b < w.heap.size) fun b hlt _ => hlt)
  clear hr hl
  rcases hd with hd | hd
  all_goals
    try have hd1 : (1000 : Int) < given := by omega
    go_enter Tryd.func4, Tryd.ntmps4
    go_wp2_with fail
    generalize (((w.alloc (.cells #[.int .i64 given, .slice ra rs.length rc, .slice la ls.length lc, .slice oa on oc] 26)).alloc (.cells #[.int .i64 0, .slice none 0 0, .slice none 0 0, .slice none 0 0] 30)).alloc (.cells #[.int .i64 given, .slice none 0 0, .slice none 0 0, .slice oa on oc] 30)) = w3 at *
    clear HT
    have HM3L : Hid (w.heap.size + 2 < w3.heap.size) := hide (blk_lt HM0.out)
    have HNX : Hid (∀ W, Kept (w.heap.size + 2) w3 W → W.cell? ⟨w.heap.size, 0, none⟩ = some (.int .i64 given) ∧ W.cell? ⟨w.heap.size, 1, none⟩ = some (.slice ra rs.length rc) ∧ W.cell? ⟨w.heap.size, 2, none⟩ = some (.slice la ls.length lc) ∧ W.cell? ⟨w.heap.size, 3, none⟩ = some (.slice oa on oc)) := hide fun W hk => by
      have h := hk.blk HN0.out (by omega)
      exact ⟨by rw [blk_cell h]; rfl, by rw [blk_cell h]; rfl, by rw [blk_cell h]; rfl, by rw [blk_cell h]; rfl⟩
    have HRWX : Hid (∀ W, Kept (w.heap.size + 2) w3 W → Lies (fun b => b < w.heap.size) W ra (rgsC rs)) := hide fun W hk => (HR.out.below HB3.out).same fun b hb hl => hk.block b hl (by omega)
    go_loopw [5] (fun i wr => ∃ (q : Nat) (va : Option Addr) (vc : Nat), q ≤ rs.length ∧ i = .int .i64 q ∧ Hid (FRow 49 (w.heap.size + 2) w3 wr va vc q (pairC (rgF rs) (rgG rs) q)) ∧ Hid (wr.heap[w.heap.size + 2]? = some (.cells #[.int .i64 given, .slice va q vc, .slice none 0 0, .slice oa on oc] 30 (0, 0)))) (fun i _ => rs.length - (intOf i).toNat)
    case atStart => exact ⟨0, .none, 0, Nat.zero_le _, rfl, hide (frow_none HM3L.out), HM0⟩
    case round =>
      obtain ⟨q, va, vc, hq, rfl, hfr, hme⟩ := hrel
      have n1 := (HNX.out _ hfr.out.kept).2.1
      by_cases hlt : q < rs.length
      · have hqi : (q : Int) < (rs.length : Int) := by omega
        obtain ⟨b, off, hra, _, hbl, m0, m1⟩ := (HRWX.out _ hfr.out.kept).pair hlt
        simp only [rgF, rgG] at m0 m1
        subst hra
        go_wp2_with fail
        clear n1 m0 m1 hbl
        have HSW : Hid (∀ W, Kept (w.heap.size + 2) w3 W → W.cell? ⟨w.heap.size, 1, none⟩ = some (.slice (some ⟨b, off, none⟩) rs.length rc) ∧ W.cell? ⟨b, off + q * 2, none⟩ = some (.bool (rgAt rs q).init) ∧ W.cell? ⟨b, off + q * 2 + 1, none⟩ = some (.int .i64 (rgAt rs q).next)) := hide fun W hk => by
          obtain ⟨b', o', e1, _, _, k0, k1⟩ := (HRWX.out W hk).pair hlt
          cases e1
          exact ⟨(HNX.out W hk).2.1, k0, k1⟩
        have HKd := hide (hfr.out.kept.below (Below.refl wr.heap.size wr).drew)
        refine wp_region_held_drew (S := fun W => W.cell? ⟨w.heap.size, 1, none⟩ = some (.slice (some ⟨b, off, none⟩) rs.length rc) ∧ W.cell? ⟨b, off + q * 2, none⟩ = some (.bool (rgAt rs q).init) ∧ W.cell? ⟨b, off + q * 2 + 1, none⟩ = some (.int .i64 (rgAt rs q).next)) (by kernel_rfl) (HSW.out _ HKd.out) (fun _ => ?_)
        have hme1 : Hid (wr.drew.heap[w.heap.size + 2]? = wr.heap[w.heap.size + 2]?) := hide rfl
        have HYd : Hid (Below wr.heap.size wr wr.drew) := hide (Below.refl _ _).drew
        generalize wr.drew = y1 at *
        refine wpAnyH_take (i := 0) (oi := ⟨some 46, _, _, _, _, _⟩) (v := (.pointer (some ⟨w.heap.size + 2, 1, none⟩))) rfl (by kernel_rfl) (by kernel_rfl) (by kernel_rfl) (fun _ _ _ h => h) (Or.inl ⟨by rfl, fun W hS => by (obtain ⟨t0, t1, t2⟩ := hS; go_simp)⟩) (HSW.out _ HKd.out) ?_
        simp only [Act.put, List.setIfInBounds_toArray, List.set_cons_zero, List.set_cons_succ]
        refine wpAnyH_take (i := 2) (oi := ⟨some 48, _, _, _, _, _⟩) (v := (.pointer (some ⟨w.heap.size, 1, none⟩))) rfl (by kernel_rfl) (by kernel_rfl) (by kernel_rfl) (fun _ _ _ h => h) (Or.inl ⟨by rfl, fun W hS => by (obtain ⟨t0, t1, t2⟩ := hS; go_simp)⟩) (HSW.out _ HKd.out) ?_
        simp only [Act.put, List.setIfInBounds_toArray, List.set_cons_zero, List.set_cons_succ]
        refine wpAnyH_take (i := 4) (oi := ⟨some 50, _, _, _, _, _⟩) (v := (.int .i64 q)) rfl (by kernel_rfl) (by kernel_rfl) (by kernel_rfl) (fun _ _ _ h => h) (Or.inl ⟨by rfl, fun W hS => by (obtain ⟨t0, t1, t2⟩ := hS; go_simp)⟩) (HSW.out _ HKd.out) ?_
        simp only [Act.put, List.setIfInBounds_toArray, List.set_cons_zero, List.set_cons_succ]
        refine wpAnyH_take (i := 3) (oi := ⟨some 49, _, _, _, _, _⟩) (v := (.slice (some ⟨b, off, none⟩) rs.length rc)) rfl (by kernel_rfl) (by kernel_rfl) (by kernel_rfl) (fun _ _ _ h => h) (Or.inl ⟨by rfl, fun W hS => by (obtain ⟨t0, t1, t2⟩ := hS; go_simp)⟩) (HSW.out _ HKd.out) ?_
        simp only [Act.put, List.setIfInBounds_toArray, List.set_cons_zero, List.set_cons_succ]
        refine wpAnyH_take (i := 5) (oi := ⟨some 51, _, _, _, _, _⟩) (v := (.pointer (some ⟨b, off + q * 2, none⟩))) rfl (by kernel_rfl) (by kernel_rfl) (by kernel_rfl) (fun _ _ _ h => h) (Or.inl ⟨by rfl, fun W hS => by (obtain ⟨t0, t1, t2⟩ := hS; go_simp)⟩) (HSW.out _ HKd.out) ?_
        simp only [Act.put, List.setIfInBounds_toArray, List.set_cons_zero, List.set_cons_succ]
        refine wpAnyH_take (i := 6) (oi := ⟨some 52, _, _, _, _, _⟩) (v := (.agg #[.bool (rgAt rs q).init, .int .i64 (rgAt rs q).next])) rfl (by kernel_rfl) (by kernel_rfl) (by kernel_rfl) (fun _ _ _ h => h) (Or.inl ⟨by rfl, fun W hS => by (obtain ⟨t0, t1, t2⟩ := hS; go_simp)⟩) (HSW.out _ HKd.out) ?_
        simp only [Act.put, List.setIfInBounds_toArray, List.set_cons_zero, List.set_cons_succ]
        have HKe := hide (hfr.out.kept.below (Below.step HYd.out (below_alloc y1 (.cells #[.bool (rgAt rs q).init, .int .i64 (rgAt rs q).next] 49))))
        have HME1 := hide (hme1.out.trans hme.out)
        have HME2 := hide (Below.blk (below_alloc y1 (.cells #[.bool (rgAt rs q).init, .int .i64 (rgAt rs q).next] 49)) HME1.out)
        obtain ⟨va2, vc2, y3, happ, hfr3, hk3, hm3⟩ := hfr.out.app (t := 27) (new := [.bool (rgAt rs q).init, .int .i64 (rgAt rs q).next]) (Below.step HYd.out (below_alloc y1 (.cells #[.bool (rgAt rs q).init, .int .i64 (rgAt rs q).next] 49))) info_rr (by decide) rfl (by kernel_rfl) (some ⟨y1.heap.size, 0, none⟩) (Lies.blk (cs := [.bool (rgAt rs q).init, .int .i64 (rgAt rs q).next]) (blk_new y1 (.cells #[.bool (rgAt rs q).init, .int .i64 (rgAt rs q).next] 49)) trivial) rfl (by intro u hu; simp at hu; rcases hu with rfl | rfl <;> rfl) (by omega) 1
        have HFR3 := hide hfr3
        have HK3 := hide hk3
        have HM3 := hide (hm3.trans HME2.out)
        clear hfr3 hk3 hm3
        have t1 : y1.cell? ⟨w.heap.size + 2, 1, none⟩ = some (.slice va q vc) := by rw [blk_cell HME1.out]; rfl
        have t1a : (y1.alloc (.cells #[.bool (rgAt rs q).init, .int .i64 (rgAt rs q).next] 49)).cell? ⟨w.heap.size + 2, 1, none⟩ = some (.slice va q vc) := by rw [blk_cell HME2.out]; rfl
        have t3 : y3.cell? ⟨w.heap.size + 2, 1, none⟩ = some (.slice va q vc) := by rw [blk_cell HM3.out]; rfl
        have f3 : y3.frozen? ⟨w.heap.size + 2, 1, none⟩ = false := blk_frozen HM3.out 1
        refine wpAnyH_ready (rs := [1, 7]) (by kernel_rfl) (by simp) ?_
        refine AllReadyH.cons rfl (fun K hK => ?_) (AllReadyH.cons rfl (fun K hK => ?_) AllReadyH.nil)
        · go_simp
          refine hK.out _ _ (HSW.out _ HKd.out) (fun _ => ?_)
          clear hK K
          refine wpAnyH_ready (rs := [7]) (by kernel_rfl) (by simp) ?_
          refine AllReadyH.cons rfl (fun K hK => ?_) AllReadyH.nil
          go_simp
          refine hK.out _ _ (HSW.out _ HKe.out) (fun _ => ?_)
          clear hK K
          refine wpAnyH_ready (rs := [8]) (by kernel_rfl) (by simp) ?_
          refine AllReadyH.cons rfl (fun K hK => ?_) AllReadyH.nil
          refine (if_pos (by kernel_rfl)).mpr ?_
          refine wp_append_run happ _ _ rfl rfl rfl ?_
          simp only [Act.put, List.getElem_toArray, List.getElem_cons_succ, List.getElem_cons_zero, List.setIfInBounds_toArray, List.set_cons_zero, List.set_cons_succ]
          refine hK.out _ _ (HSW.out _ HK3.out) (fun _ => ?_)
          clear hK K
          clear happ
          refine wpAnyH_take (i := 9) (oi := ⟨some 55, _, _, _, _, _⟩) (v := (.pointer (some ⟨w.heap.size + 2, 1, none⟩))) rfl (by kernel_rfl) (by kernel_rfl) (by kernel_rfl) (fun _ _ _ h => h) (Or.inl ⟨by rfl, fun W hS => by (obtain ⟨t0, t1, t2⟩ := hS; go_simp)⟩) (HSW.out _ HK3.out) ?_
          simp only [Act.put, List.setIfInBounds_toArray, List.set_cons_zero, List.set_cons_succ]
          refine wpAnyH_ready (rs := [10]) (by kernel_rfl) (by simp) ?_
          refine AllReadyH.cons rfl (fun K hK => ?_) AllReadyH.nil
          go_simp
          refine hK.out _ _ (HSW.out _ HFR3.out.kept) (fun _ => ?_)
          clear hK K
          refine wpAnyH_done (by kernel_rfl) ?_ _
          go_wp2_with fail
          exact ⟨⟨q + 1, va2, vc2, by omega, by go_num, hide HFR3.out, hide (by rw [blk_set HM3.out]; rfl)⟩, by simp [intOf]; omega⟩
        · go_simp
          refine hK.out _ _ (HSW.out _ HKe.out) (fun _ => ?_)
          clear hK K
          refine wpAnyH_ready (rs := [1]) (by kernel_rfl) (by simp) ?_
          refine AllReadyH.cons rfl (fun K hK => ?_) AllReadyH.nil
          go_simp
          refine hK.out _ _ (HSW.out _ HKe.out) (fun _ => ?_)
          clear hK K
          refine wpAnyH_ready (rs := [8]) (by kernel_rfl) (by simp) ?_
          refine AllReadyH.cons rfl (fun K hK => ?_) AllReadyH.nil
          refine (if_pos (by kernel_rfl)).mpr ?_
          refine wp_append_run happ _ _ rfl rfl rfl ?_
          simp only [Act.put, List.getElem_toArray, List.getElem_cons_succ, List.getElem_cons_zero, List.setIfInBounds_toArray, List.set_cons_zero, List.set_cons_succ]
          refine hK.out _ _ (HSW.out _ HK3.out) (fun _ => ?_)
          clear hK K
          clear happ
          refine wpAnyH_take (i := 9) (oi := ⟨some 55, _, _, _, _, _⟩) (v := (.pointer (some ⟨w.heap.size + 2, 1, none⟩))) rfl (by kernel_rfl) (by kernel_rfl) (by kernel_rfl) (fun _ _ _ h => h) (Or.inl ⟨by rfl, fun W hS => by (obtain ⟨t0, t1, t2⟩ := hS; go_simp)⟩) (HSW.out _ HK3.out) ?_
          simp only [Act.put, List.setIfInBounds_toArray, List.set_cons_zero, List.set_cons_succ]
          refine wpAnyH_ready (rs := [10]) (by kernel_rfl) (by simp) ?_
          refine AllReadyH.cons rfl (fun K hK => ?_) AllReadyH.nil
          go_simp
          refine hK.out _ _ (HSW.out _ HFR3.out.kept) (fun _ => ?_)
          clear hK K
          refine wpAnyH_done (by kernel_rfl) ?_ _
          go_wp2_with fail
          exact ⟨⟨q + 1, va2, vc2, by omega, by go_num, hide HFR3.out, hide (by rw [blk_set HM3.out]; rfl)⟩, by simp [intOf]; omega⟩
      · have HREG : Hid (Mine 49 2 w3.heap.size wr (.slice va rs.length vc) rs.length (rgsC rs)) := hide (by
          have e : q = rs.length := by omega
          have := hfr.out.mine
          rw [e] at this
          exact this)
        have HME4 : Hid (wr.heap[w.heap.size + 2]? = some (.cells #[.int .i64 given, .slice va rs.length vc, .slice none 0 0, .slice oa on oc] 30 (0, 0))) := hide (by
          have e : q = rs.length := by omega
          have := hme.out
          rwa [e] at this)
        have HK4 := hide hfr.out.kept
        have n2 := (HNX.out _ hfr.out.kept).2.2.1
        clear hfr hme HRWX
        go_wp2_with fail
        clear n1 n2
        rename World => w4
        have HRL4 := hide (HREG.out.lies (S := fun b => w3.heap.size ≤ b) fun b hb => HREG.out.new b hb)
        have HM4L : Hid (w.heap.size + 2 < w4.heap.size) := hide (blk_lt HME4.out)
        have HNX4 : Hid (∀ W, Kept (w.heap.size + 2) w4 W → W.cell? ⟨w.heap.size, 0, none⟩ = some (.int .i64 given) ∧ W.cell? ⟨w.heap.size, 1, none⟩ = some (.slice ra rs.length rc) ∧ W.cell? ⟨w.heap.size, 2, none⟩ = some (.slice la ls.length lc) ∧ W.cell? ⟨w.heap.size, 3, none⟩ = some (.slice oa on oc)) := hide fun W hk => HNX.out W (HK4.out.trans hk)
        clear HNX
        have HNX := HNX4
        have HRWX : Hid (∀ W, Kept (w.heap.size + 2) w4 W → Lies (fun b => b < w.heap.size) W la (lutsC A C ls)) := hide fun W hk => (HL.out.row.below HB3.out).same fun b hb hl => (HK4.out.trans hk).block b hl (by omega)
        have HRX : Hid (∀ W, Kept (w.heap.size + 2) w4 W → W.heap[w.heap.size + 1]? = some (.cells #[.int .i64 0, .slice none 0 0, .slice none 0 0, .slice none 0 0] 30 (0, 0))) := hide fun W hk => (HK4.out.trans hk).blk HR0.out (by omega)
        go_loopw [6] (fun i wr => ∃ (q : Nat) (ya : Option Addr) (yc : Nat), q ≤ ls.length ∧ i = .int .i64 q ∧ Hid (FRow 53 (w.heap.size + 2) w4 wr ya yc q (pairC (lutF A C ls) (lutG ls) q)) ∧ Hid (wr.heap[w.heap.size + 2]? = some (.cells #[.int .i64 given, .slice va rs.length vc, .slice ya q yc, .slice oa on oc] 30 (0, 0))) ∧ Hid (∀ i, i < q → (ltAt ls i).ins.length ≤ 10)) (fun i _ => ls.length - (intOf i).toNat)
        case atStart => exact ⟨0, .none, 0, Nat.zero_le _, rfl, hide (frow_none HM4L.out), HME4, hide fun i hi => absurd hi (Nat.not_lt_zero _)⟩
        case round =>
          obtain ⟨q, ya, yc, hq, rfl, hfr, hme, hten⟩ := hrel
          have n2 := (HNX.out _ hfr.out.kept).2.2.1
          by_cases hlt : q < ls.length
          · have hqi : (q : Int) < (ls.length : Int) := by omega
            obtain ⟨b, off, hla, _, hbl, m0, m1⟩ := (HRWX.out _ hfr.out.kept).pair hlt
            simp only [lutF, lutG] at m0 m1
            subst hla
            by_cases h10 : (10 : Int) < ((ltAt ls q).ins.length : Int)
            · have x0 : wr.cell? ⟨w.heap.size + 2, 0, none⟩ = some (.int .i64 given) := by rw [blk_cell hme.out]; rfl
              have x1 : wr.cell? ⟨w.heap.size + 2, 1, none⟩ = some (.slice va rs.length vc) := by rw [blk_cell hme.out]; rfl
              have x2 : wr.cell? ⟨w.heap.size + 2, 2, none⟩ = some (.slice ya q yc) := by rw [blk_cell hme.out]; rfl
              have x3 : wr.cell? ⟨w.heap.size + 2, 3, none⟩ = some (.slice oa on oc) := by rw [blk_cell hme.out]; rfl
              have hr0 := HRX.out _ hfr.out.kept
              have HRW := hide hr0
              have r0 : wr.cell? ⟨w.heap.size + 1, 0, none⟩ = some (.int .i64 0) := by rw [blk_cell hr0]; rfl
              have r1 : wr.cell? ⟨w.heap.size + 1, 1, none⟩ = some (.slice none 0 0) := by rw [blk_cell hr0]; rfl
              have r2 : wr.cell? ⟨w.heap.size + 1, 2, none⟩ = some (.slice none 0 0) := by rw [blk_cell hr0]; rfl
              have r3 : wr.cell? ⟨w.heap.size + 1, 3, none⟩ = some (.slice none 0 0) := by rw [blk_cell hr0]; rfl
              have f0 : wr.frozen? ⟨w.heap.size + 1, 0, none⟩ = false := blk_frozen hr0 0
              have f1 : wr.frozen? ⟨w.heap.size + 1, 1, none⟩ = false := blk_frozen hr0 1
              have f2 : wr.frozen? ⟨w.heap.size + 1, 2, none⟩ = false := blk_frozen hr0 2
              have f3 : wr.frozen? ⟨w.heap.size + 1, 3, none⟩ = false := blk_frozen hr0 3
              have HBW : Hid (Below w.heap.size w wr) := hide (Below.keptOn HB3.out (HK4.out.trans hfr.out.kept) (by omega) HB3.out.size)
              clear hr0 hbl
              go_wp2_with fail
              refine bodyPost_ret (results_cell_tmp rfl _ _ (w.heap.size + 1) _ _ (0, 0) _ rfl (set4_me HRW.out) Tryd.underlying30 rfl (by kernel_rfl)) rfl ?_
              exact ⟨.inl ⟨_, _, _, _, _, _, _, _, _, _, rfl⟩, (((HBW.out.setCell (by show w.heap.size ≤ w.heap.size + 1; omega) _).setCell (by show w.heap.size ≤ w.heap.size + 1; omega) _).setCell (by show w.heap.size ≤ w.heap.size + 1; omega) _).setCell (by show w.heap.size ≤ w.heap.size + 1; omega) _⟩
            · have h10b : ((ltAt ls q).ins.length : Int) ≤ 10 := by omega
              have HTN : Hid (∀ i, i < q + 1 → (ltAt ls i).ins.length ≤ 10) := hide fun i hi => by
                by_cases e : i = q
                · subst e; omega
                · exact hten.out i (by omega)
              go_wp2_with fail
              clear n2 m0 m1 hbl
              have HSW : Hid (∀ W, Kept (w.heap.size + 2) w4 W → W.cell? ⟨w.heap.size, 2, none⟩ = some (.slice (some ⟨b, off, none⟩) ls.length lc) ∧ W.cell? ⟨b, off + q * 2, none⟩ = some (.slice (A q) (ltAt ls q).ins.length (C q)) ∧ W.cell? ⟨b, off + q * 2 + 1, none⟩ = some (.int .i64 (ltAt ls q).table)) := hide fun W hk => by
                obtain ⟨b', o', e1, _, _, k0, k1⟩ := (HRWX.out W hk).pair hlt
                cases e1
                exact ⟨(HNX.out W hk).2.2.1, k0, k1⟩
              have HKd := hide (hfr.out.kept.below (Below.refl wr.heap.size wr).drew)
              refine wp_region_held_drew (S := fun W => W.cell? ⟨w.heap.size, 2, none⟩ = some (.slice (some ⟨b, off, none⟩) ls.length lc) ∧ W.cell? ⟨b, off + q * 2, none⟩ = some (.slice (A q) (ltAt ls q).ins.length (C q)) ∧ W.cell? ⟨b, off + q * 2 + 1, none⟩ = some (.int .i64 (ltAt ls q).table)) (by kernel_rfl) (HSW.out _ HKd.out) (fun _ => ?_)
              have hme1 : Hid (wr.drew.heap[w.heap.size + 2]? = wr.heap[w.heap.size + 2]?) := hide rfl
              have HYd : Hid (Below wr.heap.size wr wr.drew) := hide (Below.refl _ _).drew
              generalize wr.drew = y1 at *
              refine wpAnyH_take (i := 0) (oi := ⟨some 72, _, _, _, _, _⟩) (v := (.pointer (some ⟨w.heap.size + 2, 2, none⟩))) rfl (by kernel_rfl) (by kernel_rfl) (by kernel_rfl) (fun _ _ _ h => h) (Or.inl ⟨by rfl, fun W hS => by (obtain ⟨t0, t1, t2⟩ := hS; go_simp)⟩) (HSW.out _ HKd.out) ?_
              simp only [Act.put, List.setIfInBounds_toArray, List.set_cons_zero, List.set_cons_succ]
              refine wpAnyH_take (i := 2) (oi := ⟨some 74, _, _, _, _, _⟩) (v := (.pointer (some ⟨w.heap.size, 2, none⟩))) rfl (by kernel_rfl) (by kernel_rfl) (by kernel_rfl) (fun _ _ _ h => h) (Or.inl ⟨by rfl, fun W hS => by (obtain ⟨t0, t1, t2⟩ := hS; go_simp)⟩) (HSW.out _ HKd.out) ?_
              simp only [Act.put, List.setIfInBounds_toArray, List.set_cons_zero, List.set_cons_succ]
              refine wpAnyH_take (i := 4) (oi := ⟨some 76, _, _, _, _, _⟩) (v := (.int .i64 q)) rfl (by kernel_rfl) (by kernel_rfl) (by kernel_rfl) (fun _ _ _ h => h) (Or.inl ⟨by rfl, fun W hS => by (obtain ⟨t0, t1, t2⟩ := hS; go_simp)⟩) (HSW.out _ HKd.out) ?_
              simp only [Act.put, List.setIfInBounds_toArray, List.set_cons_zero, List.set_cons_succ]
              refine wpAnyH_take (i := 3) (oi := ⟨some 75, _, _, _, _, _⟩) (v := (.slice (some ⟨b, off, none⟩) ls.length lc)) rfl (by kernel_rfl) (by kernel_rfl) (by kernel_rfl) (fun _ _ _ h => h) (Or.inl ⟨by rfl, fun W hS => by (obtain ⟨t0, t1, t2⟩ := hS; go_simp)⟩) (HSW.out _ HKd.out) ?_
              simp only [Act.put, List.setIfInBounds_toArray, List.set_cons_zero, List.set_cons_succ]
              refine wpAnyH_take (i := 5) (oi := ⟨some 77, _, _, _, _, _⟩) (v := (.pointer (some ⟨b, off + q * 2, none⟩))) rfl (by kernel_rfl) (by kernel_rfl) (by kernel_rfl) (fun _ _ _ h => h) (Or.inl ⟨by rfl, fun W hS => by (obtain ⟨t0, t1, t2⟩ := hS; go_simp)⟩) (HSW.out _ HKd.out) ?_
              simp only [Act.put, List.setIfInBounds_toArray, List.set_cons_zero, List.set_cons_succ]
              refine wpAnyH_take (i := 6) (oi := ⟨some 78, _, _, _, _, _⟩) (v := (.agg #[.slice (A q) (ltAt ls q).ins.length (C q), .int .i64 (ltAt ls q).table])) rfl (by kernel_rfl) (by kernel_rfl) (by kernel_rfl) (fun _ _ _ h => h) (Or.inl ⟨by rfl, fun W hS => by (obtain ⟨t0, t1, t2⟩ := hS; go_simp)⟩) (HSW.out _ HKd.out) ?_
              simp only [Act.put, List.setIfInBounds_toArray, List.set_cons_zero, List.set_cons_succ]
              have HKe := hide (hfr.out.kept.below (Below.step HYd.out (below_alloc y1 (.cells #[.slice (A q) (ltAt ls q).ins.length (C q), .int .i64 (ltAt ls q).table] 53))))
              have HME1 := hide (hme1.out.trans hme.out)
              have HME2 := hide (Below.blk (below_alloc y1 (.cells #[.slice (A q) (ltAt ls q).ins.length (C q), .int .i64 (ltAt ls q).table] 53)) HME1.out)
              obtain ⟨va2, vc2, y3, happ, hfr3, hk3, hm3⟩ := hfr.out.app (t := 28) (new := [.slice (A q) (ltAt ls q).ins.length (C q), .int .i64 (ltAt ls q).table]) (Below.step HYd.out (below_alloc y1 (.cells #[.slice (A q) (ltAt ls q).ins.length (C q), .int .i64 (ltAt ls q).table] 53))) info_rl (by decide) rfl (by kernel_rfl) (some ⟨y1.heap.size, 0, none⟩) (Lies.blk (cs := [.slice (A q) (ltAt ls q).ins.length (C q), .int .i64 (ltAt ls q).table]) (blk_new y1 (.cells #[.slice (A q) (ltAt ls q).ins.length (C q), .int .i64 (ltAt ls q).table] 53)) trivial) rfl (by intro u hu; simp at hu; rcases hu with rfl | rfl <;> rfl) (by omega) 2
              have HFR3 := hide hfr3
              have HK3 := hide hk3
              have HM3 := hide (hm3.trans HME2.out)
              clear hfr3 hk3 hm3
              have t1 : y1.cell? ⟨w.heap.size + 2, 2, none⟩ = some (.slice ya q yc) := by rw [blk_cell HME1.out]; rfl
              have t1a : (y1.alloc (.cells #[.slice (A q) (ltAt ls q).ins.length (C q), .int .i64 (ltAt ls q).table] 53)).cell? ⟨w.heap.size + 2, 2, none⟩ = some (.slice ya q yc) := by rw [blk_cell HME2.out]; rfl
              have t3 : y3.cell? ⟨w.heap.size + 2, 2, none⟩ = some (.slice ya q yc) := by rw [blk_cell HM3.out]; rfl
              have f3 : y3.frozen? ⟨w.heap.size + 2, 2, none⟩ = false := blk_frozen HM3.out 2
              refine wpAnyH_ready (rs := [1, 7]) (by kernel_rfl) (by simp) ?_
              refine AllReadyH.cons rfl (fun K hK => ?_) (AllReadyH.cons rfl (fun K hK => ?_) AllReadyH.nil)
              · go_simp
                refine hK.out _ _ (HSW.out _ HKd.out) (fun _ => ?_)
                clear hK K
                refine wpAnyH_ready (rs := [7]) (by kernel_rfl) (by simp) ?_
                refine AllReadyH.cons rfl (fun K hK => ?_) AllReadyH.nil
                go_simp
                refine hK.out _ _ (HSW.out _ HKe.out) (fun _ => ?_)
                clear hK K
                refine wpAnyH_ready (rs := [8]) (by kernel_rfl) (by simp) ?_
                refine AllReadyH.cons rfl (fun K hK => ?_) AllReadyH.nil
                refine (if_pos (by kernel_rfl)).mpr ?_
                refine wp_append_run happ _ _ rfl rfl rfl ?_
                simp only [Act.put, List.getElem_toArray, List.getElem_cons_succ, List.getElem_cons_zero, List.setIfInBounds_toArray, List.set_cons_zero, List.set_cons_succ]
                refine hK.out _ _ (HSW.out _ HK3.out) (fun _ => ?_)
                clear hK K
                clear happ
                refine wpAnyH_take (i := 9) (oi := ⟨some 81, _, _, _, _, _⟩) (v := (.pointer (some ⟨w.heap.size + 2, 2, none⟩))) rfl (by kernel_rfl) (by kernel_rfl) (by kernel_rfl) (fun _ _ _ h => h) (Or.inl ⟨by rfl, fun W hS => by (obtain ⟨t0, t1, t2⟩ := hS; go_simp)⟩) (HSW.out _ HK3.out) ?_
                simp only [Act.put, List.setIfInBounds_toArray, List.set_cons_zero, List.set_cons_succ]
                refine wpAnyH_ready (rs := [10]) (by kernel_rfl) (by simp) ?_
                refine AllReadyH.cons rfl (fun K hK => ?_) AllReadyH.nil
                go_simp
                refine hK.out _ _ (HSW.out _ HFR3.out.kept) (fun _ => ?_)
                clear hK K
                refine wpAnyH_done (by kernel_rfl) ?_ _
                go_wp2_with fail
                exact ⟨⟨q + 1, va2, vc2, by omega, by go_num, hide HFR3.out, hide (by rw [blk_set HM3.out]; rfl), HTN⟩, by simp [intOf]; omega⟩
              · go_simp
                refine hK.out _ _ (HSW.out _ HKe.out) (fun _ => ?_)
                clear hK K
                refine wpAnyH_ready (rs := [1]) (by kernel_rfl) (by simp) ?_
                refine AllReadyH.cons rfl (fun K hK => ?_) AllReadyH.nil
                go_simp
                refine hK.out _ _ (HSW.out _ HKe.out) (fun _ => ?_)
                clear hK K
                refine wpAnyH_ready (rs := [8]) (by kernel_rfl) (by simp) ?_
                refine AllReadyH.cons rfl (fun K hK => ?_) AllReadyH.nil
                refine (if_pos (by kernel_rfl)).mpr ?_
                refine wp_append_run happ _ _ rfl rfl rfl ?_
                simp only [Act.put, List.getElem_toArray, List.getElem_cons_succ, List.getElem_cons_zero, List.setIfInBounds_toArray, List.set_cons_zero, List.set_cons_succ]
                refine hK.out _ _ (HSW.out _ HK3.out) (fun _ => ?_)
                clear hK K
                clear happ
                refine wpAnyH_take (i := 9) (oi := ⟨some 81, _, _, _, _, _⟩) (v := (.pointer (some ⟨w.heap.size + 2, 2, none⟩))) rfl (by kernel_rfl) (by kernel_rfl) (by kernel_rfl) (fun _ _ _ h => h) (Or.inl ⟨by rfl, fun W hS => by (obtain ⟨t0, t1, t2⟩ := hS; go_simp)⟩) (HSW.out _ HK3.out) ?_
                simp only [Act.put, List.setIfInBounds_toArray, List.set_cons_zero, List.set_cons_succ]
                refine wpAnyH_ready (rs := [10]) (by kernel_rfl) (by simp) ?_
                refine AllReadyH.cons rfl (fun K hK => ?_) AllReadyH.nil
                go_simp
                refine hK.out _ _ (HSW.out _ HFR3.out.kept) (fun _ => ?_)
                clear hK K
                refine wpAnyH_done (by kernel_rfl) ?_ _
                go_wp2_with fail
                exact ⟨⟨q + 1, va2, vc2, by omega, by go_num, hide HFR3.out, hide (by rw [blk_set HM3.out]; rfl), HTN⟩, by simp [intOf]; omega⟩
          · have HLUT : Hid (Mine 53 2 w4.heap.size wr (.slice ya ls.length yc) ls.length (lutsC A C ls)) := hide (by
              have e : q = ls.length := by omega
              have := hfr.out.mine
              rw [e] at this
              exact this)
            have HME5 : Hid (wr.heap[w.heap.size + 2]? = some (.cells #[.int .i64 given, .slice va rs.length vc, .slice ya ls.length yc, .slice oa on oc] 30 (0, 0))) := hide (by
              have e : q = ls.length := by omega
              have := hme.out
              rwa [e] at this)
            have HTEN : Hid (∀ i, i < ls.length → (ltAt ls i).ins.length ≤ 10) := hide (by
              have e : q = ls.length := by omega
              have := hten.out
              rwa [e] at this)
            have x0 : wr.cell? ⟨w.heap.size + 2, 0, none⟩ = some (.int .i64 given) := by rw [blk_cell HME5.out]; rfl
            have x1 : wr.cell? ⟨w.heap.size + 2, 1, none⟩ = some (.slice va rs.length vc) := by rw [blk_cell HME5.out]; rfl
            have x2 : wr.cell? ⟨w.heap.size + 2, 2, none⟩ = some (.slice ya ls.length yc) := by rw [blk_cell HME5.out]; rfl
            have x3 : wr.cell? ⟨w.heap.size + 2, 3, none⟩ = some (.slice oa on oc) := by rw [blk_cell HME5.out]; rfl
            have hr0 := HRX.out _ hfr.out.kept
            have HRW := hide hr0
            have r0 : wr.cell? ⟨w.heap.size + 1, 0, none⟩ = some (.int .i64 0) := by rw [blk_cell hr0]; rfl
            have r1 : wr.cell? ⟨w.heap.size + 1, 1, none⟩ = some (.slice none 0 0) := by rw [blk_cell hr0]; rfl
            have r2 : wr.cell? ⟨w.heap.size + 1, 2, none⟩ = some (.slice none 0 0) := by rw [blk_cell hr0]; rfl
            have r3 : wr.cell? ⟨w.heap.size + 1, 3, none⟩ = some (.slice none 0 0) := by rw [blk_cell hr0]; rfl
            have f0 : wr.frozen? ⟨w.heap.size + 1, 0, none⟩ = false := blk_frozen hr0 0
            have f1 : wr.frozen? ⟨w.heap.size + 1, 1, none⟩ = false := blk_frozen hr0 1
            have f2 : wr.frozen? ⟨w.heap.size + 1, 2, none⟩ = false := blk_frozen hr0 2
            have f3 : wr.frozen? ⟨w.heap.size + 1, 3, none⟩ = false := blk_frozen hr0 3
            have HBW : Hid (Below w.heap.size w wr) := hide (Below.keptOn HB3.out (HK4.out.trans hfr.out.kept) (by omega) HB3.out.size)
            have HRLW : Hid (Lies (fun b => w3.heap.size ≤ b) wr va (rgsC rs)) := hide (HRL4.out.same fun b hb hl => hfr.out.kept.block b hl (by have := HM3L.out; omega))
            have HLLW := hide (HLUT.out.lies (S := fun b => w4.heap.size ≤ b) fun b hb => HLUT.out.new b hb)
            have HZ43 := hide HK4.out.size
            clear hr0 hme hten hfr
            go_wp2_with fail
            refine bodyPost_ret (results_cell_tmp rfl _ _ (w.heap.size + 1) _ _ (0, 0) _ rfl (set4_me HRW.out) Tryd.underlying30 rfl (by kernel_rfl)) rfl ?_
            have hz3 := HM3L.out
            have hz4 := HZ43.out
            refine ⟨.inr ⟨va, vc, ya, yc, rfl, ?_, ?_, HTEN.out⟩, (((HBW.out.setCell (by show w.heap.size ≤ w.heap.size + 1; omega) _).setCell (by show w.heap.size ≤ w.heap.size + 1; omega) _).setCell (by show w.heap.size ≤ w.heap.size + 1; omega) _).setCell (by show w.heap.size ≤ w.heap.size + 1; omega) _⟩
            · exact (HRLW.out.same fun b hb _ => set4_ne (by omega)).imp fun b _ hb => (by show w.heap.size ≤ b; omega)
            · exact (HLLW.out.same fun b hb _ => set4_ne (by omega)).imp fun b _ hb => (by show w.heap.size ≤ b; omega)
end Go.Proofs.YtgjjjagkbdbalaaDoor
