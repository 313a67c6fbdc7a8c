/-
  CONTRACT of copied.
-/
import Derived.Test.YtacgepdmhdcdkaaLStep
set_option linter.unusedSimpArgs false
set_option linter.unusedVariables false
namespace Go.Proofs.Ytacgepdmhdcdkaa
open Go.RowKit

/-- new blocks, but for the tables' own row -/
def NotLa (B n : Nat) (la : Option Addr) (b : Nat) : Prop := B ≤ b ∧ (0 < n → la ≠ some ⟨b, 0, none⟩)
theorem set4_me {w : World} {X : Nat} {t : TypeId} {e0 e1 e2 e3 a b c d : Value} (h : w.heap[X]? = some (.cells #[e0, e1, e2, e3] t (0, 0))) : ((((w.setCell ⟨X, 0, none⟩ a).setCell ⟨X, 1, none⟩ b).setCell ⟨X, 2, none⟩ c).setCell ⟨X, 3, none⟩ d).heap[X]? = some (.cells #[a, b, c, d] t (0, 0)) := by
  rw [blk_set (blk_set (blk_set (blk_set h _ _) _ _) _ _) _ _]; rfl
theorem set4_ne {w : World} {X : Nat} {a b c d : Value} {k : Nat} (h : k ≠ X) : ((((w.setCell ⟨X, 0, none⟩ a).setCell ⟨X, 1, none⟩ b).setCell ⟨X, 2, none⟩ c).setCell ⟨X, 3, none⟩ d).heap[k]? = w.heap[k]? :=
  (Below.heap_setCell _ ⟨X, 3, none⟩ _ k h).trans ((Below.heap_setCell _ ⟨X, 2, none⟩ _ k h).trans ((Below.heap_setCell _ ⟨X, 1, none⟩ _ k h).trans (Below.heap_setCell _ ⟨X, 0, none⟩ _ k h)))
/-- a net that is copied, so far -/
structure Cop (B : Nat) (w wx : World) (X : Nat) (given : Int) (rs : List Rg) (ls : List Lt) (os : List Int) (ra : Option Addr) (rc : Nat) (la : Option Addr) (lc : Nat) (oa : Option Addr) (oc : Nat) (A : Nat → Option Addr) (C : Nat → Nat) : Prop where
  below : Below B w wx
  me : wx.heap[X]? = some (.cells #[.int .i64 given, .slice ra rs.length rc, .slice la ls.length lc, .slice oa os.length oc] 26 (0, 0))
  regs : Lies (NotLa B ls.length la) wx ra (rgsC rs)
  outs : Lies (NotLa B ls.length la) wx oa (intsC os)
  luts : lutsC A C ls = [] ∨ ∃ g cur, la = some ⟨g, 0, none⟩ ∧ B ≤ g ∧ g ≠ X ∧ wx.heap[g]? = some (.cells cur 44 (0, 0)) ∧ cur.toList.take (ls.length * 2) = lutsC A C ls
  xB : B ≤ X
theorem Cop.more {B : Nat} {w wx wy : World} {X : Nat} {given : Int} {rs : List Rg} {ls : List Lt} {os : List Int} {ra : Option Addr} {rc : Nat} {la : Option Addr} {lc : Nat} {oa : Option Addr} {oc : Nat} {A : Nat → Option Addr} {C : Nat → Nat} (c : Cop B w wx X given rs ls os ra rc la lc oa oc A C) (hb : Below wx.heap.size wx wy) (hB : B ≤ wx.heap.size) : Cop B w wy X given rs ls os ra rc la lc oa oc A C := by
  refine ⟨c.below.trans (hb.mono hB), Below.blk hb c.me, c.regs.below hb, c.outs.below hb, ?_, c.xB⟩
  rcases c.luts with h | ⟨g, cur, h1, h2, h3, h4, h5⟩
  · exact .inl h
  · exact .inr ⟨g, cur, h1, h2, h3, Below.blk hb h4, h5⟩
theorem cell_other {w : World} {g i b j : Nat} {v : Value} (h : b ≠ g) : (w.setCell ⟨g, i, none⟩ v).cell? ⟨b, j, none⟩ = w.cell? ⟨b, j, none⟩ := World.cell?_of_block (Below.heap_setCell w ⟨g, i, none⟩ v b h)
theorem lutsC_len (A : Nat → Option Addr) (C : Nat → Nat) (ls : List Lt) : (lutsC A C ls).length = ls.length * 2 := pairC_len _ _ _
/-- one of its tables has another row of signals -/
theorem Cop.set {B : Nat} {w wx : World} {X : Nat} {given : Int} {rs : List Rg} {ls : List Lt} {os : List Int} {ra : Option Addr} {rc : Nat} {la : Option Addr} {lc : Nat} {oa : Option Addr} {oc : Nat} {A : Nat → Option Addr} {C : Nat → Nat} (c : Cop B w wx X given rs ls os ra rc la lc oa oc A C) {k : Nat} (hk : k < ls.length) {g : Nat} (hg : la = some ⟨g, 0, none⟩) (a : Option Addr) (cc : Nat) :
    Cop B w (wx.setCell ⟨g, k * 2, none⟩ (.slice a (ltAt ls k).ins.length cc)) X given rs ls os ra rc la lc oa oc (fun j => if j = k then a else A j) (fun j => if j = k then cc else C j) := by
  rcases c.luts with h | ⟨g', cur, h1, h2, h3, h4, h5⟩
  · have := congrArg List.length h
    rw [lutsC_len] at this
    simp at this
    omega
  · rw [hg] at h1
    cases h1
    have hne : ∀ b, b ≠ g → (wx.setCell ⟨g, k * 2, none⟩ (.slice a (ltAt ls k).ins.length cc)).heap[b]? = wx.heap[b]? := fun b hb => Below.heap_setCell wx ⟨g, k * 2, none⟩ _ b hb
    have hsame : ∀ b, NotLa B ls.length la b → b < wx.heap.size → (wx.setCell ⟨g, k * 2, none⟩ (.slice a (ltAt ls k).ins.length cc)).heap[b]? = wx.heap[b]? := fun b hb _ => hne b fun e => hb.2 (by omega) (by rw [hg, e])
    refine ⟨c.below.setCell h2 _, (hne X (fun e => h3 e.symm)).trans c.me, c.regs.same hsame, c.outs.same hsame, .inr ⟨g, cur.setIfInBounds (k * 2) (.slice a (ltAt ls k).ins.length cc), hg, h2, h3, blk_set h4 _ _, ?_⟩, c.xB⟩
    rw [Array.toList_setIfInBounds, List.take_set, h5]
    unfold lutsC
    rw [pairC_set _ _ _ _ _ hk]
    refine pairC_congr fun i _ => ⟨?_, rfl⟩
    unfold lutF
    by_cases e : i = k
    · subst e; simp
    · simp [e]
theorem Cop.row {B : Nat} {w wx : World} {X : Nat} {given : Int} {rs : List Rg} {ls : List Lt} {os : List Int} {ra : Option Addr} {rc : Nat} {la : Option Addr} {lc : Nat} {oa : Option Addr} {oc : Nat} {A : Nat → Option Addr} {C : Nat → Nat} (c : Cop B w wx X given rs ls os ra rc la lc oa oc A C) : Lies (FromB B) wx la (lutsC A C ls) := by
  rcases c.luts with h | ⟨g, cur, h1, h2, h3, h4, h5⟩
  · exact .inl h
  · refine .inr ⟨g, 0, h1, h2, fun i u hu => ?_⟩
    rw [Nat.zero_add, blk_cell h4]
    rw [← h5] at hu
    obtain ⟨hi, _⟩ := List.getElem?_eq_some_iff.1 hu
    rw [List.getElem?_take_of_lt (by simp at hi; omega)] at hu
    simpa using hu

theorem Cop.at {B : Nat} {w wx : World} {X : Nat} {given : Int} {rs : List Rg} {ls : List Lt} {os : List Int} {ra : Option Addr} {rc : Nat} {la : Option Addr} {lc : Nat} {oa : Option Addr} {oc : Nat} {A : Nat → Option Addr} {C : Nat → Nat} (c : Cop B w wx X given rs ls os ra rc la lc oa oc A C) {k : Nat} (hk : k < ls.length) :
    ∃ g, la = some ⟨g, 0, none⟩ ∧ B ≤ g ∧ g < wx.heap.size ∧ wx.cell? ⟨g, k * 2, none⟩ = some (.slice (A k) (ltAt ls k).ins.length (C k)) ∧ wx.cell? ⟨g, k * 2 + 1, none⟩ = some (.int .i64 (ltAt ls k).table) ∧ ∀ i, wx.frozen? ⟨g, i, none⟩ = false := by
  rcases c.luts with h | ⟨g, cur, h1, h2, h3, h4, h5⟩
  · have := congrArg List.length h
    rw [lutsC_len] at this
    simp at this
    omega
  · obtain ⟨b, off, e1, _, _, c0, c1⟩ := c.row.pair hk
    rw [h1] at e1
    cases e1
    rw [Nat.zero_add] at c0 c1
    exact ⟨g, h1, h2, blk_lt h4, c0, c1, fun i => blk_frozen h4 i⟩

set_option maxRecDepth 100000 in
set_option maxHeartbeats 6400000 in
theorem copied_at {s : NetQ} {S : Nat → Prop} {w : World} {given : Int} {rs : List Rg} {ls : List Lt} {os : List Int} (h : NetT s S w given rs ls os) (hr1 : rs.length ≤ 20000) (hl1 : ls.length ≤ 20000) (ho1 : os.length ≤ 20000) (hi4 : ∀ i, i < ls.length → (ltAt ls i).ins.length ≤ 4) :
    Calls Try.prog 15 #[.pointer (some ⟨s.p, 0, none⟩)] w fun e w' => (∃ (ra : Option Addr) (rc : Nat) (la : Option Addr) (lc : Nat) (oa : Option Addr) (oc : Nat) (A : Nat → Option Addr) (C : Nat → Nat), e = .returned (.agg #[.int .i64 given, .slice ra rs.length rc, .slice la ls.length lc, .slice oa os.length oc]) ∧ Lies (FromB w.heap.size) w' ra (rgsC rs) ∧ LutsAt (FromB w.heap.size) w' la A C ls ∧ Lies (FromB w.heap.size) w' oa (intsC os)) ∧ Below w.heap.size w w' := by
  have H := hide h
  have HI := hide hi4
  have hpl := blk_lt h.me
  have HR0 := hide (blk_new w (.cells #[.int .i64 0, .slice none 0 0, .slice none 0 0, .slice none 0 0] 26))
  have HB0 := hide (below_alloc w (.cells #[.int .i64 0, .slice none 0 0, .slice none 0 0, .slice none 0 0] 26))
  clear h hi4
  go_enter Try.func15, Try.ntmps15
  go_wp2_with fail
  generalize hw0 : w.alloc (.cells #[.int .i64 0, .slice none 0 0, .slice none 0 0, .slice none 0 0] 26) = w1 at *
  have HZ0 : Hid (w1.heap.size = w.heap.size + 1) := hide (by rw [← hw0]; simp)
  clear hw0
  go_cut [3] from 6 to 26 (fun v wx => ∃ X ra rc la lc oa oc, v = .pointer (some ⟨X, 0, none⟩) ∧ Hid (Cop w1.heap.size w1 wx X given rs ls os ra rc la lc oa oc s.A s.C))
  case first =>
    have HSW : Hid (∀ W, Below w1.heap.size w1 W → W.cell? ⟨s.p, 0, none⟩ = some (.int .i64 given) ∧ W.cell? ⟨s.p, 1, none⟩ = some (.slice s.ra rs.length s.rc) ∧ W.cell? ⟨s.p, 2, none⟩ = some (.slice s.la ls.length s.lc) ∧ W.cell? ⟨s.p, 3, none⟩ = some (.slice s.oa os.length s.oc)) := hide fun W hb => ⟨((H.out.below HB0.out).below hb).c0, ((H.out.below HB0.out).below hb).c1, ((H.out.below HB0.out).below hb).c2, ((H.out.below HB0.out).below hb).c3⟩
    have HBw2 : Hid (Below w1.heap.size w1 w1.drew) := hide (Below.refl _ _).drew
    have HZw2 : Hid (w1.drew.heap.size = w1.heap.size) := hide rfl
    refine wp_region_held_drew (S := fun W => W.cell? ⟨s.p, 0, none⟩ = some (.int .i64 given) ∧ W.cell? ⟨s.p, 1, none⟩ = some (.slice s.ra rs.length s.rc) ∧ W.cell? ⟨s.p, 2, none⟩ = some (.slice s.la ls.length s.lc) ∧ W.cell? ⟨s.p, 3, none⟩ = some (.slice s.oa os.length s.oc)) (by kernel_rfl) (HSW.out _ HBw2.out) (fun _ => ?_)
    generalize w1.drew = w2 at *
    refine wpAnyH_take (i := 0) (oi := ⟨some 6, _, _, _, _, _⟩) (v := (.pointer (some ⟨s.p, 0, none⟩))) rfl (by kernel_rfl) (by kernel_rfl) (by kernel_rfl) (fun _ _ _ h => h) (Or.inl ⟨by rfl, fun W hS => by (obtain ⟨s0, s1, s2, s3⟩ := hS; go_simp)⟩) (HSW.out _ HBw2.out) ?_
    simp only [Act.put, List.setIfInBounds_toArray, List.set_cons_zero, List.set_cons_succ]
    refine wpAnyH_take (i := 4) (oi := ⟨some 10, _, _, _, _, _⟩) (v := (.pointer (some ⟨s.p, 0, none⟩))) rfl (by kernel_rfl) (by kernel_rfl) (by kernel_rfl) (fun _ _ _ h => h) (Or.inl ⟨by rfl, fun W hS => by (obtain ⟨s0, s1, s2, s3⟩ := hS; go_simp)⟩) (HSW.out _ HBw2.out) ?_
    simp only [Act.put, List.setIfInBounds_toArray, List.set_cons_zero, List.set_cons_succ]
    refine wpAnyH_take (i := 9) (oi := ⟨some 15, _, _, _, _, _⟩) (v := (.pointer (some ⟨s.p, 0, none⟩))) rfl (by kernel_rfl) (by kernel_rfl) (by kernel_rfl) (fun _ _ _ h => h) (Or.inl ⟨by rfl, fun W hS => by (obtain ⟨s0, s1, s2, s3⟩ := hS; go_simp)⟩) (HSW.out _ HBw2.out) ?_
    simp only [Act.put, List.setIfInBounds_toArray, List.set_cons_zero, List.set_cons_succ]
    refine wpAnyH_take (i := 14) (oi := ⟨some 20, _, _, _, _, _⟩) (v := (.pointer (some ⟨s.p, 0, none⟩))) rfl (by kernel_rfl) (by kernel_rfl) (by kernel_rfl) (fun _ _ _ h => h) (Or.inl ⟨by rfl, fun W hS => by (obtain ⟨s0, s1, s2, s3⟩ := hS; go_simp)⟩) (HSW.out _ HBw2.out) ?_
    simp only [Act.put, List.setIfInBounds_toArray, List.set_cons_zero, List.set_cons_succ]
    refine wpAnyH_take (i := 1) (oi := ⟨some 7, _, _, _, _, _⟩) (v := (.pointer (some ⟨s.p, 0, none⟩))) rfl (by kernel_rfl) (by kernel_rfl) (by kernel_rfl) (fun _ _ _ h => h) (Or.inl ⟨by rfl, fun W hS => by (obtain ⟨s0, s1, s2, s3⟩ := hS; go_simp)⟩) (HSW.out _ HBw2.out) ?_
    simp only [Act.put, List.setIfInBounds_toArray, List.set_cons_zero, List.set_cons_succ]
    refine wpAnyH_take (i := 5) (oi := ⟨some 11, _, _, _, _, _⟩) (v := (.pointer (some ⟨s.p, 0, none⟩))) rfl (by kernel_rfl) (by kernel_rfl) (by kernel_rfl) (fun _ _ _ h => h) (Or.inl ⟨by rfl, fun W hS => by (obtain ⟨s0, s1, s2, s3⟩ := hS; go_simp)⟩) (HSW.out _ HBw2.out) ?_
    simp only [Act.put, List.setIfInBounds_toArray, List.set_cons_zero, List.set_cons_succ]
    refine wpAnyH_take (i := 10) (oi := ⟨some 16, _, _, _, _, _⟩) (v := (.pointer (some ⟨s.p, 0, none⟩))) rfl (by kernel_rfl) (by kernel_rfl) (by kernel_rfl) (fun _ _ _ h => h) (Or.inl ⟨by rfl, fun W hS => by (obtain ⟨s0, s1, s2, s3⟩ := hS; go_simp)⟩) (HSW.out _ HBw2.out) ?_
    simp only [Act.put, List.setIfInBounds_toArray, List.set_cons_zero, List.set_cons_succ]
    refine wpAnyH_take (i := 15) (oi := ⟨some 21, _, _, _, _, _⟩) (v := (.pointer (some ⟨s.p, 0, none⟩))) rfl (by kernel_rfl) (by kernel_rfl) (by kernel_rfl) (fun _ _ _ h => h) (Or.inl ⟨by rfl, fun W hS => by (obtain ⟨s0, s1, s2, s3⟩ := hS; go_simp)⟩) (HSW.out _ HBw2.out) ?_
    simp only [Act.put, List.setIfInBounds_toArray, List.set_cons_zero, List.set_cons_succ]
    refine wpAnyH_take (i := 2) (oi := ⟨some 8, _, _, _, _, _⟩) (v := (.pointer (some ⟨s.p, 0, none⟩))) rfl (by kernel_rfl) (by kernel_rfl) (by kernel_rfl) (fun _ _ _ h => h) (Or.inl ⟨by rfl, fun W hS => by (obtain ⟨s0, s1, s2, s3⟩ := hS; go_simp)⟩) (HSW.out _ HBw2.out) ?_
    simp only [Act.put, List.setIfInBounds_toArray, List.set_cons_zero, List.set_cons_succ]
    refine wpAnyH_take (i := 6) (oi := ⟨some 12, _, _, _, _, _⟩) (v := (.pointer (some ⟨s.p, 1, none⟩))) rfl (by kernel_rfl) (by kernel_rfl) (by kernel_rfl) (fun _ _ _ h => h) (Or.inl ⟨by rfl, fun W hS => by (obtain ⟨s0, s1, s2, s3⟩ := hS; go_simp)⟩) (HSW.out _ HBw2.out) ?_
    simp only [Act.put, List.setIfInBounds_toArray, List.set_cons_zero, List.set_cons_succ]
    refine wpAnyH_take (i := 11) (oi := ⟨some 17, _, _, _, _, _⟩) (v := (.pointer (some ⟨s.p, 2, none⟩))) rfl (by kernel_rfl) (by kernel_rfl) (by kernel_rfl) (fun _ _ _ h => h) (Or.inl ⟨by rfl, fun W hS => by (obtain ⟨s0, s1, s2, s3⟩ := hS; go_simp)⟩) (HSW.out _ HBw2.out) ?_
    simp only [Act.put, List.setIfInBounds_toArray, List.set_cons_zero, List.set_cons_succ]
    refine wpAnyH_take (i := 16) (oi := ⟨some 22, _, _, _, _, _⟩) (v := (.pointer (some ⟨s.p, 3, none⟩))) rfl (by kernel_rfl) (by kernel_rfl) (by kernel_rfl) (fun _ _ _ h => h) (Or.inl ⟨by rfl, fun W hS => by (obtain ⟨s0, s1, s2, s3⟩ := hS; go_simp)⟩) (HSW.out _ HBw2.out) ?_
    simp only [Act.put, List.setIfInBounds_toArray, List.set_cons_zero, List.set_cons_succ]
    refine wpAnyH_take (i := 3) (oi := ⟨some 9, _, _, _, _, _⟩) (v := (.int .i64 given)) rfl (by kernel_rfl) (by kernel_rfl) (by kernel_rfl) (fun _ _ _ h => h) (Or.inl ⟨by rfl, fun W hS => by (obtain ⟨s0, s1, s2, s3⟩ := hS; go_simp)⟩) (HSW.out _ HBw2.out) ?_
    simp only [Act.put, List.setIfInBounds_toArray, List.set_cons_zero, List.set_cons_succ]
    refine wpAnyH_take (i := 7) (oi := ⟨some 13, _, _, _, _, _⟩) (v := (.slice s.ra rs.length s.rc)) rfl (by kernel_rfl) (by kernel_rfl) (by kernel_rfl) (fun _ _ _ h => h) (Or.inl ⟨by rfl, fun W hS => by (obtain ⟨s0, s1, s2, s3⟩ := hS; go_simp)⟩) (HSW.out _ HBw2.out) ?_
    simp only [Act.put, List.setIfInBounds_toArray, List.set_cons_zero, List.set_cons_succ]
    refine wpAnyH_take (i := 12) (oi := ⟨some 18, _, _, _, _, _⟩) (v := (.slice s.la ls.length s.lc)) rfl (by kernel_rfl) (by kernel_rfl) (by kernel_rfl) (fun _ _ _ h => h) (Or.inl ⟨by rfl, fun W hS => by (obtain ⟨s0, s1, s2, s3⟩ := hS; go_simp)⟩) (HSW.out _ HBw2.out) ?_
    simp only [Act.put, List.setIfInBounds_toArray, List.set_cons_zero, List.set_cons_succ]
    refine wpAnyH_take (i := 17) (oi := ⟨some 23, _, _, _, _, _⟩) (v := (.slice s.oa os.length s.oc)) rfl (by kernel_rfl) (by kernel_rfl) (by kernel_rfl) (fun _ _ _ h => h) (Or.inl ⟨by rfl, fun W hS => by (obtain ⟨s0, s1, s2, s3⟩ := hS; go_simp)⟩) (HSW.out _ HBw2.out) ?_
    simp only [Act.put, List.setIfInBounds_toArray, List.set_cons_zero, List.set_cons_succ]
    refine wpAnyH_ready (rs := [8, 20]) (by kernel_rfl) (by simp) ?_
    refine AllReadyH.cons rfl (fun K hK => ?_) (AllReadyH.cons rfl (fun K hK => ?_) AllReadyH.nil)
    · skip
      go_simp
      refine (cloneR_at rs.length (rgsC rs) (pairC_len _ _ _) (rgsC_one rs) s.ra s.rc w2 (((H.out.below HB0.out).below HBw2.out).regs) hr1).mono ?_
      rintro e w3 ⟨⟨ra, rc, rfl, hl⟩, hb⟩
      have HRL : Hid (Lies (fun b => w2.heap.size ≤ b ∧ b < w3.heap.size) w3 ra (rgsC rs)) := hide (hl.imp fun b hlt hS => ⟨hS, hlt⟩)
      have HSw3 := hide hb
      have HBw3 : Hid (Below w1.heap.size w1 w3) := hide (Below.step HBw2.out hb)
      clear hl hb
      refine hK.out _ _ (HSW.out _ HBw3.out) (fun _ => ?_)
      clear hK K
      refine wpAnyH_ready (rs := [13, 20]) (by kernel_rfl) (by simp) ?_
      refine AllReadyH.cons rfl (fun K hK => ?_) (AllReadyH.cons rfl (fun K hK => ?_) AllReadyH.nil)
      · skip
        go_simp
        refine (cloneL_at ls.length (lutsC s.A s.C ls) (pairC_len _ _ _) (lutsC_one s.A s.C ls) s.la s.lc w3 (((H.out.below HB0.out).below HBw3.out).luts.row) hl1).mono ?_
        rintro e w4 ⟨⟨la, lc, rfl, hl⟩, hb⟩
        have HLA : Hid (∀ g, 0 < ls.length → la = some ⟨g, 0, none⟩ → w3.heap.size ≤ g ∧ g < w4.heap.size) := hide fun g hne e => by
          rcases hl with h | ⟨g', cur, h1, h2, h3, _⟩
          · have := congrArg List.length h; rw [lutsC_len] at this; simp at this; omega
          · rw [e] at h1; cases h1; exact ⟨h2, blk_lt h3⟩
        have HLL := hide hl
        have HSw4 := hide hb
        have HBw4 : Hid (Below w1.heap.size w1 w4) := hide (Below.step HBw3.out hb)
        clear hl hb
        refine hK.out _ _ (HSW.out _ HBw4.out) (fun _ => ?_)
        clear hK K
        refine wpAnyH_ready (rs := [18, 20]) (by kernel_rfl) (by simp) ?_
        refine AllReadyH.cons rfl (fun K hK => ?_) (AllReadyH.cons rfl (fun K hK => ?_) AllReadyH.nil)
        · skip
          go_simp
          refine (cloneI_at os s.oa s.oc w4 (((H.out.below HB0.out).below HBw4.out).outs) ho1).mono ?_
          rintro e w5 ⟨⟨oa, oc, rfl, hl⟩, hb⟩
          have HOL : Hid (Lies (fun b => w4.heap.size ≤ b ∧ b < w5.heap.size) w5 oa (intsC os)) := hide (hl.imp fun b hlt hS => ⟨hS, hlt⟩)
          have HSw5 := hide hb
          have HBw5 : Hid (Below w1.heap.size w1 w5) := hide (Below.step HBw4.out hb)
          clear hl hb
          refine hK.out _ _ (HSW.out _ HBw5.out) (fun _ => ?_)
          clear hK K
          refine wpAnyH_take (i := 19) (oi := ⟨some 25, _, _, _, _, _⟩) (v := (.agg #[.int .i64 given, .slice ra rs.length rc, .slice la ls.length lc, .slice oa os.length oc])) rfl (by kernel_rfl) (by kernel_rfl) (by kernel_rfl) (fun _ _ _ h => h) (Or.inl ⟨by rfl, fun W hS => by (obtain ⟨s0, s1, s2, s3⟩ := hS; go_simp)⟩) (HSW.out _ HBw5.out) ?_
          simp only [Act.put, List.setIfInBounds_toArray, List.set_cons_zero, List.set_cons_succ]
          refine wpAnyH_ready (rs := [20]) (by kernel_rfl) (by simp) ?_
          refine AllReadyH.cons rfl (fun K hK => ?_) AllReadyH.nil
          go_simp
          have HSw6 : Hid (Below w5.heap.size w5 (w5.alloc (.cells #[.int .i64 0, .slice none 0 0, .slice none 0 0, .slice none 0 0] 26))) := hide (below_alloc _ _)
          have HBw6 : Hid (Below w1.heap.size w1 (w5.alloc (.cells #[.int .i64 0, .slice none 0 0, .slice none 0 0, .slice none 0 0] 26))) := hide (Below.step HBw5.out HSw6.out)
          have HXX := hide (blk_new w5 (.cells #[.int .i64 0, .slice none 0 0, .slice none 0 0, .slice none 0 0] 26))
          have HXL : Hid (w5.heap.size < (w5.alloc (.cells #[.int .i64 0, .slice none 0 0, .slice none 0 0, .slice none 0 0] 26)).heap.size) := hide (by simp)
          refine hK.out _ _ (HSW.out _ HBw6.out) (fun _ => ?_)
          clear hK K
          generalize (w5.alloc (.cells #[.int .i64 0, .slice none 0 0, .slice none 0 0, .slice none 0 0] 26)) = w6 at *
          refine wpAnyH_ready (rs := [21]) (by kernel_rfl) (by simp) ?_
          refine AllReadyH.cons rfl (fun K hK => ?_) AllReadyH.nil
          have e0 : w6.cell? ⟨w5.heap.size, 0, none⟩ = some (.int .i64 0) := by rw [blk_cell HXX.out]; rfl
          have f0 : w6.frozen? ⟨w5.heap.size, 0, none⟩ = false := blk_frozen HXX.out 0
          have e1 : w6.cell? ⟨w5.heap.size, 1, none⟩ = some (.slice none 0 0) := by rw [blk_cell HXX.out]; rfl
          have f1 : w6.frozen? ⟨w5.heap.size, 1, none⟩ = false := blk_frozen HXX.out 1
          have e2 : w6.cell? ⟨w5.heap.size, 2, none⟩ = some (.slice none 0 0) := by rw [blk_cell HXX.out]; rfl
          have f2 : w6.frozen? ⟨w5.heap.size, 2, none⟩ = false := blk_frozen HXX.out 2
          have e3 : w6.cell? ⟨w5.heap.size, 3, none⟩ = some (.slice none 0 0) := by rw [blk_cell HXX.out]; rfl
          have f3 : w6.frozen? ⟨w5.heap.size, 3, none⟩ = false := blk_frozen HXX.out 3
          go_simp
          have hX := HBw5.out.size
          have HBw7 : Hid (Below w1.heap.size w1 ((((w6.setCell ⟨w5.heap.size, 0, none⟩ (.int .i64 given)).setCell ⟨w5.heap.size, 1, none⟩ (.slice ra rs.length rc)).setCell ⟨w5.heap.size, 2, none⟩ (.slice la ls.length lc)).setCell ⟨w5.heap.size, 3, none⟩ (.slice oa os.length oc))) := hide ((((HBw6.out.setCell hX _).setCell hX _).setCell hX _).setCell hX _)
          clear hX
          refine hK.out _ _ (HSW.out _ HBw7.out) (fun _ => ?_)
          clear hK K
          refine wpAnyH_done (by kernel_rfl) ?_ _
          go_wp2_with fail
          go_meet
          case rel =>
            have z3 := HSw3.out.size
            have z4 := HSw4.out.size
            have z5 := HSw5.out.size
            have z6 := HSw6.out.size
            have zx := HXL.out
            have zb := HBw5.out.size
            have zc := HBw2.out.size
            have zl := HLA.out
            refine ⟨w5.heap.size, ra, rc, la, lc, oa, oc, rfl, hide ⟨HBw7.out, set4_me HXX.out, ?_, ?_, ?_, HBw5.out.size⟩⟩
            · refine ((((HRL.out.below HSw4.out).below HSw5.out).below HSw6.out).same fun b hb _ => set4_ne (by omega)).imp fun b _ hb => ⟨by omega, fun hn e => by have := zl b hn e; omega⟩
            · refine ((HOL.out.below HSw6.out).same fun b hb _ => set4_ne (by omega)).imp fun b _ hb => ⟨by omega, fun hn e => by have := zl b hn e; omega⟩
            · rcases HLL.out with h | ⟨g, cur, h1, h2, h3, h4⟩
              · exact .inl h
              · have hgl := blk_lt h3
                exact .inr ⟨g, cur, h1, by omega, by omega, (set4_ne (by omega)).trans (Below.blk HSw6.out (Below.blk HSw5.out h3)), h4⟩
        · skip
          go_simp
          have HSw5 : Hid (Below w4.heap.size w4 (w4.alloc (.cells #[.int .i64 0, .slice none 0 0, .slice none 0 0, .slice none 0 0] 26))) := hide (below_alloc _ _)
          have HBw5 : Hid (Below w1.heap.size w1 (w4.alloc (.cells #[.int .i64 0, .slice none 0 0, .slice none 0 0, .slice none 0 0] 26))) := hide (Below.step HBw4.out HSw5.out)
          have HXX := hide (blk_new w4 (.cells #[.int .i64 0, .slice none 0 0, .slice none 0 0, .slice none 0 0] 26))
          have HXL : Hid (w4.heap.size < (w4.alloc (.cells #[.int .i64 0, .slice none 0 0, .slice none 0 0, .slice none 0 0] 26)).heap.size) := hide (by simp)
          refine hK.out _ _ (HSW.out _ HBw5.out) (fun _ => ?_)
          clear hK K
          generalize (w4.alloc (.cells #[.int .i64 0, .slice none 0 0, .slice none 0 0, .slice none 0 0] 26)) = w5 at *
          refine wpAnyH_ready (rs := [18]) (by kernel_rfl) (by simp) ?_
          refine AllReadyH.cons rfl (fun K hK => ?_) AllReadyH.nil
          go_simp
          refine (cloneI_at os s.oa s.oc w5 (((H.out.below HB0.out).below HBw5.out).outs) ho1).mono ?_
          rintro e w6 ⟨⟨oa, oc, rfl, hl⟩, hb⟩
          have HOL : Hid (Lies (fun b => w5.heap.size ≤ b ∧ b < w6.heap.size) w6 oa (intsC os)) := hide (hl.imp fun b hlt hS => ⟨hS, hlt⟩)
          have HSw6 := hide hb
          have HBw6 : Hid (Below w1.heap.size w1 w6) := hide (Below.step HBw5.out hb)
          have HXX := hide (Below.blk hb HXX.out)
          clear hl hb
          refine hK.out _ _ (HSW.out _ HBw6.out) (fun _ => ?_)
          clear hK K
          refine wpAnyH_take (i := 19) (oi := ⟨some 25, _, _, _, _, _⟩) (v := (.agg #[.int .i64 given, .slice ra rs.length rc, .slice la ls.length lc, .slice oa os.length oc])) rfl (by kernel_rfl) (by kernel_rfl) (by kernel_rfl) (fun _ _ _ h => h) (Or.inl ⟨by rfl, fun W hS => by (obtain ⟨s0, s1, s2, s3⟩ := hS; go_simp)⟩) (HSW.out _ HBw6.out) ?_
          simp only [Act.put, List.setIfInBounds_toArray, List.set_cons_zero, List.set_cons_succ]
          refine wpAnyH_ready (rs := [21]) (by kernel_rfl) (by simp) ?_
          refine AllReadyH.cons rfl (fun K hK => ?_) AllReadyH.nil
          have e0 : w6.cell? ⟨w4.heap.size, 0, none⟩ = some (.int .i64 0) := by rw [blk_cell HXX.out]; rfl
          have f0 : w6.frozen? ⟨w4.heap.size, 0, none⟩ = false := blk_frozen HXX.out 0
          have e1 : w6.cell? ⟨w4.heap.size, 1, none⟩ = some (.slice none 0 0) := by rw [blk_cell HXX.out]; rfl
          have f1 : w6.frozen? ⟨w4.heap.size, 1, none⟩ = false := blk_frozen HXX.out 1
          have e2 : w6.cell? ⟨w4.heap.size, 2, none⟩ = some (.slice none 0 0) := by rw [blk_cell HXX.out]; rfl
          have f2 : w6.frozen? ⟨w4.heap.size, 2, none⟩ = false := blk_frozen HXX.out 2
          have e3 : w6.cell? ⟨w4.heap.size, 3, none⟩ = some (.slice none 0 0) := by rw [blk_cell HXX.out]; rfl
          have f3 : w6.frozen? ⟨w4.heap.size, 3, none⟩ = false := blk_frozen HXX.out 3
          go_simp
          have hX := HBw4.out.size
          have HBw7 : Hid (Below w1.heap.size w1 ((((w6.setCell ⟨w4.heap.size, 0, none⟩ (.int .i64 given)).setCell ⟨w4.heap.size, 1, none⟩ (.slice ra rs.length rc)).setCell ⟨w4.heap.size, 2, none⟩ (.slice la ls.length lc)).setCell ⟨w4.heap.size, 3, none⟩ (.slice oa os.length oc))) := hide ((((HBw6.out.setCell hX _).setCell hX _).setCell hX _).setCell hX _)
          clear hX
          refine hK.out _ _ (HSW.out _ HBw7.out) (fun _ => ?_)
          clear hK K
          refine wpAnyH_done (by kernel_rfl) ?_ _
          go_wp2_with fail
          go_meet
          case rel =>
            have z3 := HSw3.out.size
            have z4 := HSw4.out.size
            have z5 := HSw5.out.size
            have z6 := HSw6.out.size
            have zx := HXL.out
            have zb := HBw4.out.size
            have zc := HBw2.out.size
            have zl := HLA.out
            refine ⟨w4.heap.size, ra, rc, la, lc, oa, oc, rfl, hide ⟨HBw7.out, set4_me HXX.out, ?_, ?_, ?_, HBw4.out.size⟩⟩
            · refine ((((HRL.out.below HSw4.out).below HSw5.out).below HSw6.out).same fun b hb _ => set4_ne (by omega)).imp fun b _ hb => ⟨by omega, fun hn e => by have := zl b hn e; omega⟩
            · refine (HOL.out.same fun b hb _ => set4_ne (by omega)).imp fun b _ hb => ⟨by omega, fun hn e => by have := zl b hn e; omega⟩
            · rcases HLL.out with h | ⟨g, cur, h1, h2, h3, h4⟩
              · exact .inl h
              · have hgl := blk_lt h3
                exact .inr ⟨g, cur, h1, by omega, by omega, (set4_ne (by omega)).trans (Below.blk HSw6.out (Below.blk HSw5.out h3)), h4⟩
      · skip
        go_simp
        have HSw4 : Hid (Below w3.heap.size w3 (w3.alloc (.cells #[.int .i64 0, .slice none 0 0, .slice none 0 0, .slice none 0 0] 26))) := hide (below_alloc _ _)
        have HBw4 : Hid (Below w1.heap.size w1 (w3.alloc (.cells #[.int .i64 0, .slice none 0 0, .slice none 0 0, .slice none 0 0] 26))) := hide (Below.step HBw3.out HSw4.out)
        have HXX := hide (blk_new w3 (.cells #[.int .i64 0, .slice none 0 0, .slice none 0 0, .slice none 0 0] 26))
        have HXL : Hid (w3.heap.size < (w3.alloc (.cells #[.int .i64 0, .slice none 0 0, .slice none 0 0, .slice none 0 0] 26)).heap.size) := hide (by simp)
        refine hK.out _ _ (HSW.out _ HBw4.out) (fun _ => ?_)
        clear hK K
        generalize (w3.alloc (.cells #[.int .i64 0, .slice none 0 0, .slice none 0 0, .slice none 0 0] 26)) = w4 at *
        refine wpAnyH_ready (rs := [13]) (by kernel_rfl) (by simp) ?_
        refine AllReadyH.cons rfl (fun K hK => ?_) AllReadyH.nil
        go_simp
        refine (cloneL_at ls.length (lutsC s.A s.C ls) (pairC_len _ _ _) (lutsC_one s.A s.C ls) s.la s.lc w4 (((H.out.below HB0.out).below HBw4.out).luts.row) hl1).mono ?_
        rintro e w5 ⟨⟨la, lc, rfl, hl⟩, hb⟩
        have HLA : Hid (∀ g, 0 < ls.length → la = some ⟨g, 0, none⟩ → w4.heap.size ≤ g ∧ g < w5.heap.size) := hide fun g hne e => by
          rcases hl with h | ⟨g', cur, h1, h2, h3, _⟩
          · have := congrArg List.length h; rw [lutsC_len] at this; simp at this; omega
          · rw [e] at h1; cases h1; exact ⟨h2, blk_lt h3⟩
        have HLL := hide hl
        have HSw5 := hide hb
        have HBw5 : Hid (Below w1.heap.size w1 w5) := hide (Below.step HBw4.out hb)
        have HXX := hide (Below.blk hb HXX.out)
        clear hl hb
        refine hK.out _ _ (HSW.out _ HBw5.out) (fun _ => ?_)
        clear hK K
        refine wpAnyH_ready (rs := [18]) (by kernel_rfl) (by simp) ?_
        refine AllReadyH.cons rfl (fun K hK => ?_) AllReadyH.nil
        go_simp
        refine (cloneI_at os s.oa s.oc w5 (((H.out.below HB0.out).below HBw5.out).outs) ho1).mono ?_
        rintro e w6 ⟨⟨oa, oc, rfl, hl⟩, hb⟩
        have HOL : Hid (Lies (fun b => w5.heap.size ≤ b ∧ b < w6.heap.size) w6 oa (intsC os)) := hide (hl.imp fun b hlt hS => ⟨hS, hlt⟩)
        have HSw6 := hide hb
        have HBw6 : Hid (Below w1.heap.size w1 w6) := hide (Below.step HBw5.out hb)
        have HXX := hide (Below.blk hb HXX.out)
        clear hl hb
        refine hK.out _ _ (HSW.out _ HBw6.out) (fun _ => ?_)
        clear hK K
        refine wpAnyH_take (i := 19) (oi := ⟨some 25, _, _, _, _, _⟩) (v := (.agg #[.int .i64 given, .slice ra rs.length rc, .slice la ls.length lc, .slice oa os.length oc])) rfl (by kernel_rfl) (by kernel_rfl) (by kernel_rfl) (fun _ _ _ h => h) (Or.inl ⟨by rfl, fun W hS => by (obtain ⟨s0, s1, s2, s3⟩ := hS; go_simp)⟩) (HSW.out _ HBw6.out) ?_
        simp only [Act.put, List.setIfInBounds_toArray, List.set_cons_zero, List.set_cons_succ]
        refine wpAnyH_ready (rs := [21]) (by kernel_rfl) (by simp) ?_
        refine AllReadyH.cons rfl (fun K hK => ?_) AllReadyH.nil
        have e0 : w6.cell? ⟨w3.heap.size, 0, none⟩ = some (.int .i64 0) := by rw [blk_cell HXX.out]; rfl
        have f0 : w6.frozen? ⟨w3.heap.size, 0, none⟩ = false := blk_frozen HXX.out 0
        have e1 : w6.cell? ⟨w3.heap.size, 1, none⟩ = some (.slice none 0 0) := by rw [blk_cell HXX.out]; rfl
        have f1 : w6.frozen? ⟨w3.heap.size, 1, none⟩ = false := blk_frozen HXX.out 1
        have e2 : w6.cell? ⟨w3.heap.size, 2, none⟩ = some (.slice none 0 0) := by rw [blk_cell HXX.out]; rfl
        have f2 : w6.frozen? ⟨w3.heap.size, 2, none⟩ = false := blk_frozen HXX.out 2
        have e3 : w6.cell? ⟨w3.heap.size, 3, none⟩ = some (.slice none 0 0) := by rw [blk_cell HXX.out]; rfl
        have f3 : w6.frozen? ⟨w3.heap.size, 3, none⟩ = false := blk_frozen HXX.out 3
        go_simp
        have hX := HBw3.out.size
        have HBw7 : Hid (Below w1.heap.size w1 ((((w6.setCell ⟨w3.heap.size, 0, none⟩ (.int .i64 given)).setCell ⟨w3.heap.size, 1, none⟩ (.slice ra rs.length rc)).setCell ⟨w3.heap.size, 2, none⟩ (.slice la ls.length lc)).setCell ⟨w3.heap.size, 3, none⟩ (.slice oa os.length oc))) := hide ((((HBw6.out.setCell hX _).setCell hX _).setCell hX _).setCell hX _)
        clear hX
        refine hK.out _ _ (HSW.out _ HBw7.out) (fun _ => ?_)
        clear hK K
        refine wpAnyH_done (by kernel_rfl) ?_ _
        go_wp2_with fail
        go_meet
        case rel =>
          have z3 := HSw3.out.size
          have z4 := HSw4.out.size
          have z5 := HSw5.out.size
          have z6 := HSw6.out.size
          have zx := HXL.out
          have zb := HBw3.out.size
          have zc := HBw2.out.size
          have zl := HLA.out
          refine ⟨w3.heap.size, ra, rc, la, lc, oa, oc, rfl, hide ⟨HBw7.out, set4_me HXX.out, ?_, ?_, ?_, HBw3.out.size⟩⟩
          · refine ((((HRL.out.below HSw4.out).below HSw5.out).below HSw6.out).same fun b hb _ => set4_ne (by omega)).imp fun b _ hb => ⟨by omega, fun hn e => by have := zl b hn e; omega⟩
          · refine (HOL.out.same fun b hb _ => set4_ne (by omega)).imp fun b _ hb => ⟨by omega, fun hn e => by have := zl b hn e; omega⟩
          · rcases HLL.out with h | ⟨g, cur, h1, h2, h3, h4⟩
            · exact .inl h
            · have hgl := blk_lt h3
              exact .inr ⟨g, cur, h1, by omega, by omega, (set4_ne (by omega)).trans (Below.blk HSw6.out h3), h4⟩
    · skip
      go_simp
      have HSw3 : Hid (Below w2.heap.size w2 (w2.alloc (.cells #[.int .i64 0, .slice none 0 0, .slice none 0 0, .slice none 0 0] 26))) := hide (below_alloc _ _)
      have HBw3 : Hid (Below w1.heap.size w1 (w2.alloc (.cells #[.int .i64 0, .slice none 0 0, .slice none 0 0, .slice none 0 0] 26))) := hide (Below.step HBw2.out HSw3.out)
      have HXX := hide (blk_new w2 (.cells #[.int .i64 0, .slice none 0 0, .slice none 0 0, .slice none 0 0] 26))
      have HXL : Hid (w2.heap.size < (w2.alloc (.cells #[.int .i64 0, .slice none 0 0, .slice none 0 0, .slice none 0 0] 26)).heap.size) := hide (by simp)
      refine hK.out _ _ (HSW.out _ HBw3.out) (fun _ => ?_)
      clear hK K
      generalize (w2.alloc (.cells #[.int .i64 0, .slice none 0 0, .slice none 0 0, .slice none 0 0] 26)) = w3 at *
      refine wpAnyH_ready (rs := [8]) (by kernel_rfl) (by simp) ?_
      refine AllReadyH.cons rfl (fun K hK => ?_) AllReadyH.nil
      go_simp
      refine (cloneR_at rs.length (rgsC rs) (pairC_len _ _ _) (rgsC_one rs) s.ra s.rc w3 (((H.out.below HB0.out).below HBw3.out).regs) hr1).mono ?_
      rintro e w4 ⟨⟨ra, rc, rfl, hl⟩, hb⟩
      have HRL : Hid (Lies (fun b => w3.heap.size ≤ b ∧ b < w4.heap.size) w4 ra (rgsC rs)) := hide (hl.imp fun b hlt hS => ⟨hS, hlt⟩)
      have HSw4 := hide hb
      have HBw4 : Hid (Below w1.heap.size w1 w4) := hide (Below.step HBw3.out hb)
      have HXX := hide (Below.blk hb HXX.out)
      clear hl hb
      refine hK.out _ _ (HSW.out _ HBw4.out) (fun _ => ?_)
      clear hK K
      refine wpAnyH_ready (rs := [13]) (by kernel_rfl) (by simp) ?_
      refine AllReadyH.cons rfl (fun K hK => ?_) AllReadyH.nil
      go_simp
      refine (cloneL_at ls.length (lutsC s.A s.C ls) (pairC_len _ _ _) (lutsC_one s.A s.C ls) s.la s.lc w4 (((H.out.below HB0.out).below HBw4.out).luts.row) hl1).mono ?_
      rintro e w5 ⟨⟨la, lc, rfl, hl⟩, hb⟩
      have HLA : Hid (∀ g, 0 < ls.length → la = some ⟨g, 0, none⟩ → w4.heap.size ≤ g ∧ g < w5.heap.size) := hide fun g hne e => by
        rcases hl with h | ⟨g', cur, h1, h2, h3, _⟩
        · have := congrArg List.length h; rw [lutsC_len] at this; simp at this; omega
        · rw [e] at h1; cases h1; exact ⟨h2, blk_lt h3⟩
      have HLL := hide hl
      have HSw5 := hide hb
      have HBw5 : Hid (Below w1.heap.size w1 w5) := hide (Below.step HBw4.out hb)
      have HXX := hide (Below.blk hb HXX.out)
      clear hl hb
      refine hK.out _ _ (HSW.out _ HBw5.out) (fun _ => ?_)
      clear hK K
      refine wpAnyH_ready (rs := [18]) (by kernel_rfl) (by simp) ?_
      refine AllReadyH.cons rfl (fun K hK => ?_) AllReadyH.nil
      go_simp
      refine (cloneI_at os s.oa s.oc w5 (((H.out.below HB0.out).below HBw5.out).outs) ho1).mono ?_
      rintro e w6 ⟨⟨oa, oc, rfl, hl⟩, hb⟩
      have HOL : Hid (Lies (fun b => w5.heap.size ≤ b ∧ b < w6.heap.size) w6 oa (intsC os)) := hide (hl.imp fun b hlt hS => ⟨hS, hlt⟩)
      have HSw6 := hide hb
      have HBw6 : Hid (Below w1.heap.size w1 w6) := hide (Below.step HBw5.out hb)
      have HXX := hide (Below.blk hb HXX.out)
      clear hl hb
      refine hK.out _ _ (HSW.out _ HBw6.out) (fun _ => ?_)
      clear hK K
      refine wpAnyH_take (i := 19) (oi := ⟨some 25, _, _, _, _, _⟩) (v := (.agg #[.int .i64 given, .slice ra rs.length rc, .slice la ls.length lc, .slice oa os.length oc])) rfl (by kernel_rfl) (by kernel_rfl) (by kernel_rfl) (fun _ _ _ h => h) (Or.inl ⟨by rfl, fun W hS => by (obtain ⟨s0, s1, s2, s3⟩ := hS; go_simp)⟩) (HSW.out _ HBw6.out) ?_
      simp only [Act.put, List.setIfInBounds_toArray, List.set_cons_zero, List.set_cons_succ]
      refine wpAnyH_ready (rs := [21]) (by kernel_rfl) (by simp) ?_
      refine AllReadyH.cons rfl (fun K hK => ?_) AllReadyH.nil
      have e0 : w6.cell? ⟨w2.heap.size, 0, none⟩ = some (.int .i64 0) := by rw [blk_cell HXX.out]; rfl
      have f0 : w6.frozen? ⟨w2.heap.size, 0, none⟩ = false := blk_frozen HXX.out 0
      have e1 : w6.cell? ⟨w2.heap.size, 1, none⟩ = some (.slice none 0 0) := by rw [blk_cell HXX.out]; rfl
      have f1 : w6.frozen? ⟨w2.heap.size, 1, none⟩ = false := blk_frozen HXX.out 1
      have e2 : w6.cell? ⟨w2.heap.size, 2, none⟩ = some (.slice none 0 0) := by rw [blk_cell HXX.out]; rfl
      have f2 : w6.frozen? ⟨w2.heap.size, 2, none⟩ = false := blk_frozen HXX.out 2
      have e3 : w6.cell? ⟨w2.heap.size, 3, none⟩ = some (.slice none 0 0) := by rw [blk_cell HXX.out]; rfl
      have f3 : w6.frozen? ⟨w2.heap.size, 3, none⟩ = false := blk_frozen HXX.out 3
      go_simp
      have hX := HBw2.out.size
      have HBw7 : Hid (Below w1.heap.size w1 ((((w6.setCell ⟨w2.heap.size, 0, none⟩ (.int .i64 given)).setCell ⟨w2.heap.size, 1, none⟩ (.slice ra rs.length rc)).setCell ⟨w2.heap.size, 2, none⟩ (.slice la ls.length lc)).setCell ⟨w2.heap.size, 3, none⟩ (.slice oa os.length oc))) := hide ((((HBw6.out.setCell hX _).setCell hX _).setCell hX _).setCell hX _)
      clear hX
      refine hK.out _ _ (HSW.out _ HBw7.out) (fun _ => ?_)
      clear hK K
      refine wpAnyH_done (by kernel_rfl) ?_ _
      go_wp2_with fail
      go_meet
      case rel =>
        have z3 := HSw3.out.size
        have z4 := HSw4.out.size
        have z5 := HSw5.out.size
        have z6 := HSw6.out.size
        have zx := HXL.out
        have zb := HBw2.out.size
        have zc := HBw2.out.size
        have zl := HLA.out
        refine ⟨w2.heap.size, ra, rc, la, lc, oa, oc, rfl, hide ⟨HBw7.out, set4_me HXX.out, ?_, ?_, ?_, HBw2.out.size⟩⟩
        · refine (((HRL.out.below HSw5.out).below HSw6.out).same fun b hb _ => set4_ne (by omega)).imp fun b _ hb => ⟨by omega, fun hn e => by have := zl b hn e; omega⟩
        · refine (HOL.out.same fun b hb _ => set4_ne (by omega)).imp fun b _ hb => ⟨by omega, fun hn e => by have := zl b hn e; omega⟩
        · rcases HLL.out with h | ⟨g, cur, h1, h2, h3, h4⟩
          · exact .inl h
          · have hgl := blk_lt h3
            exact .inr ⟨g, cur, h1, by omega, by omega, (set4_ne (by omega)).trans (Below.blk HSw6.out h3), h4⟩
  case rest =>
    obtain ⟨X, ra, rc, la, lc, oa, oc, rfl, hcp⟩ := hcut
    have m2 : wc.cell? ⟨X, 2, none⟩ = some (.slice la ls.length lc) := by rw [blk_cell hcp.out.me]; rfl
    have HW1 : Hid (Below w1.heap.size w1 wc) := hide hcp.out.below
    go_wp2_with fail
    clear m2
    go_loopw [4, 5, 29] (fun _ _ i wr => ∃ (k : Nat) (A : Nat → Option Addr) (C : Nat → Nat), k ≤ ls.length ∧ i = .int .i64 k ∧ Hid (Cop w1.heap.size w1 wr X given rs ls os ra rc la lc oa oc A C) ∧ Hid (∀ i, i < k → Lies (NotLa w1.heap.size ls.length la) wr (A i) (intsC (ltAt ls i).ins)) ∧ Hid (∀ i, k ≤ i → A i = s.A i ∧ C i = s.C i)) (fun _ _ i _ => ls.length - (intOf i).toNat)
    case atStart => exact ⟨0, s.A, s.C, Nat.zero_le _, rfl, hcp, hide (fun i hi => absurd hi (Nat.not_lt_zero _)), hide (fun _ _ => ⟨rfl, rfl⟩)⟩
    case round =>
      clear hcp
      obtain ⟨k, A, C, hk, rfl, hc, hd, ho⟩ := hrel
      by_cases hlt : k < ls.length
      · have hki : (k : Int) < (ls.length : Int) := by omega
        obtain ⟨g, e1, hgB, hgl, n0, n1, _⟩ := hc.out.at hlt
        have hgl := hide hgl
        have hgB := hide hgB
        subst e1
        have hsz := hide hc.out.below.size
        have hAk := ho.out k (Nat.le_refl _)
        have HIN := hide (((H.out.luts.below (Below.step HB0.out hc.out.below)).ins k hlt))
        rw [← hAk.1] at HIN
        have HB1 : Hid (Below wr.heap.size wr (wr.alloc (.cells #[.slice (A k) (ltAt ls k).ins.length (C k), .int .i64 (ltAt ls k).table] 44)).drew) := hide (below_alloc _ _).drew
        have HN1 : Hid ((wr.alloc (.cells #[.slice (A k) (ltAt ls k).ins.length (C k), .int .i64 (ltAt ls k).table] 44)).drew.heap[wr.heap.size]? = some (.cells #[.slice (A k) (ltAt ls k).ins.length (C k), .int .i64 (ltAt ls k).table] 44 (0, 0))) := hide (blk_new _ _)
        have HL1 : Hid (wr.heap.size < (wr.alloc (.cells #[.slice (A k) (ltAt ls k).ins.length (C k), .int .i64 (ltAt ls k).table] 44)).drew.heap.size) := hide (blk_lt HN1.out)
        have HSW0 : Hid (∀ W, Below (wr.alloc (.cells #[.slice (A k) (ltAt ls k).ins.length (C k), .int .i64 (ltAt ls k).table] 44)).drew.heap.size (wr.alloc (.cells #[.slice (A k) (ltAt ls k).ins.length (C k), .int .i64 (ltAt ls k).table] 44)).drew W → W.cell? ⟨X, 2, none⟩ = some (.slice (some ⟨g, 0, none⟩) ls.length lc) ∧ W.cell? ⟨wr.heap.size, 0, none⟩ = some (.slice (A k) (ltAt ls k).ins.length (C k))) := hide fun W hb => ⟨by rw [blk_cell (Below.blk hb (Below.blk HB1.out hc.out.me))]; rfl, by rw [blk_cell (Below.blk hb HN1.out)]; rfl⟩
        have HCL := hide (cloneI_at (ltAt ls k).ins (A k) (C k) (wr.alloc (.cells #[.slice (A k) (ltAt ls k).ins.length (C k), .int .i64 (ltAt ls k).table] 44)).drew (HIN.out.below HB1.out) (by have := HI.out k hlt; omega))
        clear hAk
        go_wp2_with fail
        clear n0 n1
        refine wp_region_held_drew (S := fun W => W.cell? ⟨X, 2, none⟩ = some (.slice (some ⟨g, 0, none⟩) ls.length lc) ∧ W.cell? ⟨wr.heap.size, 0, none⟩ = some (.slice (A k) (ltAt ls k).ins.length (C k))) (by kernel_rfl) (HSW0.out _ (Below.refl _ _)) (fun _ => ?_)
        generalize (wr.alloc (.cells #[.slice (A k) (ltAt ls k).ins.length (C k), .int .i64 (ltAt ls k).table] 44)).drew = y1 at *
        refine wpAnyH_take (i := 0) (oi := ⟨some 34, _, _, _, _, _⟩) (v := (.pointer (some ⟨X, 2, none⟩))) rfl (by kernel_rfl) (by kernel_rfl) (by kernel_rfl) (fun _ _ _ h => h) (Or.inl ⟨by rfl, fun W hS => by (obtain ⟨s0, s1⟩ := hS; go_simp)⟩) (HSW0.out _ (Below.refl _ _)) ?_
        simp only [Act.put, List.setIfInBounds_toArray, List.set_cons_zero, List.set_cons_succ]
        refine wpAnyH_take (i := 1) (oi := ⟨some 35, _, _, _, _, _⟩) (v := (.slice (some ⟨g, 0, none⟩) ls.length lc)) rfl (by kernel_rfl) (by kernel_rfl) (by kernel_rfl) (fun _ _ _ h => h) (Or.inl ⟨by rfl, fun W hS => by (obtain ⟨s0, s1⟩ := hS; go_simp)⟩) (HSW0.out _ (Below.refl _ _)) ?_
        simp only [Act.put, List.setIfInBounds_toArray, List.set_cons_zero, List.set_cons_succ]
        refine wpAnyH_take (i := 2) (oi := ⟨some 36, _, _, _, _, _⟩) (v := (.int .i64 k)) rfl (by kernel_rfl) (by kernel_rfl) (by kernel_rfl) (fun _ _ _ h => h) (Or.inl ⟨by rfl, fun W hS => by (obtain ⟨s0, s1⟩ := hS; go_simp)⟩) (HSW0.out _ (Below.refl _ _)) ?_
        simp only [Act.put, List.setIfInBounds_toArray, List.set_cons_zero, List.set_cons_succ]
        refine wpAnyH_take (i := 3) (oi := ⟨some 37, _, _, _, _, _⟩) (v := (.pointer (some ⟨wr.heap.size, 0, none⟩))) rfl (by kernel_rfl) (by kernel_rfl) (by kernel_rfl) (fun _ _ _ h => h) (Or.inl ⟨by rfl, fun W hS => by (obtain ⟨s0, s1⟩ := hS; go_simp)⟩) (HSW0.out _ (Below.refl _ _)) ?_
        simp only [Act.put, List.setIfInBounds_toArray, List.set_cons_zero, List.set_cons_succ]
        refine wpAnyH_take (i := 4) (oi := ⟨some 38, _, _, _, _, _⟩) (v := (.slice (A k) (ltAt ls k).ins.length (C k))) rfl (by kernel_rfl) (by kernel_rfl) (by kernel_rfl) (fun _ _ _ h => h) (Or.inl ⟨by rfl, fun W hS => by (obtain ⟨s0, s1⟩ := hS; go_simp)⟩) (HSW0.out _ (Below.refl _ _)) ?_
        simp only [Act.put, List.setIfInBounds_toArray, List.set_cons_zero, List.set_cons_succ]
        refine wpAnyH_ready (rs := [5]) (by kernel_rfl) (by simp) ?_
        refine AllReadyH.cons rfl (fun K hK => ?_) AllReadyH.nil
        go_simp
        refine HCL.out.mono ?_
        rintro e y2 ⟨⟨na, nc, rfl, hl⟩, hb⟩
        have HNL := hide hl
        have HB2 := hide (Below.step HB1.out hb)
        have HY2 := hide hb
        have e0 := (hc.out.more HB2.out hsz.out).at hlt
        obtain ⟨g', e1, _, _, e2, e3, e4⟩ := e0
        cases e1
        have e4 := e4 (k * 2)
        clear hl hb e3
        refine hK.out _ _ (HSW0.out _ HY2.out) (fun _ => ?_)
        clear hK K
        refine wpAnyH_take (i := 6) (oi := ⟨some 40, _, _, _, _, _⟩) (v := (.pointer (some ⟨g, k * 2, none⟩))) rfl (by kernel_rfl) (by kernel_rfl) (by kernel_rfl) (fun _ _ _ h => h) (Or.inl ⟨by rfl, fun W hS => by (obtain ⟨s0, s1⟩ := hS; go_simp)⟩) (HSW0.out _ HY2.out) ?_
        simp only [Act.put, List.setIfInBounds_toArray, List.set_cons_zero, List.set_cons_succ]
        refine wpAnyH_take (i := 7) (oi := ⟨some 41, _, _, _, _, _⟩) (v := (.pointer (some ⟨g, k * 2, none⟩))) rfl (by kernel_rfl) (by kernel_rfl) (by kernel_rfl) (fun _ _ _ h => h) (Or.inl ⟨by rfl, fun W hS => by (obtain ⟨s0, s1⟩ := hS; go_simp)⟩) (HSW0.out _ HY2.out) ?_
        simp only [Act.put, List.setIfInBounds_toArray, List.set_cons_zero, List.set_cons_succ]
        refine wpAnyH_ready (rs := [8]) (by kernel_rfl) (by simp) ?_
        refine AllReadyH.cons rfl (fun K hK => ?_) AllReadyH.nil
        go_simp
        have HSX : Hid (X ≠ g) := hide (by rintro rfl; rcases hc.out.luts with h | ⟨g', cur, h1, h2, h3, h4, h5⟩; (have := congrArg List.length h; rw [lutsC_len] at this; simp at this; omega); (cases h1; exact h3 rfl))
        refine hK.out _ _ ⟨(cell_other (b := X) (by exact fun e => HSX.out e)).trans (HSW0.out _ HY2.out).1, (cell_other (b := wr.heap.size) (by have := hgl.out; show wr.heap.size ≠ g; omega)).trans (HSW0.out _ HY2.out).2⟩ (fun _ => ?_)
        clear hK K
        refine wpAnyH_done (by kernel_rfl) ?_ _
        go_wp2_with fail
        have HCS := hide ((hc.out.more HB2.out hsz.out).set hlt rfl na nc)
        refine ⟨⟨k + 1, (fun j => if j = k then na else A j), (fun j => if j = k then nc else C j), by omega, by go_num, HCS, hide fun i hi => ?_, hide fun i hi => ?_⟩, by simp [intOf]; omega⟩
        · have hsame : ∀ b, NotLa w1.heap.size ls.length (some ⟨g, 0, none⟩) b → b < y2.heap.size → (y2.setCell ⟨g, k * 2, none⟩ (.slice na (ltAt ls k).ins.length nc)).heap[b]? = y2.heap[b]? := fun b hb _ => Below.heap_setCell y2 ⟨g, k * 2, none⟩ _ b fun e => hb.2 (by omega) (by rw [e])
          by_cases hik : i = k
          · subst hik
            simp only [if_true]
            refine (HNL.out.imp fun b _ hb => ⟨?_, fun _ e => ?_⟩).same hsame
            · have h1 := hsz.out
              have h2 := HL1.out
              have h3 : y1.heap.size ≤ b := hb
              omega
            · cases e
              have h1 := hgl.out
              have h2 := HL1.out
              have h3 : y1.heap.size ≤ g := hb
              omega
          · simp only [hik, if_false]
            exact ((hd.out i (by omega)).below HB2.out).same hsame
        · have hik : ¬ i = k := by omega
          simp only [hik, if_false]
          exact ho.out i (by omega)
      · have HK : Hid (k = ls.length) := hide (by omega)
        have hme := hc.out.me
        have x0 : wr.cell? ⟨X, 0, none⟩ = some (.int .i64 given) := by rw [blk_cell hme]; rfl
        have x1 : wr.cell? ⟨X, 1, none⟩ = some (.slice ra rs.length rc) := by rw [blk_cell hme]; rfl
        have x2 : wr.cell? ⟨X, 2, none⟩ = some (.slice la ls.length lc) := by rw [blk_cell hme]; rfl
        have x3 : wr.cell? ⟨X, 3, none⟩ = some (.slice oa os.length oc) := by rw [blk_cell hme]; rfl
        have hr0 := Below.blk hc.out.below HR0.out
        have HRW := hide hr0
        have r0 : wr.cell? ⟨w.heap.size, 0, none⟩ = some (.int .i64 0) := by rw [blk_cell hr0]; rfl
        have r1 : wr.cell? ⟨w.heap.size, 1, none⟩ = some (.slice none 0 0) := by rw [blk_cell hr0]; rfl
        have r2 : wr.cell? ⟨w.heap.size, 2, none⟩ = some (.slice none 0 0) := by rw [blk_cell hr0]; rfl
        have r3 : wr.cell? ⟨w.heap.size, 3, none⟩ = some (.slice none 0 0) := by rw [blk_cell hr0]; rfl
        have f0 : wr.frozen? ⟨w.heap.size, 0, none⟩ = false := blk_frozen hr0 0
        have f1 : wr.frozen? ⟨w.heap.size, 1, none⟩ = false := blk_frozen hr0 1
        have f2 : wr.frozen? ⟨w.heap.size, 2, none⟩ = false := blk_frozen hr0 2
        have f3 : wr.frozen? ⟨w.heap.size, 3, none⟩ = false := blk_frozen hr0 3
        clear hme hr0
        go_wp2_with fail
        refine bodyPost_ret (results_cell_row rfl _ _ w.heap.size _ _ (0, 0) _ rfl (set4_me HRW.out) Try.underlying26 rfl (by kernel_rfl)) rfl ?_
        have hz := HZ0.out
        have hsame : ∀ b, FromB w1.heap.size b → b < wr.heap.size → ((((wr.setCell ⟨w.heap.size, 0, none⟩ (.int .i64 given)).setCell ⟨w.heap.size, 1, none⟩ (.slice ra rs.length rc)).setCell ⟨w.heap.size, 2, none⟩ (.slice la ls.length lc)).setCell ⟨w.heap.size, 3, none⟩ (.slice oa os.length oc)).heap[b]? = wr.heap[b]? := fun b hb _ => set4_ne (by have : w1.heap.size ≤ b := hb; omega)
        have hup : ∀ b, b < ((((wr.setCell ⟨w.heap.size, 0, none⟩ (.int .i64 given)).setCell ⟨w.heap.size, 1, none⟩ (.slice ra rs.length rc)).setCell ⟨w.heap.size, 2, none⟩ (.slice la ls.length lc)).setCell ⟨w.heap.size, 3, none⟩ (.slice oa os.length oc)).heap.size → FromB w1.heap.size b → FromB w.heap.size b := fun b _ hb => by
          have h1 : w1.heap.size ≤ b := hb
          show w.heap.size ≤ b
          omega
        refine ⟨⟨ra, rc, la, lc, oa, oc, A, C, rfl, ?_, ⟨?_, fun i hi => ?_⟩, ?_⟩, ?_⟩
        · exact ((hc.out.regs.imp fun b _ hb => hb.1).same hsame).imp hup
        · exact (hc.out.row.same hsame).imp hup
        · exact (((hd.out i (by omega)).imp fun b _ hb => hb.1).same hsame).imp hup
        · exact ((hc.out.outs.imp fun b _ hb => hb.1).same hsame).imp hup
        · have hb := Below.step HB0.out hc.out.below
          exact (((hb.setCell (Nat.le_refl _) _).setCell (Nat.le_refl _) _).setCell (Nat.le_refl _) _).setCell (Nat.le_refl _) _
end Go.Proofs.Ytacgepdmhdcdkaa
