/-
  CONTRACT of node. (Its regions are written by mklno.py.)
-/
import Derived.Test.YtacgepdmhdcdkaaLPa
set_option linter.unusedSimpArgs false
set_option linter.unusedVariables false
namespace Go.Proofs.Ytacgepdmhdcdkaa
open Go.RowKit

theorem behI_set (D : List Int) (ins : List Int) (s : Nat) (v : Int) : ∀ k, k ≤ ins.length → (∀ q ∈ ins, 0 ≤ q ∧ q ≠ (s : Int)) → behI (D.set s v) ins k = behI D ins k
  | 0, _, _ => rfl
  | k + 1, hk, h => by
    have hm : outAt ins k ∈ ins := by
      have : outAt ins k = ins[k] := by simp [outAt, show k < ins.length by omega]
      rw [this]; exact List.getElem_mem _
    have hq := h _ hm
    have e : outAt (D.set s v) (outAt ins k).toNat = outAt D (outAt ins k).toNat := by
      unfold outAt
      rw [List.getElem?_set_ne (by unfold outAt at hq; omega)]
    simp only [behI]
    rw [behI_set D ins s v k (by omega) h, e]
theorem deepI_set (D : List Int) (l : Lt) (s : Nat) (v : Int) (h : ∀ q ∈ l.ins, 0 ≤ q ∧ q ≠ (s : Int)) : deepI (D.set s v) l = deepI D l := by
  unfold deepI
  rw [behI_set D l.ins s v l.ins.length (Nat.le_refl _) h]

/-- what node answers -/
def NodeOut (gn : Nat) (ns : List Nd) (i P Dg : Nat) (wa : Option Addr) (wc : Nat) (X : Nat → List Wy) (D : List Int) (w : World) (e : Ending) (w' : World) : Prop :=
  ∃ (xs : List Wy) (sa : Option Addr) (sc : Nat) (D' : List Int), e = .returned (.slice sa xs.length sc) ∧ Lies (FromB w.heap.size) w' sa (wyC xs) ∧ (∀ x ∈ xs, Lies (FromB w.heap.size) w' x.a (intsC x.l.ins)) ∧ NodeW gn ns (fun j => (X j).map (·.l)) D' i (xs.map (·.l)) ∧ D'.length = D.length ∧ (∀ s, s ≠ firstS gn ns + i → outAt D' s = outAt D s) ∧ (D' = D ∨ ∃ z, D' = D.set (firstS gn ns + i) (deepI D z)) ∧
    w'.heap[P]? = some (.cells #[.int .i64 (firstS gn ns), .int .i64 (gn + regsN ns (i + 1) : Nat), .slice wa i wc, .slice (some ⟨Dg, 0, none⟩) D.length D.length] 68 (0, 0)) ∧ w'.heap[Dg]? = some (.cells (intsC D').toArray 3 (0, 0)) ∧ KeptP P Dg w w' ∧ xs.length ≤ 5 ∧ (isGate (ndAt ns i) = false → xs.length = 1)
theorem Joined2.all {op : Int} {xs ys : List Wy} {l : Lt} (h : ∃ a ∈ xs, ∃ b ∈ ys, Joined2 op a.l b.l l) : ∃ a ∈ xs.map (·.l), ∃ b ∈ ys.map (·.l), Joined2 op a b l := by
  obtain ⟨a, ha, b, hb, hj⟩ := h
  exact ⟨a.l, List.mem_map.2 ⟨a, ha, rfl⟩, b.l, List.mem_map.2 ⟨b, hb, rfl⟩, hj⟩
/-- what a gate's ways are, as node tells them -/
theorem gate_out {gn : Nat} {ns : List Nd} {i B P Dg : Nat} {wa : Option Addr} {wc : Nat} {X : Nat → List Wy} {SA : Nat → Option Addr} {SC : Nat → Nat} {D : List Int} {w w1 w2 : World} {e : Ending} {op : Int} {xs ys : List Wy} {reg : Nat}
    (hp : PkAt B P Dg w1 (firstS gn ns) reg i wa wc X SA SC D) (hb : Below w.heap.size w w1) (hPw : P < w.heap.size) (hDw : Dg < w.heap.size) (hreg : reg = gn + regsN ns (i + 1)) (hlt : firstS gn ns + i < D.length)
    (hg : GateFree w1 op xs ys e w2 ∨ GateMore w1 op xs ys D Dg (firstS gn ns + i) e w2)
    (hxs : ∀ x ∈ xs, ∀ q ∈ x.l.ins, 0 ≤ q ∧ q < ((firstS gn ns + i : Nat) : Int)) (hys : ∀ x ∈ ys, ∀ q ∈ x.l.ins, 0 ≤ q ∧ q < ((firstS gn ns + i : Nat) : Int))
    (hN : ∀ D' l, GateW (firstS gn ns + i) D' op (xs.map (·.l)) (ys.map (·.l)) l → NodeW gn ns (fun j => (X j).map (·.l)) D' i l) (hgt : isGate (ndAt ns i) = true) : NodeOut gn ns i P Dg wa wc X D w e w2 := by
  subst hreg
  have hz := hb.size
  have himp : ∀ (ao : Option Addr) (cs : List Value), Lies (FromB w1.heap.size) w2 ao cs → Lies (FromB w.heap.size) w2 ao cs := fun ao cs h => h.imp fun b _ hb => Nat.le_trans hz hb
  rcases hg with ⟨x, g, c, rfl, h1, h2, h3, h4, h5⟩ | ⟨zs, pz, va, vc, rfl, h1, h2, h3, h4, h5, h6, h7, h8, h9⟩
  · refine ⟨[x], some ⟨g, 0, none⟩, c, D, rfl, himp _ _ h1, fun y hy => ?_, hN _ _ (.inl ⟨x.l, rfl, h3, Joined2.all h4⟩), rfl, fun _ _ => rfl, .inl rfl, Below.blk h5 hp.me, Below.blk h5 hp.deep, KeptQ.of (Below.step hb h5), by simp, fun h => by rw [hgt] at h; cases h⟩
    rw [List.mem_singleton.1 hy]; exact himp _ _ h2
  · obtain ⟨z, zt, rfl⟩ : ∃ z zt, zs = z :: zt := by
      cases zs with
      | nil => simp at h3
      | cons z zt => exact ⟨z, zt, rfl⟩
    have e0 : wyAt (z :: zt) 0 = z := rfl
    rw [e0] at h5 h8
    have hins : ∀ q ∈ z.l.ins, 0 ≤ q ∧ q ≠ ((firstS gn ns + i : Nat) : Int) := fun q hq => by
      obtain ⟨_, a, ha, b, hb, hj⟩ := h2 z (List.mem_cons_self ..)
      rcases hj.sub q hq with h | h
      · have := hxs a ha q h; omega
      · have := hys b hb q h; omega
    have hds := deepI_set D z.l (firstS gn ns + i) (deepI D z.l) hins
    refine ⟨(z :: zt) ++ [pz], va, vc, D.set (firstS gn ns + i) (deepI D z.l), by simp, himp _ _ h1, fun y hy => ?_, hN _ _ (.inr ⟨z.l, zt.map (·.l), by simp [h6], by simpa using h4, fun y hy => ?_, h5, ?_⟩), by simp, fun s hs => ?_, .inr ⟨z.l, rfl⟩, ?_, h8, ?_, by simp at h4 ⊢; omega, fun h => by rw [hgt] at h; cases h⟩
    · rcases List.mem_append.1 hy with hy | hy
      · exact himp _ _ (h2 y hy).1
      · rw [List.mem_singleton.1 hy, h6]; exact himp _ _ h7
    · have hy' : y ∈ (z :: zt).map (·.l) := hy
      obtain ⟨y', hy1, rfl⟩ := List.mem_map.1 hy'
      exact Joined2.all (h2 y' hy1).2
    · rw [hds]; unfold outAt; rw [List.getElem?_set_self hlt]; rfl
    · unfold outAt; rw [List.getElem?_set_ne (by omega)]
    · exact h9.blk hp.me hp.ne
    · exact (KeptQ.of hb).trans (KeptQ.one h9 (.inr rfl))
/-- a way that looks at one signal at most -/
theorem gateW_one {sig : Nat} {D : List Int} {op : Int} {xs ys l : List Lt} (h : GateW sig D op xs ys l) : ∃ x ∈ l, x.ins.length ≤ 1 := by
  rcases h with ⟨x, rfl, hf, _⟩ | ⟨z, zs, rfl, _⟩
  · refine ⟨x, List.mem_singleton.2 rfl, ?_⟩
    unfold freeL sameL at hf
    rcases Bool.or_eq_true_iff.1 hf with hf | hf
    · have := of_decide_eq_true hf; omega
    · have := of_decide_eq_true (Bool.and_eq_true_iff.1 hf).1; omega
  · exact ⟨⟨[(sig : Int)], 2⟩, by simp, by simp⟩
theorem node_one {gn : Nat} {ns : List Nd} {W : Nat → List Lt} {D : List Int} {j : Nat} {l : List Lt} (h : NodeW gn ns W D j l) : ∃ x ∈ l, x.ins.length ≤ 1 := by
  rcases h with ⟨_, rfl⟩ | ⟨_, rfl⟩ | ⟨_, rfl⟩ | ⟨_, rfl⟩ | ⟨_, h⟩ | ⟨_, h⟩
  · exact ⟨_, List.mem_singleton.2 rfl, by simp⟩
  · exact ⟨_, List.mem_singleton.2 rfl, by simp⟩
  · exact ⟨_, List.mem_singleton.2 rfl, by simp⟩
  · exact ⟨_, List.mem_singleton.2 rfl, by simp⟩
  · exact gateW_one h
  · exact gateW_one h
theorem wy_one' {xs : List Wy} (h : ∃ x ∈ xs.map (·.l), x.ins.length ≤ 1) : ∃ i < xs.length, (wyAt xs i).l.ins.length ≤ 1 := by
  obtain ⟨x, hx, h1⟩ := h
  obtain ⟨y, hy, rfl⟩ := List.mem_map.1 hx
  obtain ⟨i, hi, rfl⟩ := List.getElem_of_mem hy
  exact ⟨i, hi, by have : wyAt xs i = xs[i] := by simp [wyAt, hi]
                   rw [this]; exact h1⟩

set_option maxRecDepth 100000 in
set_option maxHeartbeats 3200000 in
theorem node_reg {B P Dg : Nat} {w : World} {first reg i : Nat} {wa : Option Addr} {wc : Nat} {X : Nat → List Wy} {SA : Nat → Option Addr} {SC : Nat → Nat} {D : List Int} (h : PkAt B P Dg w first reg i wa wc X SA SC D) (hr : reg ≤ 100000) (a b nx : Int) :
    Calls Try.prog 24 #[.pointer (some ⟨P, 0, none⟩), .agg #[.int .i64 4, .int .i64 a, .int .i64 b, .int .i64 nx]] w fun e w' => OneWay w ⟨[(reg : Int)], 2⟩ e w' ∧ KeptP P Dg w w' ∧ w'.heap[P]? = some (.cells #[.int .i64 first, .int .i64 (reg + 1 : Nat), .slice wa i wc, .slice (some ⟨Dg, 0, none⟩) D.length D.length] 68 (0, 0)) ∧ w'.heap[Dg]? = w.heap[Dg]? := by
  have hb1 := below_alloc w (.cells #[.int .i64 4, .int .i64 a, .int .i64 b, .int .i64 nx] 48)
  have HB1 := hide hb1
  have HH := hide (h.below hb1)
  have m1 : (w.alloc (.cells #[.int .i64 4, .int .i64 a, .int .i64 b, .int .i64 nx] 48)).cell? ⟨P, 1, none⟩ = some (.int .i64 reg) := by rw [blk_cell HH.out.me]; rfl
  have z1 : (w.alloc (.cells #[.int .i64 4, .int .i64 a, .int .i64 b, .int .i64 nx] 48)).frozen? ⟨P, 1, none⟩ = false := blk_frozen HH.out.me 1
  have HPS := hide (blk_set HH.out.me 1 (.int .i64 ((reg + 1 : Nat) : Int)))
  have HPL := hide (plain_at (reg : Int) ((w.alloc (.cells #[.int .i64 4, .int .i64 a, .int .i64 b, .int .i64 nx] 48)).setCell ⟨P, 1, none⟩ (.int .i64 ((reg + 1 : Nat) : Int))))
  have HDS : Hid (((w.alloc (.cells #[.int .i64 4, .int .i64 a, .int .i64 b, .int .i64 nx] 48)).setCell ⟨P, 1, none⟩ (.int .i64 ((reg + 1 : Nat) : Int))).heap[Dg]? = w.heap[Dg]?) := hide ((Below.heap_setCell _ ⟨P, 1, none⟩ _ Dg (fun e => h.ne e.symm)).trans (hb1.block Dg (blk_lt h.deep)))
  have HKS : Hid (KeptP P Dg w ((w.alloc (.cells #[.int .i64 4, .int .i64 a, .int .i64 b, .int .i64 nx] 48)).setCell ⟨P, 1, none⟩ (.int .i64 ((reg + 1 : Nat) : Int)))) := hide ((KeptQ.of hb1).set P 1 _ (.inl rfl))
  have m2 : ((w.alloc (.cells #[.int .i64 4, .int .i64 a, .int .i64 b, .int .i64 nx] 48)).setCell ⟨P, 1, none⟩ (.int .i64 ((reg + 1 : Nat) : Int))).cell? ⟨P, 1, none⟩ = some (.int .i64 ((reg + 1 : Nat) : Int)) := by rw [blk_cell HPS.out]; rfl
  have HDW : Hid (Dg < w.heap.size) := hide (blk_lt h.deep)
  have hcast : ((reg : Int) + 1) = ((reg + 1 : Nat) : Int) := by omega
  have HC1 := hide hcast
  rw [← hcast] at m2 HPL HPS HDS HKS
  clear h hb1 hcast
  go_enter Try.func24, Try.ntmps24
  go_wp2_with fail
  refine HPL.out.mono ?_
  rintro e w2 ⟨⟨g, rfl, hg, hn⟩, hb2⟩
  have HN := hide hn
  have HK2 := hide (HKS.out.below hb2)
  have HP2 := hide (Below.blk hb2 HPS.out)
  have HD2 : Hid (w2.heap[Dg]? = w.heap[Dg]?) := hide ((hb2.block Dg (Nat.lt_of_lt_of_le HDW.out HKS.out.size)).trans HDS.out)
  have HG : Hid (w.heap.size ≤ g) := hide (Nat.le_trans HKS.out.size hg)
  clear hb2 hn hg HPL m1 m2 z1
  go_wp2_with fail
  go_ret
  have hb3 := below_alloc w2 (.cells #[.slice (some ⟨g, 0, none⟩) 1 1, .int .i64 2] 44)
  refine ⟨⟨⟨some ⟨g, 0, none⟩, 1, ⟨[(reg : Int)], 2⟩⟩, _, rfl, rfl, Lies.blk (cs := wyC [⟨some ⟨g, 0, none⟩, 1, ⟨[(reg : Int)], 2⟩⟩]) (blk_new w2 _) HK2.out.size, Lies.blk (cs := intsC [(reg : Int)]) (Below.blk hb3 HN.out) HG.out⟩, HK2.out.below hb3, ?_, (hb3.block Dg (Nat.lt_of_lt_of_le HDW.out HK2.out.size)).trans HD2.out⟩
  rw [← HC1.out]
  exact Below.blk hb3 HP2.out

set_option maxRecDepth 100000 in
set_option maxHeartbeats 6400000 in
theorem node_not {B P Dg : Nat} {w : World} {first reg i : Nat} {wa : Option Addr} {wc : Nat} {X : Nat → List Wy} {SA : Nat → Option Addr} {SC : Nat → Nat} {D : List Int} (h : PkAt B P Dg w first reg i wa wc X SA SC D) (op : Int) (a : Nat) (b : Int) (nx : Int) (hop : op = 8) (ha : a < i) (hw : ∀ j, j < i → ∀ x ∈ X j, Way x.l ∧ ∀ q ∈ x.l.ins, 0 ≤ q ∧ q < D.length) (h1 : ∀ j, j < i → ∃ k < (X j).length, (wyAt (X j) k).l.ins.length ≤ 1) (hn : (X a).length ≤ 19) (hsg : first + i < D.length) (hDb : D.length ≤ 100000) (hDM : ∀ s, outAt D s ≤ 100000) :
    Calls Try.prog 24 #[.pointer (some ⟨P, 0, none⟩), .agg #[.int .i64 op, .int .i64 a, .int .i64 b, .int .i64 nx]] w fun e w' => ∃ w1, Below w.heap.size w w1 ∧ (GateFree w1 op (X a) [⟨none, 0, ⟨[], 0⟩⟩] e w' ∨ GateMore w1 op (X a) [⟨none, 0, ⟨[], 0⟩⟩] D Dg (first + i) e w') := by
  have HW0 := hide (below_alloc w (.cells #[.int .i64 op, .int .i64 a, .int .i64 b, .int .i64 nx] 48))
  have HH0 := hide (h.below HW0.out)
  have HN0 := hide (blk_new w (.cells #[.int .i64 op, .int .i64 a, .int .i64 b, .int .i64 nx] 48))
  have HX := hide hw
  have HX1 := hide h1
  have HNN := hide hn
  have HDM := hide hDM
  obtain ⟨wb, woff, rfl, _⟩ := h.cell ha
  have HDG : Hid (Dg < w.heap.size) := hide (blk_lt h.deep)
  have HWD : Hid (wb ≠ Dg) := hide fun e => h.ownD (by rw [e]; rfl)
  have hai : (a : Int) < (i : Int) := by omega
  have HSW : Hid (∀ W, Below (w.alloc (.cells #[.int .i64 op, .int .i64 a, .int .i64 b, .int .i64 nx] 48)).heap.size (w.alloc (.cells #[.int .i64 op, .int .i64 a, .int .i64 b, .int .i64 nx] 48)) W → W.cell? ⟨P, 2, none⟩ = some (.slice (some ⟨wb, woff, none⟩) i wc) ∧ W.cell? ⟨w.heap.size, 0, none⟩ = some (.int .i64 op) ∧ W.cell? ⟨w.heap.size, 1, none⟩ = some (.int .i64 a) ∧ W.cell? ⟨wb, woff + a, none⟩ = some (.slice (SA a) (X a).length (SC a))) := hide fun W hW => by
    have hp := HH0.out.below hW
    have hnb := Below.blk hW HN0.out
    obtain ⟨wb2, woff2, e, q⟩ := hp.cell ha
    cases e
    exact ⟨by rw [blk_cell hp.me]; rfl, by rw [blk_cell hnb]; rfl, by rw [blk_cell hnb]; rfl, q⟩
  clear h hw h1 hn hDM
  subst hop
  · skip
    go_enter Try.func24, Try.ntmps24
    go_wp2_with fail
    generalize w.alloc (.cells #[.int .i64 8, .int .i64 a, .int .i64 b, .int .i64 nx] 48) = w0 at *
    refine wp_region_held_drew (S := fun W => W.cell? ⟨P, 2, none⟩ = some (.slice (some ⟨wb, woff, none⟩) i wc) ∧ W.cell? ⟨w.heap.size, 0, none⟩ = some (.int .i64 8) ∧ W.cell? ⟨w.heap.size, 1, none⟩ = some (.int .i64 a) ∧ W.cell? ⟨wb, woff + a, none⟩ = some (.slice (SA a) (X a).length (SC a))) (by kernel_rfl) (HSW.out _ (Below.refl _ _).drew) (fun _ => ?_)
    have HBY : Hid (Below w0.heap.size w0 w0.drew) := hide (Below.refl _ _).drew
    refine wpAnyH_take (i := 0) (oi := ⟨some 39, _, _, _, _, _⟩) (v := (.pointer (some ⟨P, 0, none⟩))) rfl (by kernel_rfl) (by kernel_rfl) (by kernel_rfl) (fun _ _ _ h => h) (Or.inl ⟨by rfl, fun W hS => by (obtain ⟨s0, s1, s2, s3⟩ := hS; go_simp)⟩) (HSW.out _ HBY.out) ?_
    simp only [Act.put, List.setIfInBounds_toArray, List.set_cons_zero, List.set_cons_succ]
    refine wpAnyH_take (i := 1) (oi := ⟨some 40, _, _, _, _, _⟩) (v := (.pointer (some ⟨w.heap.size, 0, none⟩))) rfl (by kernel_rfl) (by kernel_rfl) (by kernel_rfl) (fun _ _ _ h => h) (Or.inl ⟨by rfl, fun W hS => by (obtain ⟨s0, s1, s2, s3⟩ := hS; go_simp)⟩) (HSW.out _ HBY.out) ?_
    simp only [Act.put, List.setIfInBounds_toArray, List.set_cons_zero, List.set_cons_succ]
    refine wpAnyH_take (i := 3) (oi := ⟨some 42, _, _, _, _, _⟩) (v := (.pointer (some ⟨P, 0, none⟩))) rfl (by kernel_rfl) (by kernel_rfl) (by kernel_rfl) (fun _ _ _ h => h) (Or.inl ⟨by rfl, fun W hS => by (obtain ⟨s0, s1, s2, s3⟩ := hS; go_simp)⟩) (HSW.out _ HBY.out) ?_
    simp only [Act.put, List.setIfInBounds_toArray, List.set_cons_zero, List.set_cons_succ]
    refine wpAnyH_take (i := 7) (oi := ⟨some 46, _, _, _, _, _⟩) (v := (.pointer (some ⟨w.heap.size, 1, none⟩))) rfl (by kernel_rfl) (by kernel_rfl) (by kernel_rfl) (fun _ _ _ h => h) (Or.inl ⟨by rfl, fun W hS => by (obtain ⟨s0, s1, s2, s3⟩ := hS; go_simp)⟩) (HSW.out _ HBY.out) ?_
    simp only [Act.put, List.setIfInBounds_toArray, List.set_cons_zero, List.set_cons_succ]
    refine wpAnyH_take (i := 2) (oi := ⟨some 41, _, _, _, _, _⟩) (v := (.int .i64 8)) rfl (by kernel_rfl) (by kernel_rfl) (by kernel_rfl) (fun _ _ _ h => h) (Or.inl ⟨by rfl, fun W hS => by (obtain ⟨s0, s1, s2, s3⟩ := hS; go_simp)⟩) (HSW.out _ HBY.out) ?_
    simp only [Act.put, List.setIfInBounds_toArray, List.set_cons_zero, List.set_cons_succ]
    refine wpAnyH_take (i := 4) (oi := ⟨some 43, _, _, _, _, _⟩) (v := (.pointer (some ⟨P, 0, none⟩))) rfl (by kernel_rfl) (by kernel_rfl) (by kernel_rfl) (fun _ _ _ h => h) (Or.inl ⟨by rfl, fun W hS => by (obtain ⟨s0, s1, s2, s3⟩ := hS; go_simp)⟩) (HSW.out _ HBY.out) ?_
    simp only [Act.put, List.setIfInBounds_toArray, List.set_cons_zero, List.set_cons_succ]
    refine wpAnyH_take (i := 8) (oi := ⟨some 47, _, _, _, _, _⟩) (v := (.int .i64 a)) rfl (by kernel_rfl) (by kernel_rfl) (by kernel_rfl) (fun _ _ _ h => h) (Or.inl ⟨by rfl, fun W hS => by (obtain ⟨s0, s1, s2, s3⟩ := hS; go_simp)⟩) (HSW.out _ HBY.out) ?_
    simp only [Act.put, List.setIfInBounds_toArray, List.set_cons_zero, List.set_cons_succ]
    refine wpAnyH_take (i := 5) (oi := ⟨some 44, _, _, _, _, _⟩) (v := (.pointer (some ⟨P, 2, none⟩))) rfl (by kernel_rfl) (by kernel_rfl) (by kernel_rfl) (fun _ _ _ h => h) (Or.inl ⟨by rfl, fun W hS => by (obtain ⟨s0, s1, s2, s3⟩ := hS; go_simp)⟩) (HSW.out _ HBY.out) ?_
    simp only [Act.put, List.setIfInBounds_toArray, List.set_cons_zero, List.set_cons_succ]
    refine wpAnyH_take (i := 6) (oi := ⟨some 45, _, _, _, _, _⟩) (v := (.slice (some ⟨wb, woff, none⟩) i wc)) rfl (by kernel_rfl) (by kernel_rfl) (by kernel_rfl) (fun _ _ _ h => h) (Or.inl ⟨by rfl, fun W hS => by (obtain ⟨s0, s1, s2, s3⟩ := hS; go_simp)⟩) (HSW.out _ HBY.out) ?_
    simp only [Act.put, List.setIfInBounds_toArray, List.set_cons_zero, List.set_cons_succ]
    refine wpAnyH_take (i := 9) (oi := ⟨some 48, _, _, _, _, _⟩) (v := (.pointer (some ⟨wb, woff + a, none⟩))) rfl (by kernel_rfl) (by kernel_rfl) (by kernel_rfl) (fun _ _ _ h => h) (Or.inl ⟨by rfl, fun W hS => by (obtain ⟨s0, s1, s2, s3⟩ := hS; go_simp)⟩) (HSW.out _ HBY.out) ?_
    simp only [Act.put, List.setIfInBounds_toArray, List.set_cons_zero, List.set_cons_succ]
    refine wpAnyH_take (i := 10) (oi := ⟨some 49, _, _, _, _, _⟩) (v := (.slice (SA a) (X a).length (SC a))) rfl (by kernel_rfl) (by kernel_rfl) (by kernel_rfl) (fun _ _ _ h => h) (Or.inl ⟨by rfl, fun W hS => by (obtain ⟨s0, s1, s2, s3⟩ := hS; go_simp)⟩) (HSW.out _ HBY.out) ?_
    simp only [Act.put, List.setIfInBounds_toArray, List.set_cons_zero, List.set_cons_succ]
    refine wpAnyH_take (i := 11) (oi := ⟨some 50, _, _, _, _, _⟩) (v := (.agg #[.slice none 0 0, .int .i64 0])) rfl (by kernel_rfl) (by kernel_rfl) (by kernel_rfl) (fun _ _ _ h => h) (Or.inl ⟨by rfl, fun W hS => by (obtain ⟨s0, s1, s2, s3⟩ := hS; go_simp)⟩) (HSW.out _ HBY.out) ?_
    simp only [Act.put, List.setIfInBounds_toArray, List.set_cons_zero, List.set_cons_succ]
    refine wpAnyH_ready (rs := [12]) (by kernel_rfl) (by simp) ?_
    refine AllReadyH.cons rfl (fun K hK => ?_) AllReadyH.nil
    go_simp
    have HN2 : Hid ((w0.alloc (.cells #[.slice none 0 0, .int .i64 0] 44)).drew.heap[w0.heap.size]? = some (.cells #[.slice none 0 0, .int .i64 0] 44 (0, 0))) := hide (blk_new w0 (.cells #[.slice none 0 0, .int .i64 0] 44))
    have HBY : Hid (Below w0.heap.size w0 (w0.alloc (.cells #[.slice none 0 0, .int .i64 0] 44)).drew) := hide (below_alloc _ _).drew
    refine hK.out _ _ (HSW.out _ HBY.out) (fun _ => ?_)
    clear hK K
    refine wpAnyH_ready (rs := [13]) (by kernel_rfl) (by simp) ?_
    refine AllReadyH.cons rfl (fun K hK => ?_) AllReadyH.nil
    go_simp
    have HP1 := hide (HH0.out.below HBY.out)
    have HGC := hide (gate_at P 8 (X a) [⟨none, 0, ⟨[], 0⟩⟩] (SA a) _ (SC a) 1 _ (HP1.out.each a ha).1 (Lies.blk (S := AnyB) (cs := wyC [⟨none, 0, ⟨[], 0⟩⟩]) HN2.out trivial) (fun x hx => ⟨((HP1.out.each a ha).2 x hx).any, (HX.out a ha x hx).1⟩) (fun x hx => by rw [List.mem_singleton.1 hx]; exact ⟨.inl rfl, known_way (.inl rfl)⟩) (by have := HNN.out; simpa using this) (HX1.out a ha) ⟨0, by simp, by simp [wyAt]⟩ D Dg D.length first i wc _ (by rw [blk_cell HP1.out.me]; rfl) (by rw [blk_cell HP1.out.me]; rfl) (by rw [blk_cell HP1.out.me]; rfl) hsg HP1.out.deep HP1.out.ne hDb HDM.out (fun x hx => (HX.out a ha x hx).2) (fun x hx q hq => by rw [List.mem_singleton.1 hx] at hq; cases hq))
    refine HGC.out.mono ?_
    intro e w2 hg2
    have HG2 := hide hg2
    clear hg2 HGC
    rcases HG2.out with hgg | hgg
    · obtain ⟨x, g, c, rfl, hr⟩ := hgg
      have HBW : Hid (Below w.heap.size w w2) := hide (Below.step (Below.step HW0.out HBY.out) hr.2.2.2.2)
      refine hK.out _ _ (HSW.out _ (Below.step HBY.out hr.2.2.2.2)) (fun _ => ?_)
      clear hK K
      refine wpAnyH_ready (rs := [14]) (by kernel_rfl) (by simp) ?_
      refine AllReadyH.cons rfl (fun K hK => ?_) AllReadyH.nil
      go_simp
      refine hK.out _ _ (HSW.out _ (Below.step HBY.out hr.2.2.2.2)) (fun _ => ?_)
      clear hK K
      refine wpAnyH_done (by kernel_rfl) ?_ _
      go_wp2_with fail
      go_ret
      exact ⟨_, Below.step HW0.out HBY.out, .inl ⟨x, g, c, rfl, hr⟩⟩
    · obtain ⟨zs, pz, va, vc, rfl, hr⟩ := hgg
      have hk := hr.2.2.2.2.2.2.2.2
      have hsk : w2.cell? ⟨P, 2, none⟩ = some (.slice (some ⟨wb, woff, none⟩) i wc) ∧ w2.cell? ⟨w.heap.size, 0, none⟩ = some (.int .i64 8) ∧ w2.cell? ⟨w.heap.size, 1, none⟩ = some (.int .i64 a) ∧ w2.cell? ⟨wb, woff + a, none⟩ = some (.slice (SA a) (X a).length (SC a)) := by
        obtain ⟨s0, s1, s2, s3⟩ := HSW.out _ HBY.out
        exact ⟨hk.cell s0 (HH0.out.ne), hk.cell s1 ((fun e : w.heap.size = Dg => by have := HDG.out; omega)), hk.cell s2 ((fun e : w.heap.size = Dg => by have := HDG.out; omega)), hk.cell s3 (HWD.out)⟩
      refine hK.out _ _ hsk (fun _ => ?_)
      clear hK K
      refine wpAnyH_ready (rs := [14]) (by kernel_rfl) (by simp) ?_
      refine AllReadyH.cons rfl (fun K hK => ?_) AllReadyH.nil
      go_simp
      refine hK.out _ _ hsk (fun _ => ?_)
      clear hK K
      refine wpAnyH_done (by kernel_rfl) ?_ _
      go_wp2_with fail
      go_ret
      exact ⟨_, Below.step HW0.out HBY.out, .inr ⟨zs, pz, va, vc, rfl, hr⟩⟩

set_option maxRecDepth 100000 in
set_option maxHeartbeats 6400000 in
theorem node_bin {B P Dg : Nat} {w : World} {first reg i : Nat} {wa : Option Addr} {wc : Nat} {X : Nat → List Wy} {SA : Nat → Option Addr} {SC : Nat → Nat} {D : List Int} (h : PkAt B P Dg w first reg i wa wc X SA SC D) (op : Int) (a b : Nat) (nx : Int) (hop : op = 5 ∨ op = 6 ∨ op = 7) (ha : a < i) (hbi : b < i) (hw : ∀ j, j < i → ∀ x ∈ X j, Way x.l ∧ ∀ q ∈ x.l.ins, 0 ≤ q ∧ q < D.length) (h1 : ∀ j, j < i → ∃ k < (X j).length, (wyAt (X j) k).l.ins.length ≤ 1) (hn : (X a).length * (X b).length ≤ 19) (hsg : first + i < D.length) (hDb : D.length ≤ 100000) (hDM : ∀ s, outAt D s ≤ 100000) :
    Calls Try.prog 24 #[.pointer (some ⟨P, 0, none⟩), .agg #[.int .i64 op, .int .i64 a, .int .i64 b, .int .i64 nx]] w fun e w' => ∃ w1, Below w.heap.size w w1 ∧ (GateFree w1 op (X a) (X b) e w' ∨ GateMore w1 op (X a) (X b) D Dg (first + i) e w') := by
  have HW0 := hide (below_alloc w (.cells #[.int .i64 op, .int .i64 a, .int .i64 b, .int .i64 nx] 48))
  have HH0 := hide (h.below HW0.out)
  have HN0 := hide (blk_new w (.cells #[.int .i64 op, .int .i64 a, .int .i64 b, .int .i64 nx] 48))
  have HX := hide hw
  have HX1 := hide h1
  have HNN := hide hn
  have HDM := hide hDM
  obtain ⟨wb, woff, rfl, _⟩ := h.cell ha
  have HDG : Hid (Dg < w.heap.size) := hide (blk_lt h.deep)
  have HWD : Hid (wb ≠ Dg) := hide fun e => h.ownD (by rw [e]; rfl)
  have hai : (a : Int) < (i : Int) := by omega
  have hbii : (b : Int) < (i : Int) := by omega
  have HSW : Hid (∀ W, Below (w.alloc (.cells #[.int .i64 op, .int .i64 a, .int .i64 b, .int .i64 nx] 48)).heap.size (w.alloc (.cells #[.int .i64 op, .int .i64 a, .int .i64 b, .int .i64 nx] 48)) W → W.cell? ⟨P, 2, none⟩ = some (.slice (some ⟨wb, woff, none⟩) i wc) ∧ W.cell? ⟨w.heap.size, 0, none⟩ = some (.int .i64 op) ∧ W.cell? ⟨w.heap.size, 1, none⟩ = some (.int .i64 a) ∧ W.cell? ⟨wb, woff + a, none⟩ = some (.slice (SA a) (X a).length (SC a)) ∧ W.cell? ⟨w.heap.size, 2, none⟩ = some (.int .i64 b) ∧ W.cell? ⟨wb, woff + b, none⟩ = some (.slice (SA b) (X b).length (SC b))) := hide fun W hW => by
    have hp := HH0.out.below hW
    have hnb := Below.blk hW HN0.out
    obtain ⟨wb2, woff2, e, q⟩ := hp.cell ha
    cases e
    obtain ⟨wb3, woff3, e, q3⟩ := hp.cell hbi
    cases e
    exact ⟨by rw [blk_cell hp.me]; rfl, by rw [blk_cell hnb]; rfl, by rw [blk_cell hnb]; rfl, q, by rw [blk_cell hnb]; rfl, q3⟩
  clear h hw h1 hn hDM
  obtain rfl | rfl | rfl := hop
  · skip
    go_enter Try.func24, Try.ntmps24
    go_wp2_with fail
    generalize w.alloc (.cells #[.int .i64 5, .int .i64 a, .int .i64 b, .int .i64 nx] 48) = w0 at *
    refine wp_region_held_drew (S := fun W => W.cell? ⟨P, 2, none⟩ = some (.slice (some ⟨wb, woff, none⟩) i wc) ∧ W.cell? ⟨w.heap.size, 0, none⟩ = some (.int .i64 5) ∧ W.cell? ⟨w.heap.size, 1, none⟩ = some (.int .i64 a) ∧ W.cell? ⟨wb, woff + a, none⟩ = some (.slice (SA a) (X a).length (SC a)) ∧ W.cell? ⟨w.heap.size, 2, none⟩ = some (.int .i64 b) ∧ W.cell? ⟨wb, woff + b, none⟩ = some (.slice (SA b) (X b).length (SC b))) (by kernel_rfl) (HSW.out _ (Below.refl _ _).drew) (fun _ => ?_)
    have HBY : Hid (Below w0.heap.size w0 w0.drew) := hide (Below.refl _ _).drew
    refine wpAnyH_take (i := 0) (oi := ⟨some 53, _, _, _, _, _⟩) (v := (.pointer (some ⟨P, 0, none⟩))) rfl (by kernel_rfl) (by kernel_rfl) (by kernel_rfl) (fun _ _ _ h => h) (Or.inl ⟨by rfl, fun W hS => by (obtain ⟨s0, s1, s2, s3, s4, s5⟩ := hS; go_simp)⟩) (HSW.out _ HBY.out) ?_
    simp only [Act.put, List.setIfInBounds_toArray, List.set_cons_zero, List.set_cons_succ]
    refine wpAnyH_take (i := 1) (oi := ⟨some 54, _, _, _, _, _⟩) (v := (.pointer (some ⟨w.heap.size, 0, none⟩))) rfl (by kernel_rfl) (by kernel_rfl) (by kernel_rfl) (fun _ _ _ h => h) (Or.inl ⟨by rfl, fun W hS => by (obtain ⟨s0, s1, s2, s3, s4, s5⟩ := hS; go_simp)⟩) (HSW.out _ HBY.out) ?_
    simp only [Act.put, List.setIfInBounds_toArray, List.set_cons_zero, List.set_cons_succ]
    refine wpAnyH_take (i := 3) (oi := ⟨some 56, _, _, _, _, _⟩) (v := (.pointer (some ⟨P, 0, none⟩))) rfl (by kernel_rfl) (by kernel_rfl) (by kernel_rfl) (fun _ _ _ h => h) (Or.inl ⟨by rfl, fun W hS => by (obtain ⟨s0, s1, s2, s3, s4, s5⟩ := hS; go_simp)⟩) (HSW.out _ HBY.out) ?_
    simp only [Act.put, List.setIfInBounds_toArray, List.set_cons_zero, List.set_cons_succ]
    refine wpAnyH_take (i := 7) (oi := ⟨some 60, _, _, _, _, _⟩) (v := (.pointer (some ⟨w.heap.size, 1, none⟩))) rfl (by kernel_rfl) (by kernel_rfl) (by kernel_rfl) (fun _ _ _ h => h) (Or.inl ⟨by rfl, fun W hS => by (obtain ⟨s0, s1, s2, s3, s4, s5⟩ := hS; go_simp)⟩) (HSW.out _ HBY.out) ?_
    simp only [Act.put, List.setIfInBounds_toArray, List.set_cons_zero, List.set_cons_succ]
    refine wpAnyH_take (i := 11) (oi := ⟨some 64, _, _, _, _, _⟩) (v := (.pointer (some ⟨P, 0, none⟩))) rfl (by kernel_rfl) (by kernel_rfl) (by kernel_rfl) (fun _ _ _ h => h) (Or.inl ⟨by rfl, fun W hS => by (obtain ⟨s0, s1, s2, s3, s4, s5⟩ := hS; go_simp)⟩) (HSW.out _ HBY.out) ?_
    simp only [Act.put, List.setIfInBounds_toArray, List.set_cons_zero, List.set_cons_succ]
    refine wpAnyH_take (i := 15) (oi := ⟨some 68, _, _, _, _, _⟩) (v := (.pointer (some ⟨w.heap.size, 2, none⟩))) rfl (by kernel_rfl) (by kernel_rfl) (by kernel_rfl) (fun _ _ _ h => h) (Or.inl ⟨by rfl, fun W hS => by (obtain ⟨s0, s1, s2, s3, s4, s5⟩ := hS; go_simp)⟩) (HSW.out _ HBY.out) ?_
    simp only [Act.put, List.setIfInBounds_toArray, List.set_cons_zero, List.set_cons_succ]
    refine wpAnyH_take (i := 2) (oi := ⟨some 55, _, _, _, _, _⟩) (v := (.int .i64 5)) rfl (by kernel_rfl) (by kernel_rfl) (by kernel_rfl) (fun _ _ _ h => h) (Or.inl ⟨by rfl, fun W hS => by (obtain ⟨s0, s1, s2, s3, s4, s5⟩ := hS; go_simp)⟩) (HSW.out _ HBY.out) ?_
    simp only [Act.put, List.setIfInBounds_toArray, List.set_cons_zero, List.set_cons_succ]
    refine wpAnyH_take (i := 4) (oi := ⟨some 57, _, _, _, _, _⟩) (v := (.pointer (some ⟨P, 0, none⟩))) rfl (by kernel_rfl) (by kernel_rfl) (by kernel_rfl) (fun _ _ _ h => h) (Or.inl ⟨by rfl, fun W hS => by (obtain ⟨s0, s1, s2, s3, s4, s5⟩ := hS; go_simp)⟩) (HSW.out _ HBY.out) ?_
    simp only [Act.put, List.setIfInBounds_toArray, List.set_cons_zero, List.set_cons_succ]
    refine wpAnyH_take (i := 8) (oi := ⟨some 61, _, _, _, _, _⟩) (v := (.int .i64 a)) rfl (by kernel_rfl) (by kernel_rfl) (by kernel_rfl) (fun _ _ _ h => h) (Or.inl ⟨by rfl, fun W hS => by (obtain ⟨s0, s1, s2, s3, s4, s5⟩ := hS; go_simp)⟩) (HSW.out _ HBY.out) ?_
    simp only [Act.put, List.setIfInBounds_toArray, List.set_cons_zero, List.set_cons_succ]
    refine wpAnyH_take (i := 12) (oi := ⟨some 65, _, _, _, _, _⟩) (v := (.pointer (some ⟨P, 0, none⟩))) rfl (by kernel_rfl) (by kernel_rfl) (by kernel_rfl) (fun _ _ _ h => h) (Or.inl ⟨by rfl, fun W hS => by (obtain ⟨s0, s1, s2, s3, s4, s5⟩ := hS; go_simp)⟩) (HSW.out _ HBY.out) ?_
    simp only [Act.put, List.setIfInBounds_toArray, List.set_cons_zero, List.set_cons_succ]
    refine wpAnyH_take (i := 16) (oi := ⟨some 69, _, _, _, _, _⟩) (v := (.int .i64 b)) rfl (by kernel_rfl) (by kernel_rfl) (by kernel_rfl) (fun _ _ _ h => h) (Or.inl ⟨by rfl, fun W hS => by (obtain ⟨s0, s1, s2, s3, s4, s5⟩ := hS; go_simp)⟩) (HSW.out _ HBY.out) ?_
    simp only [Act.put, List.setIfInBounds_toArray, List.set_cons_zero, List.set_cons_succ]
    refine wpAnyH_take (i := 5) (oi := ⟨some 58, _, _, _, _, _⟩) (v := (.pointer (some ⟨P, 2, none⟩))) rfl (by kernel_rfl) (by kernel_rfl) (by kernel_rfl) (fun _ _ _ h => h) (Or.inl ⟨by rfl, fun W hS => by (obtain ⟨s0, s1, s2, s3, s4, s5⟩ := hS; go_simp)⟩) (HSW.out _ HBY.out) ?_
    simp only [Act.put, List.setIfInBounds_toArray, List.set_cons_zero, List.set_cons_succ]
    refine wpAnyH_take (i := 13) (oi := ⟨some 66, _, _, _, _, _⟩) (v := (.pointer (some ⟨P, 2, none⟩))) rfl (by kernel_rfl) (by kernel_rfl) (by kernel_rfl) (fun _ _ _ h => h) (Or.inl ⟨by rfl, fun W hS => by (obtain ⟨s0, s1, s2, s3, s4, s5⟩ := hS; go_simp)⟩) (HSW.out _ HBY.out) ?_
    simp only [Act.put, List.setIfInBounds_toArray, List.set_cons_zero, List.set_cons_succ]
    refine wpAnyH_take (i := 6) (oi := ⟨some 59, _, _, _, _, _⟩) (v := (.slice (some ⟨wb, woff, none⟩) i wc)) rfl (by kernel_rfl) (by kernel_rfl) (by kernel_rfl) (fun _ _ _ h => h) (Or.inl ⟨by rfl, fun W hS => by (obtain ⟨s0, s1, s2, s3, s4, s5⟩ := hS; go_simp)⟩) (HSW.out _ HBY.out) ?_
    simp only [Act.put, List.setIfInBounds_toArray, List.set_cons_zero, List.set_cons_succ]
    refine wpAnyH_take (i := 14) (oi := ⟨some 67, _, _, _, _, _⟩) (v := (.slice (some ⟨wb, woff, none⟩) i wc)) rfl (by kernel_rfl) (by kernel_rfl) (by kernel_rfl) (fun _ _ _ h => h) (Or.inl ⟨by rfl, fun W hS => by (obtain ⟨s0, s1, s2, s3, s4, s5⟩ := hS; go_simp)⟩) (HSW.out _ HBY.out) ?_
    simp only [Act.put, List.setIfInBounds_toArray, List.set_cons_zero, List.set_cons_succ]
    refine wpAnyH_take (i := 9) (oi := ⟨some 62, _, _, _, _, _⟩) (v := (.pointer (some ⟨wb, woff + a, none⟩))) rfl (by kernel_rfl) (by kernel_rfl) (by kernel_rfl) (fun _ _ _ h => h) (Or.inl ⟨by rfl, fun W hS => by (obtain ⟨s0, s1, s2, s3, s4, s5⟩ := hS; go_simp)⟩) (HSW.out _ HBY.out) ?_
    simp only [Act.put, List.setIfInBounds_toArray, List.set_cons_zero, List.set_cons_succ]
    refine wpAnyH_take (i := 17) (oi := ⟨some 70, _, _, _, _, _⟩) (v := (.pointer (some ⟨wb, woff + b, none⟩))) rfl (by kernel_rfl) (by kernel_rfl) (by kernel_rfl) (fun _ _ _ h => h) (Or.inl ⟨by rfl, fun W hS => by (obtain ⟨s0, s1, s2, s3, s4, s5⟩ := hS; go_simp)⟩) (HSW.out _ HBY.out) ?_
    simp only [Act.put, List.setIfInBounds_toArray, List.set_cons_zero, List.set_cons_succ]
    refine wpAnyH_take (i := 10) (oi := ⟨some 63, _, _, _, _, _⟩) (v := (.slice (SA a) (X a).length (SC a))) rfl (by kernel_rfl) (by kernel_rfl) (by kernel_rfl) (fun _ _ _ h => h) (Or.inl ⟨by rfl, fun W hS => by (obtain ⟨s0, s1, s2, s3, s4, s5⟩ := hS; go_simp)⟩) (HSW.out _ HBY.out) ?_
    simp only [Act.put, List.setIfInBounds_toArray, List.set_cons_zero, List.set_cons_succ]
    refine wpAnyH_take (i := 18) (oi := ⟨some 71, _, _, _, _, _⟩) (v := (.slice (SA b) (X b).length (SC b))) rfl (by kernel_rfl) (by kernel_rfl) (by kernel_rfl) (fun _ _ _ h => h) (Or.inl ⟨by rfl, fun W hS => by (obtain ⟨s0, s1, s2, s3, s4, s5⟩ := hS; go_simp)⟩) (HSW.out _ HBY.out) ?_
    simp only [Act.put, List.setIfInBounds_toArray, List.set_cons_zero, List.set_cons_succ]
    refine wpAnyH_ready (rs := [19]) (by kernel_rfl) (by simp) ?_
    refine AllReadyH.cons rfl (fun K hK => ?_) AllReadyH.nil
    go_simp
    have HP1 := hide (HH0.out.below HBY.out)
    have HGC := hide (gate_at P 5 (X a) (X b) (SA a) (SA b) (SC a) (SC b) _ (HP1.out.each a ha).1 (HP1.out.each b hbi).1 (fun x hx => ⟨((HP1.out.each a ha).2 x hx).any, (HX.out a ha x hx).1⟩) (fun x hx => ⟨((HP1.out.each b hbi).2 x hx).any, (HX.out b hbi x hx).1⟩) HNN.out (HX1.out a ha) (HX1.out b hbi) D Dg D.length first i wc _ (by rw [blk_cell HP1.out.me]; rfl) (by rw [blk_cell HP1.out.me]; rfl) (by rw [blk_cell HP1.out.me]; rfl) hsg HP1.out.deep HP1.out.ne hDb HDM.out (fun x hx => (HX.out a ha x hx).2) (fun x hx => (HX.out b hbi x hx).2))
    refine HGC.out.mono ?_
    intro e w2 hg2
    have HG2 := hide hg2
    clear hg2 HGC
    rcases HG2.out with hgg | hgg
    · obtain ⟨x, g, c, rfl, hr⟩ := hgg
      have HBW : Hid (Below w.heap.size w w2) := hide (Below.step (Below.step HW0.out HBY.out) hr.2.2.2.2)
      refine hK.out _ _ (HSW.out _ (Below.step HBY.out hr.2.2.2.2)) (fun _ => ?_)
      clear hK K
      refine wpAnyH_ready (rs := [20]) (by kernel_rfl) (by simp) ?_
      refine AllReadyH.cons rfl (fun K hK => ?_) AllReadyH.nil
      go_simp
      refine hK.out _ _ (HSW.out _ (Below.step HBY.out hr.2.2.2.2)) (fun _ => ?_)
      clear hK K
      refine wpAnyH_done (by kernel_rfl) ?_ _
      go_wp2_with fail
      go_ret
      exact ⟨_, Below.step HW0.out HBY.out, .inl ⟨x, g, c, rfl, hr⟩⟩
    · obtain ⟨zs, pz, va, vc, rfl, hr⟩ := hgg
      have hk := hr.2.2.2.2.2.2.2.2
      have hsk : w2.cell? ⟨P, 2, none⟩ = some (.slice (some ⟨wb, woff, none⟩) i wc) ∧ w2.cell? ⟨w.heap.size, 0, none⟩ = some (.int .i64 5) ∧ w2.cell? ⟨w.heap.size, 1, none⟩ = some (.int .i64 a) ∧ w2.cell? ⟨wb, woff + a, none⟩ = some (.slice (SA a) (X a).length (SC a)) ∧ w2.cell? ⟨w.heap.size, 2, none⟩ = some (.int .i64 b) ∧ w2.cell? ⟨wb, woff + b, none⟩ = some (.slice (SA b) (X b).length (SC b)) := by
        obtain ⟨s0, s1, s2, s3, s4, s5⟩ := HSW.out _ HBY.out
        exact ⟨hk.cell s0 (HH0.out.ne), hk.cell s1 ((fun e : w.heap.size = Dg => by have := HDG.out; omega)), hk.cell s2 ((fun e : w.heap.size = Dg => by have := HDG.out; omega)), hk.cell s3 (HWD.out), hk.cell s4 ((fun e : w.heap.size = Dg => by have := HDG.out; omega)), hk.cell s5 (HWD.out)⟩
      refine hK.out _ _ hsk (fun _ => ?_)
      clear hK K
      refine wpAnyH_ready (rs := [20]) (by kernel_rfl) (by simp) ?_
      refine AllReadyH.cons rfl (fun K hK => ?_) AllReadyH.nil
      go_simp
      refine hK.out _ _ hsk (fun _ => ?_)
      clear hK K
      refine wpAnyH_done (by kernel_rfl) ?_ _
      go_wp2_with fail
      go_ret
      exact ⟨_, Below.step HW0.out HBY.out, .inr ⟨zs, pz, va, vc, rfl, hr⟩⟩
  · skip
    go_enter Try.func24, Try.ntmps24
    go_wp2_with fail
    generalize w.alloc (.cells #[.int .i64 6, .int .i64 a, .int .i64 b, .int .i64 nx] 48) = w0 at *
    refine wp_region_held_drew (S := fun W => W.cell? ⟨P, 2, none⟩ = some (.slice (some ⟨wb, woff, none⟩) i wc) ∧ W.cell? ⟨w.heap.size, 0, none⟩ = some (.int .i64 6) ∧ W.cell? ⟨w.heap.size, 1, none⟩ = some (.int .i64 a) ∧ W.cell? ⟨wb, woff + a, none⟩ = some (.slice (SA a) (X a).length (SC a)) ∧ W.cell? ⟨w.heap.size, 2, none⟩ = some (.int .i64 b) ∧ W.cell? ⟨wb, woff + b, none⟩ = some (.slice (SA b) (X b).length (SC b))) (by kernel_rfl) (HSW.out _ (Below.refl _ _).drew) (fun _ => ?_)
    have HBY : Hid (Below w0.heap.size w0 w0.drew) := hide (Below.refl _ _).drew
    refine wpAnyH_take (i := 0) (oi := ⟨some 53, _, _, _, _, _⟩) (v := (.pointer (some ⟨P, 0, none⟩))) rfl (by kernel_rfl) (by kernel_rfl) (by kernel_rfl) (fun _ _ _ h => h) (Or.inl ⟨by rfl, fun W hS => by (obtain ⟨s0, s1, s2, s3, s4, s5⟩ := hS; go_simp)⟩) (HSW.out _ HBY.out) ?_
    simp only [Act.put, List.setIfInBounds_toArray, List.set_cons_zero, List.set_cons_succ]
    refine wpAnyH_take (i := 1) (oi := ⟨some 54, _, _, _, _, _⟩) (v := (.pointer (some ⟨w.heap.size, 0, none⟩))) rfl (by kernel_rfl) (by kernel_rfl) (by kernel_rfl) (fun _ _ _ h => h) (Or.inl ⟨by rfl, fun W hS => by (obtain ⟨s0, s1, s2, s3, s4, s5⟩ := hS; go_simp)⟩) (HSW.out _ HBY.out) ?_
    simp only [Act.put, List.setIfInBounds_toArray, List.set_cons_zero, List.set_cons_succ]
    refine wpAnyH_take (i := 3) (oi := ⟨some 56, _, _, _, _, _⟩) (v := (.pointer (some ⟨P, 0, none⟩))) rfl (by kernel_rfl) (by kernel_rfl) (by kernel_rfl) (fun _ _ _ h => h) (Or.inl ⟨by rfl, fun W hS => by (obtain ⟨s0, s1, s2, s3, s4, s5⟩ := hS; go_simp)⟩) (HSW.out _ HBY.out) ?_
    simp only [Act.put, List.setIfInBounds_toArray, List.set_cons_zero, List.set_cons_succ]
    refine wpAnyH_take (i := 7) (oi := ⟨some 60, _, _, _, _, _⟩) (v := (.pointer (some ⟨w.heap.size, 1, none⟩))) rfl (by kernel_rfl) (by kernel_rfl) (by kernel_rfl) (fun _ _ _ h => h) (Or.inl ⟨by rfl, fun W hS => by (obtain ⟨s0, s1, s2, s3, s4, s5⟩ := hS; go_simp)⟩) (HSW.out _ HBY.out) ?_
    simp only [Act.put, List.setIfInBounds_toArray, List.set_cons_zero, List.set_cons_succ]
    refine wpAnyH_take (i := 11) (oi := ⟨some 64, _, _, _, _, _⟩) (v := (.pointer (some ⟨P, 0, none⟩))) rfl (by kernel_rfl) (by kernel_rfl) (by kernel_rfl) (fun _ _ _ h => h) (Or.inl ⟨by rfl, fun W hS => by (obtain ⟨s0, s1, s2, s3, s4, s5⟩ := hS; go_simp)⟩) (HSW.out _ HBY.out) ?_
    simp only [Act.put, List.setIfInBounds_toArray, List.set_cons_zero, List.set_cons_succ]
    refine wpAnyH_take (i := 15) (oi := ⟨some 68, _, _, _, _, _⟩) (v := (.pointer (some ⟨w.heap.size, 2, none⟩))) rfl (by kernel_rfl) (by kernel_rfl) (by kernel_rfl) (fun _ _ _ h => h) (Or.inl ⟨by rfl, fun W hS => by (obtain ⟨s0, s1, s2, s3, s4, s5⟩ := hS; go_simp)⟩) (HSW.out _ HBY.out) ?_
    simp only [Act.put, List.setIfInBounds_toArray, List.set_cons_zero, List.set_cons_succ]
    refine wpAnyH_take (i := 2) (oi := ⟨some 55, _, _, _, _, _⟩) (v := (.int .i64 6)) rfl (by kernel_rfl) (by kernel_rfl) (by kernel_rfl) (fun _ _ _ h => h) (Or.inl ⟨by rfl, fun W hS => by (obtain ⟨s0, s1, s2, s3, s4, s5⟩ := hS; go_simp)⟩) (HSW.out _ HBY.out) ?_
    simp only [Act.put, List.setIfInBounds_toArray, List.set_cons_zero, List.set_cons_succ]
    refine wpAnyH_take (i := 4) (oi := ⟨some 57, _, _, _, _, _⟩) (v := (.pointer (some ⟨P, 0, none⟩))) rfl (by kernel_rfl) (by kernel_rfl) (by kernel_rfl) (fun _ _ _ h => h) (Or.inl ⟨by rfl, fun W hS => by (obtain ⟨s0, s1, s2, s3, s4, s5⟩ := hS; go_simp)⟩) (HSW.out _ HBY.out) ?_
    simp only [Act.put, List.setIfInBounds_toArray, List.set_cons_zero, List.set_cons_succ]
    refine wpAnyH_take (i := 8) (oi := ⟨some 61, _, _, _, _, _⟩) (v := (.int .i64 a)) rfl (by kernel_rfl) (by kernel_rfl) (by kernel_rfl) (fun _ _ _ h => h) (Or.inl ⟨by rfl, fun W hS => by (obtain ⟨s0, s1, s2, s3, s4, s5⟩ := hS; go_simp)⟩) (HSW.out _ HBY.out) ?_
    simp only [Act.put, List.setIfInBounds_toArray, List.set_cons_zero, List.set_cons_succ]
    refine wpAnyH_take (i := 12) (oi := ⟨some 65, _, _, _, _, _⟩) (v := (.pointer (some ⟨P, 0, none⟩))) rfl (by kernel_rfl) (by kernel_rfl) (by kernel_rfl) (fun _ _ _ h => h) (Or.inl ⟨by rfl, fun W hS => by (obtain ⟨s0, s1, s2, s3, s4, s5⟩ := hS; go_simp)⟩) (HSW.out _ HBY.out) ?_
    simp only [Act.put, List.setIfInBounds_toArray, List.set_cons_zero, List.set_cons_succ]
    refine wpAnyH_take (i := 16) (oi := ⟨some 69, _, _, _, _, _⟩) (v := (.int .i64 b)) rfl (by kernel_rfl) (by kernel_rfl) (by kernel_rfl) (fun _ _ _ h => h) (Or.inl ⟨by rfl, fun W hS => by (obtain ⟨s0, s1, s2, s3, s4, s5⟩ := hS; go_simp)⟩) (HSW.out _ HBY.out) ?_
    simp only [Act.put, List.setIfInBounds_toArray, List.set_cons_zero, List.set_cons_succ]
    refine wpAnyH_take (i := 5) (oi := ⟨some 58, _, _, _, _, _⟩) (v := (.pointer (some ⟨P, 2, none⟩))) rfl (by kernel_rfl) (by kernel_rfl) (by kernel_rfl) (fun _ _ _ h => h) (Or.inl ⟨by rfl, fun W hS => by (obtain ⟨s0, s1, s2, s3, s4, s5⟩ := hS; go_simp)⟩) (HSW.out _ HBY.out) ?_
    simp only [Act.put, List.setIfInBounds_toArray, List.set_cons_zero, List.set_cons_succ]
    refine wpAnyH_take (i := 13) (oi := ⟨some 66, _, _, _, _, _⟩) (v := (.pointer (some ⟨P, 2, none⟩))) rfl (by kernel_rfl) (by kernel_rfl) (by kernel_rfl) (fun _ _ _ h => h) (Or.inl ⟨by rfl, fun W hS => by (obtain ⟨s0, s1, s2, s3, s4, s5⟩ := hS; go_simp)⟩) (HSW.out _ HBY.out) ?_
    simp only [Act.put, List.setIfInBounds_toArray, List.set_cons_zero, List.set_cons_succ]
    refine wpAnyH_take (i := 6) (oi := ⟨some 59, _, _, _, _, _⟩) (v := (.slice (some ⟨wb, woff, none⟩) i wc)) rfl (by kernel_rfl) (by kernel_rfl) (by kernel_rfl) (fun _ _ _ h => h) (Or.inl ⟨by rfl, fun W hS => by (obtain ⟨s0, s1, s2, s3, s4, s5⟩ := hS; go_simp)⟩) (HSW.out _ HBY.out) ?_
    simp only [Act.put, List.setIfInBounds_toArray, List.set_cons_zero, List.set_cons_succ]
    refine wpAnyH_take (i := 14) (oi := ⟨some 67, _, _, _, _, _⟩) (v := (.slice (some ⟨wb, woff, none⟩) i wc)) rfl (by kernel_rfl) (by kernel_rfl) (by kernel_rfl) (fun _ _ _ h => h) (Or.inl ⟨by rfl, fun W hS => by (obtain ⟨s0, s1, s2, s3, s4, s5⟩ := hS; go_simp)⟩) (HSW.out _ HBY.out) ?_
    simp only [Act.put, List.setIfInBounds_toArray, List.set_cons_zero, List.set_cons_succ]
    refine wpAnyH_take (i := 9) (oi := ⟨some 62, _, _, _, _, _⟩) (v := (.pointer (some ⟨wb, woff + a, none⟩))) rfl (by kernel_rfl) (by kernel_rfl) (by kernel_rfl) (fun _ _ _ h => h) (Or.inl ⟨by rfl, fun W hS => by (obtain ⟨s0, s1, s2, s3, s4, s5⟩ := hS; go_simp)⟩) (HSW.out _ HBY.out) ?_
    simp only [Act.put, List.setIfInBounds_toArray, List.set_cons_zero, List.set_cons_succ]
    refine wpAnyH_take (i := 17) (oi := ⟨some 70, _, _, _, _, _⟩) (v := (.pointer (some ⟨wb, woff + b, none⟩))) rfl (by kernel_rfl) (by kernel_rfl) (by kernel_rfl) (fun _ _ _ h => h) (Or.inl ⟨by rfl, fun W hS => by (obtain ⟨s0, s1, s2, s3, s4, s5⟩ := hS; go_simp)⟩) (HSW.out _ HBY.out) ?_
    simp only [Act.put, List.setIfInBounds_toArray, List.set_cons_zero, List.set_cons_succ]
    refine wpAnyH_take (i := 10) (oi := ⟨some 63, _, _, _, _, _⟩) (v := (.slice (SA a) (X a).length (SC a))) rfl (by kernel_rfl) (by kernel_rfl) (by kernel_rfl) (fun _ _ _ h => h) (Or.inl ⟨by rfl, fun W hS => by (obtain ⟨s0, s1, s2, s3, s4, s5⟩ := hS; go_simp)⟩) (HSW.out _ HBY.out) ?_
    simp only [Act.put, List.setIfInBounds_toArray, List.set_cons_zero, List.set_cons_succ]
    refine wpAnyH_take (i := 18) (oi := ⟨some 71, _, _, _, _, _⟩) (v := (.slice (SA b) (X b).length (SC b))) rfl (by kernel_rfl) (by kernel_rfl) (by kernel_rfl) (fun _ _ _ h => h) (Or.inl ⟨by rfl, fun W hS => by (obtain ⟨s0, s1, s2, s3, s4, s5⟩ := hS; go_simp)⟩) (HSW.out _ HBY.out) ?_
    simp only [Act.put, List.setIfInBounds_toArray, List.set_cons_zero, List.set_cons_succ]
    refine wpAnyH_ready (rs := [19]) (by kernel_rfl) (by simp) ?_
    refine AllReadyH.cons rfl (fun K hK => ?_) AllReadyH.nil
    go_simp
    have HP1 := hide (HH0.out.below HBY.out)
    have HGC := hide (gate_at P 6 (X a) (X b) (SA a) (SA b) (SC a) (SC b) _ (HP1.out.each a ha).1 (HP1.out.each b hbi).1 (fun x hx => ⟨((HP1.out.each a ha).2 x hx).any, (HX.out a ha x hx).1⟩) (fun x hx => ⟨((HP1.out.each b hbi).2 x hx).any, (HX.out b hbi x hx).1⟩) HNN.out (HX1.out a ha) (HX1.out b hbi) D Dg D.length first i wc _ (by rw [blk_cell HP1.out.me]; rfl) (by rw [blk_cell HP1.out.me]; rfl) (by rw [blk_cell HP1.out.me]; rfl) hsg HP1.out.deep HP1.out.ne hDb HDM.out (fun x hx => (HX.out a ha x hx).2) (fun x hx => (HX.out b hbi x hx).2))
    refine HGC.out.mono ?_
    intro e w2 hg2
    have HG2 := hide hg2
    clear hg2 HGC
    rcases HG2.out with hgg | hgg
    · obtain ⟨x, g, c, rfl, hr⟩ := hgg
      have HBW : Hid (Below w.heap.size w w2) := hide (Below.step (Below.step HW0.out HBY.out) hr.2.2.2.2)
      refine hK.out _ _ (HSW.out _ (Below.step HBY.out hr.2.2.2.2)) (fun _ => ?_)
      clear hK K
      refine wpAnyH_ready (rs := [20]) (by kernel_rfl) (by simp) ?_
      refine AllReadyH.cons rfl (fun K hK => ?_) AllReadyH.nil
      go_simp
      refine hK.out _ _ (HSW.out _ (Below.step HBY.out hr.2.2.2.2)) (fun _ => ?_)
      clear hK K
      refine wpAnyH_done (by kernel_rfl) ?_ _
      go_wp2_with fail
      go_ret
      exact ⟨_, Below.step HW0.out HBY.out, .inl ⟨x, g, c, rfl, hr⟩⟩
    · obtain ⟨zs, pz, va, vc, rfl, hr⟩ := hgg
      have hk := hr.2.2.2.2.2.2.2.2
      have hsk : w2.cell? ⟨P, 2, none⟩ = some (.slice (some ⟨wb, woff, none⟩) i wc) ∧ w2.cell? ⟨w.heap.size, 0, none⟩ = some (.int .i64 6) ∧ w2.cell? ⟨w.heap.size, 1, none⟩ = some (.int .i64 a) ∧ w2.cell? ⟨wb, woff + a, none⟩ = some (.slice (SA a) (X a).length (SC a)) ∧ w2.cell? ⟨w.heap.size, 2, none⟩ = some (.int .i64 b) ∧ w2.cell? ⟨wb, woff + b, none⟩ = some (.slice (SA b) (X b).length (SC b)) := by
        obtain ⟨s0, s1, s2, s3, s4, s5⟩ := HSW.out _ HBY.out
        exact ⟨hk.cell s0 (HH0.out.ne), hk.cell s1 ((fun e : w.heap.size = Dg => by have := HDG.out; omega)), hk.cell s2 ((fun e : w.heap.size = Dg => by have := HDG.out; omega)), hk.cell s3 (HWD.out), hk.cell s4 ((fun e : w.heap.size = Dg => by have := HDG.out; omega)), hk.cell s5 (HWD.out)⟩
      refine hK.out _ _ hsk (fun _ => ?_)
      clear hK K
      refine wpAnyH_ready (rs := [20]) (by kernel_rfl) (by simp) ?_
      refine AllReadyH.cons rfl (fun K hK => ?_) AllReadyH.nil
      go_simp
      refine hK.out _ _ hsk (fun _ => ?_)
      clear hK K
      refine wpAnyH_done (by kernel_rfl) ?_ _
      go_wp2_with fail
      go_ret
      exact ⟨_, Below.step HW0.out HBY.out, .inr ⟨zs, pz, va, vc, rfl, hr⟩⟩
  · skip
    go_enter Try.func24, Try.ntmps24
    go_wp2_with fail
    generalize w.alloc (.cells #[.int .i64 7, .int .i64 a, .int .i64 b, .int .i64 nx] 48) = w0 at *
    refine wp_region_held_drew (S := fun W => W.cell? ⟨P, 2, none⟩ = some (.slice (some ⟨wb, woff, none⟩) i wc) ∧ W.cell? ⟨w.heap.size, 0, none⟩ = some (.int .i64 7) ∧ W.cell? ⟨w.heap.size, 1, none⟩ = some (.int .i64 a) ∧ W.cell? ⟨wb, woff + a, none⟩ = some (.slice (SA a) (X a).length (SC a)) ∧ W.cell? ⟨w.heap.size, 2, none⟩ = some (.int .i64 b) ∧ W.cell? ⟨wb, woff + b, none⟩ = some (.slice (SA b) (X b).length (SC b))) (by kernel_rfl) (HSW.out _ (Below.refl _ _).drew) (fun _ => ?_)
    have HBY : Hid (Below w0.heap.size w0 w0.drew) := hide (Below.refl _ _).drew
    refine wpAnyH_take (i := 0) (oi := ⟨some 53, _, _, _, _, _⟩) (v := (.pointer (some ⟨P, 0, none⟩))) rfl (by kernel_rfl) (by kernel_rfl) (by kernel_rfl) (fun _ _ _ h => h) (Or.inl ⟨by rfl, fun W hS => by (obtain ⟨s0, s1, s2, s3, s4, s5⟩ := hS; go_simp)⟩) (HSW.out _ HBY.out) ?_
    simp only [Act.put, List.setIfInBounds_toArray, List.set_cons_zero, List.set_cons_succ]
    refine wpAnyH_take (i := 1) (oi := ⟨some 54, _, _, _, _, _⟩) (v := (.pointer (some ⟨w.heap.size, 0, none⟩))) rfl (by kernel_rfl) (by kernel_rfl) (by kernel_rfl) (fun _ _ _ h => h) (Or.inl ⟨by rfl, fun W hS => by (obtain ⟨s0, s1, s2, s3, s4, s5⟩ := hS; go_simp)⟩) (HSW.out _ HBY.out) ?_
    simp only [Act.put, List.setIfInBounds_toArray, List.set_cons_zero, List.set_cons_succ]
    refine wpAnyH_take (i := 3) (oi := ⟨some 56, _, _, _, _, _⟩) (v := (.pointer (some ⟨P, 0, none⟩))) rfl (by kernel_rfl) (by kernel_rfl) (by kernel_rfl) (fun _ _ _ h => h) (Or.inl ⟨by rfl, fun W hS => by (obtain ⟨s0, s1, s2, s3, s4, s5⟩ := hS; go_simp)⟩) (HSW.out _ HBY.out) ?_
    simp only [Act.put, List.setIfInBounds_toArray, List.set_cons_zero, List.set_cons_succ]
    refine wpAnyH_take (i := 7) (oi := ⟨some 60, _, _, _, _, _⟩) (v := (.pointer (some ⟨w.heap.size, 1, none⟩))) rfl (by kernel_rfl) (by kernel_rfl) (by kernel_rfl) (fun _ _ _ h => h) (Or.inl ⟨by rfl, fun W hS => by (obtain ⟨s0, s1, s2, s3, s4, s5⟩ := hS; go_simp)⟩) (HSW.out _ HBY.out) ?_
    simp only [Act.put, List.setIfInBounds_toArray, List.set_cons_zero, List.set_cons_succ]
    refine wpAnyH_take (i := 11) (oi := ⟨some 64, _, _, _, _, _⟩) (v := (.pointer (some ⟨P, 0, none⟩))) rfl (by kernel_rfl) (by kernel_rfl) (by kernel_rfl) (fun _ _ _ h => h) (Or.inl ⟨by rfl, fun W hS => by (obtain ⟨s0, s1, s2, s3, s4, s5⟩ := hS; go_simp)⟩) (HSW.out _ HBY.out) ?_
    simp only [Act.put, List.setIfInBounds_toArray, List.set_cons_zero, List.set_cons_succ]
    refine wpAnyH_take (i := 15) (oi := ⟨some 68, _, _, _, _, _⟩) (v := (.pointer (some ⟨w.heap.size, 2, none⟩))) rfl (by kernel_rfl) (by kernel_rfl) (by kernel_rfl) (fun _ _ _ h => h) (Or.inl ⟨by rfl, fun W hS => by (obtain ⟨s0, s1, s2, s3, s4, s5⟩ := hS; go_simp)⟩) (HSW.out _ HBY.out) ?_
    simp only [Act.put, List.setIfInBounds_toArray, List.set_cons_zero, List.set_cons_succ]
    refine wpAnyH_take (i := 2) (oi := ⟨some 55, _, _, _, _, _⟩) (v := (.int .i64 7)) rfl (by kernel_rfl) (by kernel_rfl) (by kernel_rfl) (fun _ _ _ h => h) (Or.inl ⟨by rfl, fun W hS => by (obtain ⟨s0, s1, s2, s3, s4, s5⟩ := hS; go_simp)⟩) (HSW.out _ HBY.out) ?_
    simp only [Act.put, List.setIfInBounds_toArray, List.set_cons_zero, List.set_cons_succ]
    refine wpAnyH_take (i := 4) (oi := ⟨some 57, _, _, _, _, _⟩) (v := (.pointer (some ⟨P, 0, none⟩))) rfl (by kernel_rfl) (by kernel_rfl) (by kernel_rfl) (fun _ _ _ h => h) (Or.inl ⟨by rfl, fun W hS => by (obtain ⟨s0, s1, s2, s3, s4, s5⟩ := hS; go_simp)⟩) (HSW.out _ HBY.out) ?_
    simp only [Act.put, List.setIfInBounds_toArray, List.set_cons_zero, List.set_cons_succ]
    refine wpAnyH_take (i := 8) (oi := ⟨some 61, _, _, _, _, _⟩) (v := (.int .i64 a)) rfl (by kernel_rfl) (by kernel_rfl) (by kernel_rfl) (fun _ _ _ h => h) (Or.inl ⟨by rfl, fun W hS => by (obtain ⟨s0, s1, s2, s3, s4, s5⟩ := hS; go_simp)⟩) (HSW.out _ HBY.out) ?_
    simp only [Act.put, List.setIfInBounds_toArray, List.set_cons_zero, List.set_cons_succ]
    refine wpAnyH_take (i := 12) (oi := ⟨some 65, _, _, _, _, _⟩) (v := (.pointer (some ⟨P, 0, none⟩))) rfl (by kernel_rfl) (by kernel_rfl) (by kernel_rfl) (fun _ _ _ h => h) (Or.inl ⟨by rfl, fun W hS => by (obtain ⟨s0, s1, s2, s3, s4, s5⟩ := hS; go_simp)⟩) (HSW.out _ HBY.out) ?_
    simp only [Act.put, List.setIfInBounds_toArray, List.set_cons_zero, List.set_cons_succ]
    refine wpAnyH_take (i := 16) (oi := ⟨some 69, _, _, _, _, _⟩) (v := (.int .i64 b)) rfl (by kernel_rfl) (by kernel_rfl) (by kernel_rfl) (fun _ _ _ h => h) (Or.inl ⟨by rfl, fun W hS => by (obtain ⟨s0, s1, s2, s3, s4, s5⟩ := hS; go_simp)⟩) (HSW.out _ HBY.out) ?_
    simp only [Act.put, List.setIfInBounds_toArray, List.set_cons_zero, List.set_cons_succ]
    refine wpAnyH_take (i := 5) (oi := ⟨some 58, _, _, _, _, _⟩) (v := (.pointer (some ⟨P, 2, none⟩))) rfl (by kernel_rfl) (by kernel_rfl) (by kernel_rfl) (fun _ _ _ h => h) (Or.inl ⟨by rfl, fun W hS => by (obtain ⟨s0, s1, s2, s3, s4, s5⟩ := hS; go_simp)⟩) (HSW.out _ HBY.out) ?_
    simp only [Act.put, List.setIfInBounds_toArray, List.set_cons_zero, List.set_cons_succ]
    refine wpAnyH_take (i := 13) (oi := ⟨some 66, _, _, _, _, _⟩) (v := (.pointer (some ⟨P, 2, none⟩))) rfl (by kernel_rfl) (by kernel_rfl) (by kernel_rfl) (fun _ _ _ h => h) (Or.inl ⟨by rfl, fun W hS => by (obtain ⟨s0, s1, s2, s3, s4, s5⟩ := hS; go_simp)⟩) (HSW.out _ HBY.out) ?_
    simp only [Act.put, List.setIfInBounds_toArray, List.set_cons_zero, List.set_cons_succ]
    refine wpAnyH_take (i := 6) (oi := ⟨some 59, _, _, _, _, _⟩) (v := (.slice (some ⟨wb, woff, none⟩) i wc)) rfl (by kernel_rfl) (by kernel_rfl) (by kernel_rfl) (fun _ _ _ h => h) (Or.inl ⟨by rfl, fun W hS => by (obtain ⟨s0, s1, s2, s3, s4, s5⟩ := hS; go_simp)⟩) (HSW.out _ HBY.out) ?_
    simp only [Act.put, List.setIfInBounds_toArray, List.set_cons_zero, List.set_cons_succ]
    refine wpAnyH_take (i := 14) (oi := ⟨some 67, _, _, _, _, _⟩) (v := (.slice (some ⟨wb, woff, none⟩) i wc)) rfl (by kernel_rfl) (by kernel_rfl) (by kernel_rfl) (fun _ _ _ h => h) (Or.inl ⟨by rfl, fun W hS => by (obtain ⟨s0, s1, s2, s3, s4, s5⟩ := hS; go_simp)⟩) (HSW.out _ HBY.out) ?_
    simp only [Act.put, List.setIfInBounds_toArray, List.set_cons_zero, List.set_cons_succ]
    refine wpAnyH_take (i := 9) (oi := ⟨some 62, _, _, _, _, _⟩) (v := (.pointer (some ⟨wb, woff + a, none⟩))) rfl (by kernel_rfl) (by kernel_rfl) (by kernel_rfl) (fun _ _ _ h => h) (Or.inl ⟨by rfl, fun W hS => by (obtain ⟨s0, s1, s2, s3, s4, s5⟩ := hS; go_simp)⟩) (HSW.out _ HBY.out) ?_
    simp only [Act.put, List.setIfInBounds_toArray, List.set_cons_zero, List.set_cons_succ]
    refine wpAnyH_take (i := 17) (oi := ⟨some 70, _, _, _, _, _⟩) (v := (.pointer (some ⟨wb, woff + b, none⟩))) rfl (by kernel_rfl) (by kernel_rfl) (by kernel_rfl) (fun _ _ _ h => h) (Or.inl ⟨by rfl, fun W hS => by (obtain ⟨s0, s1, s2, s3, s4, s5⟩ := hS; go_simp)⟩) (HSW.out _ HBY.out) ?_
    simp only [Act.put, List.setIfInBounds_toArray, List.set_cons_zero, List.set_cons_succ]
    refine wpAnyH_take (i := 10) (oi := ⟨some 63, _, _, _, _, _⟩) (v := (.slice (SA a) (X a).length (SC a))) rfl (by kernel_rfl) (by kernel_rfl) (by kernel_rfl) (fun _ _ _ h => h) (Or.inl ⟨by rfl, fun W hS => by (obtain ⟨s0, s1, s2, s3, s4, s5⟩ := hS; go_simp)⟩) (HSW.out _ HBY.out) ?_
    simp only [Act.put, List.setIfInBounds_toArray, List.set_cons_zero, List.set_cons_succ]
    refine wpAnyH_take (i := 18) (oi := ⟨some 71, _, _, _, _, _⟩) (v := (.slice (SA b) (X b).length (SC b))) rfl (by kernel_rfl) (by kernel_rfl) (by kernel_rfl) (fun _ _ _ h => h) (Or.inl ⟨by rfl, fun W hS => by (obtain ⟨s0, s1, s2, s3, s4, s5⟩ := hS; go_simp)⟩) (HSW.out _ HBY.out) ?_
    simp only [Act.put, List.setIfInBounds_toArray, List.set_cons_zero, List.set_cons_succ]
    refine wpAnyH_ready (rs := [19]) (by kernel_rfl) (by simp) ?_
    refine AllReadyH.cons rfl (fun K hK => ?_) AllReadyH.nil
    go_simp
    have HP1 := hide (HH0.out.below HBY.out)
    have HGC := hide (gate_at P 7 (X a) (X b) (SA a) (SA b) (SC a) (SC b) _ (HP1.out.each a ha).1 (HP1.out.each b hbi).1 (fun x hx => ⟨((HP1.out.each a ha).2 x hx).any, (HX.out a ha x hx).1⟩) (fun x hx => ⟨((HP1.out.each b hbi).2 x hx).any, (HX.out b hbi x hx).1⟩) HNN.out (HX1.out a ha) (HX1.out b hbi) D Dg D.length first i wc _ (by rw [blk_cell HP1.out.me]; rfl) (by rw [blk_cell HP1.out.me]; rfl) (by rw [blk_cell HP1.out.me]; rfl) hsg HP1.out.deep HP1.out.ne hDb HDM.out (fun x hx => (HX.out a ha x hx).2) (fun x hx => (HX.out b hbi x hx).2))
    refine HGC.out.mono ?_
    intro e w2 hg2
    have HG2 := hide hg2
    clear hg2 HGC
    rcases HG2.out with hgg | hgg
    · obtain ⟨x, g, c, rfl, hr⟩ := hgg
      have HBW : Hid (Below w.heap.size w w2) := hide (Below.step (Below.step HW0.out HBY.out) hr.2.2.2.2)
      refine hK.out _ _ (HSW.out _ (Below.step HBY.out hr.2.2.2.2)) (fun _ => ?_)
      clear hK K
      refine wpAnyH_ready (rs := [20]) (by kernel_rfl) (by simp) ?_
      refine AllReadyH.cons rfl (fun K hK => ?_) AllReadyH.nil
      go_simp
      refine hK.out _ _ (HSW.out _ (Below.step HBY.out hr.2.2.2.2)) (fun _ => ?_)
      clear hK K
      refine wpAnyH_done (by kernel_rfl) ?_ _
      go_wp2_with fail
      go_ret
      exact ⟨_, Below.step HW0.out HBY.out, .inl ⟨x, g, c, rfl, hr⟩⟩
    · obtain ⟨zs, pz, va, vc, rfl, hr⟩ := hgg
      have hk := hr.2.2.2.2.2.2.2.2
      have hsk : w2.cell? ⟨P, 2, none⟩ = some (.slice (some ⟨wb, woff, none⟩) i wc) ∧ w2.cell? ⟨w.heap.size, 0, none⟩ = some (.int .i64 7) ∧ w2.cell? ⟨w.heap.size, 1, none⟩ = some (.int .i64 a) ∧ w2.cell? ⟨wb, woff + a, none⟩ = some (.slice (SA a) (X a).length (SC a)) ∧ w2.cell? ⟨w.heap.size, 2, none⟩ = some (.int .i64 b) ∧ w2.cell? ⟨wb, woff + b, none⟩ = some (.slice (SA b) (X b).length (SC b)) := by
        obtain ⟨s0, s1, s2, s3, s4, s5⟩ := HSW.out _ HBY.out
        exact ⟨hk.cell s0 (HH0.out.ne), hk.cell s1 ((fun e : w.heap.size = Dg => by have := HDG.out; omega)), hk.cell s2 ((fun e : w.heap.size = Dg => by have := HDG.out; omega)), hk.cell s3 (HWD.out), hk.cell s4 ((fun e : w.heap.size = Dg => by have := HDG.out; omega)), hk.cell s5 (HWD.out)⟩
      refine hK.out _ _ hsk (fun _ => ?_)
      clear hK K
      refine wpAnyH_ready (rs := [20]) (by kernel_rfl) (by simp) ?_
      refine AllReadyH.cons rfl (fun K hK => ?_) AllReadyH.nil
      go_simp
      refine hK.out _ _ hsk (fun _ => ?_)
      clear hK K
      refine wpAnyH_done (by kernel_rfl) ?_ _
      go_wp2_with fail
      go_ret
      exact ⟨_, Below.step HW0.out HBY.out, .inr ⟨zs, pz, va, vc, rfl, hr⟩⟩
end Go.Proofs.Ytacgepdmhdcdkaa
