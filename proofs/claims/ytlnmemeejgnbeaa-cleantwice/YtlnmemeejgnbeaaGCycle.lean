/-
  CONTRACTS of cycle.
-/
import Derived.Test.YtlnmemeejgnbeaaGApp
import Derived.Deep.DeepCutAuto
set_option linter.unusedSimpArgs false
set_option linter.unusedVariables false
namespace Go.Proofs.Ytlnmemeejgnbeaa
open Go.RowKit

set_option maxRecDepth 100000 in
set_option maxHeartbeats 1600000 in
theorem aheadC_at (k C W n : Nat) (l : List Bool) (w : World) (hk : k < l.length) (hn : (k : Int) < (n : Int)) (hc : w.cell? ⟨C, 0, none⟩ = some (.slice (some ⟨W, 0, none⟩) n n)) (hl : w.cell? ⟨W, k, none⟩ = some (.bool (bit l k))) :
    Calls Try.prog 31 #[.int .i64 k, .pointer (some ⟨C, 0, none⟩)] w fun e w' => e = .returned (.bool (bit l k)) ∧ w' = w := by
  go_enter Try.func31, Try.ntmps31
  go_wp2_with fail
  go_ret
  exact ⟨rfl, rfl⟩

/-- so far in a cycle -/
structure Cyc (w : World) (g held : List Bool) (ns : List Nd) (k : Nat) (wr : World) : Prop where
  below : Below w.heap.size w wr
  row : wr.heap[w.heap.size]? = some (.cells (bitsC (valsTo g held ns k ++ List.replicate (ns.length - k) false)).toArray 4 (0, 0))
  box : wr.heap[w.heap.size + 1]? = some (.cells #[.slice (some ⟨w.heap.size, 0, none⟩) ns.length ns.length] 41 (0, 0))
theorem Cyc.next {w : World} {g held : List Bool} {ns : List Nd} {k : Nat} {wr wr1 : World} (h : Cyc w g held ns k wr) (hk : k < ns.length) (hb : Below wr.heap.size wr wr1) (b : Bool) (hv : valN g (valsTo g held ns k) (bit held k) (ndAt ns k) = b) : Cyc w g held ns (k + 1) (wr1.setCell ⟨w.heap.size, k, none⟩ (.bool b)) := by
  have hr := Below.blk hb h.row
  refine ⟨(Below.step h.below hb).setCell (Nat.le_refl _) _, ?_, ?_⟩
  · rw [blk_set hr, bits_set, row_set _ _ _ _ (valsTo_len _ _ _ _) hk, ← hv]; rfl
  · exact (Below.heap_setCell wr1 ⟨w.heap.size, k, none⟩ _ _ (by show w.heap.size + 1 ≠ w.heap.size; omega)).trans (Below.blk hb h.box)
theorem Cyc.more {w : World} {g held : List Bool} {ns : List Nd} {k : Nat} {wr wr1 : World} (h : Cyc w g held ns k wr) (hb : Below wr.heap.size wr wr1) : Cyc w g held ns k wr1 := ⟨Below.step h.below hb, Below.blk hb h.row, Below.blk hb h.box⟩
theorem Cyc.skip {w : World} {g held : List Bool} {ns : List Nd} {k : Nat} {wr wr1 : World} (h : Cyc w g held ns k wr) (hk : k < ns.length) (hb : Below wr.heap.size wr wr1) (hv : valN g (valsTo g held ns k) (bit held k) (ndAt ns k) = false) : Cyc w g held ns (k + 1) wr1 := by
  refine ⟨Below.step h.below hb, ?_, Below.blk hb h.box⟩
  rw [Below.blk hb h.row]
  show _ = some (Obj.cells (bitsC ((valsTo g held ns k ++ [valN g (valsTo g held ns k) (bit held k) (ndAt ns k)]) ++ _)).toArray _ _)
  rw [hv, ← row_set _ _ _ false (valsTo_len g held ns k) hk]
  congr 3
  rw [List.set_append_right _ _ (by rw [valsTo_len]; exact Nat.le_refl _)]
  obtain ⟨m, hm⟩ : ∃ m, ns.length - k = m + 1 := ⟨ns.length - k - 1, by omega⟩
  rw [hm, valsTo_len, Nat.sub_self, List.replicate_succ]; rfl
theorem Cyc.at {w : World} {g held : List Bool} {ns : List Nd} {k : Nat} {wr wr1 : World} (h : Cyc w g held ns k wr) (hk : k < ns.length) (hb : Below wr.heap.size wr wr1) {a : Nat} (ha : a < k) : wr1.cell? ⟨w.heap.size, a, none⟩ = some (.bool (bit (valsTo g held ns k) a)) := by
  rw [blk_cell (Below.blk hb h.row)]
  have := row_get (valsTo g held ns k) ns.length k a (valsTo_len _ _ _ _) ha
  simp only [bitsC, List.getElem?_toArray, List.getElem?_map, this, Option.map_some]
theorem Cyc.here {w : World} {g held : List Bool} {ns : List Nd} {k : Nat} {wr wr1 : World} (h : Cyc w g held ns k wr) (hk : k < ns.length) (hb : Below wr.heap.size wr wr1) : wr1.cell? ⟨w.heap.size, k, none⟩ = some (.bool false) := by
  rw [blk_cell (Below.blk hb h.row)]
  have : (valsTo g held ns k ++ List.replicate (ns.length - k) false)[k]? = some false := by
    rw [List.getElem?_append_right (by rw [valsTo_len]; exact Nat.le_refl _), valsTo_len, Nat.sub_self]
    rw [List.getElem?_replicate, if_pos (by omega)]
  simp only [bitsC, List.getElem?_toArray, List.getElem?_map, this, Option.map_some]
theorem Cyc.soft {w : World} {g held : List Bool} {ns : List Nd} {k : Nat} {wr wr1 : World} (h : Cyc w g held ns k wr) (hb : Below wr.heap.size wr wr1) : wr1.frozen? ⟨w.heap.size, k, none⟩ = false := blk_frozen (Below.blk hb h.row) k
theorem Cyc.boxed {w : World} {g held : List Bool} {ns : List Nd} {k : Nat} {wr wr1 : World} (h : Cyc w g held ns k wr) (hb : Below wr.heap.size wr wr1) : wr1.cell? ⟨w.heap.size + 1, 0, none⟩ = some (.slice (some ⟨w.heap.size, 0, none⟩) ns.length ns.length) := by rw [blk_cell (Below.blk hb h.box)]; rfl

set_option maxRecDepth 100000 in
set_option maxHeartbeats 6400000 in
theorem cycle_at {s : SimP} {w : World} {lo hi : Nat} {given : Int} {ns : List Nd} {os : List Int} {held g : List Bool} (h : SimAt s w lo hi ns os held) (hr : RightP given ns os) (ga : Option Addr) (gc : Nat) (hg : Lies AnyB w ga (bitsC g)) (hgl : (g.length : Int) ≤ 20000) :
    Calls Try.prog 24 #[.pointer (some ⟨s.p, 0, none⟩), .slice ga g.length gc] w fun e w' => (∃ W, e = .returned (.slice (some ⟨W, 0, none⟩) ns.length ns.length) ∧ w.heap.size ≤ W ∧ w'.heap[W]? = some (.cells (bitsC (vals g held ns)).toArray 4 (0, 0))) ∧ Below w.heap.size w w' := by
  have hn : (ns.length : Int) ≤ 20000 := by have := hr.n1; omega
  have hmf : ∀ (fn : Fn) (first cap : Array Value) (w : World), (Instr.makeFunc fn first cap).run Try.prog w = .ok (.func fn first cap) w := fun _ _ _ _ => rfl
  have hmk := mk_bits ns.length hr.n1
  have c0 : w.cell? ⟨s.p, 0, none⟩ = some (.slice s.na ns.length s.nc) := by rw [blk_cell h.me]; rfl
  have c0a := fun o => cell_alloc c0 o
  have c0b := fun o o' => cell_alloc (cell_alloc c0 o) o'
  have hpl := blk_lt h.me
  have H := hide h
  have HR := hide hr
  have HG := hide hg
  clear h hr hg
  have HC0 : Hid (Cyc w g held ns 0 ((w.alloc (.cells (bitsC (List.replicate ns.length false)).toArray 4)).alloc (.cells #[.slice (some ⟨w.heap.size, 0, none⟩) ns.length ns.length] 41))) := hide (by
    have hb := below_alloc w (.cells (bitsC (List.replicate ns.length false)).toArray 4)
    have hb2 := below_alloc (w.alloc (.cells (bitsC (List.replicate ns.length false)).toArray 4)) (.cells #[.slice (some ⟨w.heap.size, 0, none⟩) ns.length ns.length] 41)
    refine ⟨Below.step hb hb2, Below.blk hb2 (blk_new _ _), ?_⟩
    have := blk_new (w.alloc (.cells (bitsC (List.replicate ns.length false)).toArray 4)) (.cells #[.slice (some ⟨w.heap.size, 0, none⟩) ns.length ns.length] 41)
    rwa [show (w.alloc (.cells (bitsC (List.replicate ns.length false)).toArray 4)).heap.size = w.heap.size + 1 by simp] at this)
  go_enter Try.func24, Try.ntmps24
  go_wp2_with fail
  clear c0 c0a c0b hmk
  go_loopw [7, 8, 21] (fun _ _ i wr => ∃ k : Nat, k ≤ ns.length ∧ i = .int .i64 k ∧ Hid (Cyc w g held ns k wr)) (fun _ _ i _ => ns.length - (intOf i).toNat)
  case atStart => exact ⟨0, Nat.zero_le _, rfl, HC0⟩
  case round =>
    obtain ⟨k, hk, rfl, hc⟩ := hrel
    by_cases hlt : k < ns.length
    · have hki : (k : Int) < (ns.length : Int) := by omega
      obtain ⟨b, off, ha, _, hbl, n0, n1, n2, n3⟩ := (H.out.nodes.below hc.out.below).nodes hlt
      have HA := hide ha
      have HBL := hide hbl
      rw [HA.out]
      have HRN := hide (HR.out.nodes k hlt)
      have HV : Hid (∀ r : Bool, valN g (valsTo g held ns k) (bit held k) (ndAt ns k) = r → valN g (valsTo g held ns k) (bit held k) (ndAt ns k) = r) := hide fun _ h => h
      have HX : Hid (ndAt ns k = ndAt ns k) := hide rfl
      have hwl : w.heap.size < wr.heap.size := blk_lt hc.out.row
      have hwl2 : w.heap.size + 1 < wr.heap.size := blk_lt hc.out.box
      clear ha hbl
      generalize hnd : ndAt ns k = x at n0 n1 n2 n3 HRN
      have HND := hide hnd
      clear hnd HV HX
      obtain ⟨op, a, bb, nx⟩ := x
      simp only at n0 n1 n2 n3
      have HB1 : Hid (Below wr.heap.size wr (wr.alloc (.cells #[.int .i64 op, .int .i64 a, .int .i64 bb, .int .i64 nx] 26))) := hide (below_alloc _ _)
      have fW := hc.out.here hlt HB1.out
      have fz := hc.out.soft HB1.out
      have fC := hc.out.boxed HB1.out
      have x1 : (wr.alloc (.cells #[.int .i64 op, .int .i64 a, .int .i64 bb, .int .i64 nx] 26)).cell? ⟨wr.heap.size, 1, none⟩ = some (.int .i64 a) := by rw [blk_cell (blk_new _ _)]; rfl
      have x2 : (wr.alloc (.cells #[.int .i64 op, .int .i64 a, .int .i64 bb, .int .i64 nx] 26)).cell? ⟨wr.heap.size, 2, none⟩ = some (.int .i64 bb) := by rw [blk_cell (blk_new _ _)]; rfl
      have hop : op = 1 ∨ op = 2 ∨ op = 3 ∨ op = 4 ∨ op = 5 ∨ op = 6 ∨ op = 7 ∨ op = 8 := by
        have h := HRN.out
        simp only [rightN] at h
        by_cases h1 : op = 1; · omega
        by_cases h2 : op = 2; · omega
        by_cases h3 : op = 3; · omega
        by_cases h4 : op = 4; · omega
        by_cases h5 : op = 5; · omega
        by_cases h6 : op = 6; · omega
        by_cases h7 : op = 7; · omega
        by_cases h8 : op = 8; · omega
        simp [h1, h2, h3, h4, h5, h6, h7, h8] at h
      rcases hop with rfl | rfl | rfl | rfl | rfl | rfl | rfl | rfl
      · go_wp2_with fail
        exact ⟨⟨k + 1, by omega, by go_num, hide (hc.out.skip hlt HB1.out (by rw [HND.out]; rfl))⟩, by simp [intOf]; omega⟩
      · go_wp2_with fail
        exact ⟨⟨k + 1, by omega, by go_num, hide ((hc.out.next hlt (Below.refl _ _) true (by rw [HND.out]; rfl)).more (below_alloc _ _))⟩, by simp [intOf]; omega⟩
      · obtain ⟨ha0, ha1⟩ := inR_iff.1 (show inR a given = true from HRN.out)
        obtain ⟨an, rfl⟩ := Int.eq_ofNat_of_zero_le ha0
        by_cases hag : an < g.length
        · have hagi : (an : Int) < (g.length : Int) := by omega
          obtain ⟨gb, goff, hga, _, _, gcell⟩ := ((HG.out.below hc.out.below).below HB1.out).bits hag
          have HGA := hide hga
          rw [HGA.out]
          clear hga
          have HVV : Hid (valN g (valsTo g held ns k) (bit held k) (ndAt ns k) = bit g an) := hide (by rw [HND.out]; simp [valN])
          go_wp2_with fail
          go_region
          go_wp2_with fail
          exact ⟨⟨k + 1, by omega, by go_num, hide ((hc.out.next hlt (Below.refl _ _) (bit g an) HVV.out).more (below_alloc _ _).drew)⟩, by simp [intOf]; omega⟩
        · have hagi : ¬ (an : Int) < (g.length : Int) := by omega
          have hagb : decide ((an : Int) < (g.length : Int)) = false := by simp; omega
          have HVV : Hid (valN g (valsTo g held ns k) (bit held k) (ndAt ns k) = false) := hide (by rw [HND.out]; simp [valN, bit, List.getElem?_eq_none (show g.length ≤ an by omega)])
          go_wp2_with fail
          go_region
          go_wp2_with fail
          exact ⟨⟨k + 1, by omega, by go_num, hide ((hc.out.next hlt (Below.refl _ _) false HVV.out).more (below_alloc _ _).drew)⟩, by simp [intOf]; omega⟩
      · have hm := Below.blk HB1.out (Below.blk hc.out.below H.out.me)
        have m2 : (wr.alloc (.cells #[.int .i64 4, .int .i64 a, .int .i64 bb, .int .i64 nx] 26)).cell? ⟨s.p, 2, none⟩ = some (.slice (some ⟨s.h, 0, none⟩) ns.length ns.length) := by rw [blk_cell hm]; rfl
        have hh : (wr.alloc (.cells #[.int .i64 4, .int .i64 a, .int .i64 bb, .int .i64 nx] 26)).cell? ⟨s.h, k, none⟩ = some (.bool (bit held k)) := bits_cell (Below.blk HB1.out (Below.blk hc.out.below H.out.hold)) (by rw [H.out.len]; exact hlt)
        have HVV : Hid (valN g (valsTo g held ns k) (bit held k) (ndAt ns k) = bit held k) := hide (by rw [HND.out]; rfl)
        clear hm
        go_wp2_with fail
        go_region
        go_wp2_with fail
        exact ⟨⟨k + 1, by omega, by go_num, hide ((hc.out.next hlt (Below.refl _ _) (bit held k) HVV.out).more (below_alloc _ _).drew)⟩, by simp [intOf]; omega⟩
      · obtain ⟨⟨ha0, ha1⟩, hb0, hb1⟩ : (0 ≤ a ∧ a < (k : Int)) ∧ 0 ≤ bb ∧ bb < (k : Int) := by
          have h := HRN.out
          simp [rightN, inR] at h
          omega
        obtain ⟨an, rfl⟩ := Int.eq_ofNat_of_zero_le ha0
        obtain ⟨bn, rfl⟩ := Int.eq_ofNat_of_zero_le hb0
        have fa := hc.out.at hlt HB1.out (a := an) (by omega)
        have fb := hc.out.at hlt HB1.out (a := bn) (by omega)
        have HVV : Hid (valN g (valsTo g held ns k) (bit held k) (ndAt ns k) = (bit (valsTo g held ns k) an && bit (valsTo g held ns k) bn)) := hide (by rw [HND.out]; simp [valN])
        have HLA : Hid (an < (valsTo g held ns k).length) := hide (by rw [valsTo_len]; omega)
        have HLB : Hid (bn < (valsTo g held ns k).length) := hide (by rw [valsTo_len]; omega)
        have HIA : Hid ((an : Int) < (ns.length : Int)) := hide (by omega)
        have HIB : Hid ((bn : Int) < (ns.length : Int)) := hide (by omega)
        clear ha0 ha1 hb0 hb1
        go_wp2_with fail
        clear n0 n1 n2 n3
        have HS : Hid ((wr.alloc (.cells #[.int .i64 5, .int .i64 an, .int .i64 bn, .int .i64 nx] 26)).drew.cell? ⟨w.heap.size + 1, 0, none⟩ = some (.slice (some ⟨w.heap.size, 0, none⟩) ns.length ns.length) ∧ (wr.alloc (.cells #[.int .i64 5, .int .i64 an, .int .i64 bn, .int .i64 nx] 26)).drew.cell? ⟨wr.heap.size, 1, none⟩ = some (.int .i64 an) ∧ (wr.alloc (.cells #[.int .i64 5, .int .i64 an, .int .i64 bn, .int .i64 nx] 26)).drew.cell? ⟨wr.heap.size, 2, none⟩ = some (.int .i64 bn)) := hide ⟨fC, x1, x2⟩
        have HCA := hide (aheadC_at an (w.heap.size + 1) w.heap.size ns.length (valsTo g held ns k) (wr.alloc (.cells #[.int .i64 5, .int .i64 an, .int .i64 bn, .int .i64 nx] 26)).drew HLA.out HIA.out fC fa)
        have HCB := hide (aheadC_at bn (w.heap.size + 1) w.heap.size ns.length (valsTo g held ns k) (wr.alloc (.cells #[.int .i64 5, .int .i64 an, .int .i64 bn, .int .i64 nx] 26)).drew HLB.out HIB.out fC fb)
        have HBD := hide (HB1.out.drew)
        have fWd : (wr.alloc (.cells #[.int .i64 5, .int .i64 an, .int .i64 bn, .int .i64 nx] 26)).drew.cell? ⟨w.heap.size, k, none⟩ = some (.bool false) := fW
        have fzd : (wr.alloc (.cells #[.int .i64 5, .int .i64 an, .int .i64 bn, .int .i64 nx] 26)).drew.frozen? ⟨w.heap.size, k, none⟩ = false := fz
        clear fC fa fb x1 x2 fW fz HB1
        refine wp_region_held_drew (S := fun W => W.cell? ⟨w.heap.size + 1, 0, none⟩ = some (.slice (some ⟨w.heap.size, 0, none⟩) ns.length ns.length) ∧ W.cell? ⟨wr.heap.size, 1, none⟩ = some (.int .i64 an) ∧ W.cell? ⟨wr.heap.size, 2, none⟩ = some (.int .i64 bn)) (by kernel_rfl) HS.out (fun _ => ?_)
        generalize (wr.alloc (.cells #[.int .i64 5, .int .i64 an, .int .i64 bn, .int .i64 nx] 26)).drew = wd at *
        refine wpAnyH_take (i := 0) (oi := ⟨some 64, _, _, _, _, _⟩) (v := (.slice (some ⟨w.heap.size, 0, none⟩) ns.length ns.length)) rfl (by kernel_rfl) (by kernel_rfl) (by kernel_rfl) (fun _ _ _ h => h) (Or.inl ⟨by rfl, fun W hS => by (obtain ⟨s0, s1, s2⟩ := hS; go_simp)⟩) HS.out ?_
        simp only [Act.put, List.setIfInBounds_toArray, List.set_cons_zero, List.set_cons_succ]
        refine wpAnyH_take (i := 1) (oi := ⟨some 65, _, _, _, _, _⟩) (v := (.int .i64 k)) rfl (by kernel_rfl) (by kernel_rfl) (by kernel_rfl) (fun _ _ _ h => h) (Or.inl ⟨by rfl, fun W hS => by (obtain ⟨s0, s1, s2⟩ := hS; go_simp)⟩) HS.out ?_
        simp only [Act.put, List.setIfInBounds_toArray, List.set_cons_zero, List.set_cons_succ]
        refine wpAnyH_take (i := 2) (oi := ⟨some 66, _, _, _, _, _⟩) (v := (.func (.func 31) #[] #[.pointer (some ⟨w.heap.size + 1, 0, none⟩)])) rfl (by kernel_rfl) (by kernel_rfl) (by kernel_rfl) (fun _ _ _ h => h) (Or.inl ⟨by rfl, fun W hS => by (obtain ⟨s0, s1, s2⟩ := hS; go_simp)⟩) HS.out ?_
        simp only [Act.put, List.setIfInBounds_toArray, List.set_cons_zero, List.set_cons_succ]
        refine wpAnyH_take (i := 3) (oi := ⟨some 67, _, _, _, _, _⟩) (v := (.pointer (some ⟨wr.heap.size, 1, none⟩))) rfl (by kernel_rfl) (by kernel_rfl) (by kernel_rfl) (fun _ _ _ h => h) (Or.inl ⟨by rfl, fun W hS => by (obtain ⟨s0, s1, s2⟩ := hS; go_simp)⟩) HS.out ?_
        simp only [Act.put, List.setIfInBounds_toArray, List.set_cons_zero, List.set_cons_succ]
        refine wpAnyH_take (i := 4) (oi := ⟨some 68, _, _, _, _, _⟩) (v := (.int .i64 an)) rfl (by kernel_rfl) (by kernel_rfl) (by kernel_rfl) (fun _ _ _ h => h) (Or.inl ⟨by rfl, fun W hS => by (obtain ⟨s0, s1, s2⟩ := hS; go_simp)⟩) HS.out ?_
        simp only [Act.put, List.setIfInBounds_toArray, List.set_cons_zero, List.set_cons_succ]
        refine wpAnyH_ready (rs := [5]) (by kernel_rfl) (by simp) ?_
        refine AllReadyH.cons rfl (fun K hK => ?_) AllReadyH.nil
        go_simp
        refine HCA.out.mono ?_
        rintro e w' ⟨rfl, rfl⟩
        refine hK.out _ _ HS.out (fun _ => ?_)
        clear hK K
        cases hva : bit (valsTo g held ns k) an with
        | true =>
          rw [hva] at HVV
          clear hva
          refine wpAnyH_take (i := 6) (oi := ⟨some 70, _, _, _, _, _⟩) (v := (.bool true)) rfl (by kernel_rfl) (by kernel_rfl) (by kernel_rfl) (fun _ _ _ h => h) (Or.inl ⟨by rfl, fun W hS => by (obtain ⟨s0, s1, s2⟩ := hS; go_simp)⟩) HS.out ?_
          simp only [Act.put, List.setIfInBounds_toArray, List.set_cons_zero, List.set_cons_succ]
          refine wpAnyH_take (i := 7) (oi := ⟨some 71, _, _, _, _, _⟩) (v := (.func (.func 31) #[] #[.pointer (some ⟨w.heap.size + 1, 0, none⟩)])) rfl (by kernel_rfl) (by kernel_rfl) (by kernel_rfl) (fun _ _ _ h => h) (Or.inl ⟨by rfl, fun W hS => by (obtain ⟨s0, s1, s2⟩ := hS; go_simp)⟩) HS.out ?_
          simp only [Act.put, List.setIfInBounds_toArray, List.set_cons_zero, List.set_cons_succ]
          refine wpAnyH_take (i := 8) (oi := ⟨some 72, _, _, _, _, _⟩) (v := (.pointer (some ⟨wr.heap.size, 2, none⟩))) rfl (by kernel_rfl) (by kernel_rfl) (by kernel_rfl) (fun _ _ _ h => h) (Or.inl ⟨by rfl, fun W hS => by (obtain ⟨s0, s1, s2⟩ := hS; go_simp)⟩) HS.out ?_
          simp only [Act.put, List.setIfInBounds_toArray, List.set_cons_zero, List.set_cons_succ]
          refine wpAnyH_take (i := 9) (oi := ⟨some 73, _, _, _, _, _⟩) (v := (.int .i64 bn)) rfl (by kernel_rfl) (by kernel_rfl) (by kernel_rfl) (fun _ _ _ h => h) (Or.inl ⟨by rfl, fun W hS => by (obtain ⟨s0, s1, s2⟩ := hS; go_simp)⟩) HS.out ?_
          simp only [Act.put, List.setIfInBounds_toArray, List.set_cons_zero, List.set_cons_succ]
          refine wpAnyH_ready (rs := [10]) (by kernel_rfl) (by simp) ?_
          refine AllReadyH.cons rfl (fun K hK => ?_) AllReadyH.nil
          go_simp
          refine HCB.out.mono ?_
          rintro e w' ⟨rfl, rfl⟩
          refine hK.out _ _ HS.out (fun _ => ?_)
          clear hK K
          refine wpAnyH_take (i := 11) (oi := ⟨some 75, _, _, _, _, _⟩) (v := (.bool (bit (valsTo g held ns k) bn))) rfl (by kernel_rfl) (by kernel_rfl) (by kernel_rfl) (fun _ _ _ h => h) (Or.inl ⟨by rfl, fun W hS => by (obtain ⟨s0, s1, s2⟩ := hS; go_simp)⟩) HS.out ?_
          simp only [Act.put, List.setIfInBounds_toArray, List.set_cons_zero, List.set_cons_succ]
          refine wpAnyH_take (i := 12) (oi := ⟨some 76, _, _, _, _, _⟩) (v := (.pointer (some ⟨w.heap.size, k, none⟩))) rfl (by kernel_rfl) (by kernel_rfl) (by kernel_rfl) (fun _ _ _ h => h) (Or.inl ⟨by rfl, fun W hS => by (obtain ⟨s0, s1, s2⟩ := hS; go_simp)⟩) HS.out ?_
          simp only [Act.put, List.setIfInBounds_toArray, List.set_cons_zero, List.set_cons_succ]
          refine wpAnyH_ready (rs := [13]) (by kernel_rfl) (by simp) ?_
          refine AllReadyH.cons rfl (fun K hK => ?_) AllReadyH.nil
          go_simp
          refine hK.out _ _ ?_ (fun _ => ?_)
          · obtain ⟨s0, s1, s2⟩ := HS.out; refine ⟨?_, ?_, ?_⟩ <;> (go_simp)
          clear hK K
          refine wpAnyH_done (by kernel_rfl) ?_ _
          go_wp2_with fail
          exact ⟨⟨k + 1, by omega, by go_num, hide (hc.out.next hlt HBD.out _ HVV.out)⟩, by simp [intOf]; omega⟩
        | false =>
          rw [hva] at HVV
          clear hva
          refine wpAnyH_take (i := 6) (oi := ⟨some 70, _, _, _, _, _⟩) (v := (.bool false)) rfl (by kernel_rfl) (by kernel_rfl) (by kernel_rfl) (fun _ _ _ h => h) (Or.inl ⟨by rfl, fun W hS => by (obtain ⟨s0, s1, s2⟩ := hS; go_simp)⟩) HS.out ?_
          simp only [Act.put, List.setIfInBounds_toArray, List.set_cons_zero, List.set_cons_succ]
          refine wpAnyH_take (i := 7) (oi := ⟨some 71, _, _, _, _, _⟩) (v := undef) rfl (by kernel_rfl) (by kernel_rfl) (by kernel_rfl) (fun _ _ _ h => h) (Or.inr ⟨by rfl, rfl⟩) HS.out ?_
          simp only [Act.put, List.setIfInBounds_toArray, List.set_cons_zero, List.set_cons_succ]
          refine wpAnyH_take (i := 8) (oi := ⟨some 72, _, _, _, _, _⟩) (v := undef) rfl (by kernel_rfl) (by kernel_rfl) (by kernel_rfl) (fun _ _ _ h => h) (Or.inr ⟨by rfl, rfl⟩) HS.out ?_
          simp only [Act.put, List.setIfInBounds_toArray, List.set_cons_zero, List.set_cons_succ]
          refine wpAnyH_take (i := 9) (oi := ⟨some 73, _, _, _, _, _⟩) (v := undef) rfl (by kernel_rfl) (by kernel_rfl) (by kernel_rfl) (fun _ _ _ h => h) (Or.inr ⟨by rfl, rfl⟩) HS.out ?_
          simp only [Act.put, List.setIfInBounds_toArray, List.set_cons_zero, List.set_cons_succ]
          refine wpAnyH_take (i := 10) (oi := ⟨some 74, _, _, _, _, _⟩) (v := undef) rfl (by kernel_rfl) (by kernel_rfl) (by kernel_rfl) (fun _ _ _ h => h) (Or.inr ⟨by rfl, rfl⟩) HS.out ?_
          simp only [Act.put, List.setIfInBounds_toArray, List.set_cons_zero, List.set_cons_succ]
          refine wpAnyH_take (i := 11) (oi := ⟨some 75, _, _, _, _, _⟩) (v := (.bool false)) rfl (by kernel_rfl) (by kernel_rfl) (by kernel_rfl) (fun _ _ _ h => h) (Or.inl ⟨by rfl, fun W hS => by (obtain ⟨s0, s1, s2⟩ := hS; go_simp)⟩) HS.out ?_
          simp only [Act.put, List.setIfInBounds_toArray, List.set_cons_zero, List.set_cons_succ]
          refine wpAnyH_take (i := 12) (oi := ⟨some 76, _, _, _, _, _⟩) (v := (.pointer (some ⟨w.heap.size, k, none⟩))) rfl (by kernel_rfl) (by kernel_rfl) (by kernel_rfl) (fun _ _ _ h => h) (Or.inl ⟨by rfl, fun W hS => by (obtain ⟨s0, s1, s2⟩ := hS; go_simp)⟩) HS.out ?_
          simp only [Act.put, List.setIfInBounds_toArray, List.set_cons_zero, List.set_cons_succ]
          refine wpAnyH_ready (rs := [13]) (by kernel_rfl) (by simp) ?_
          refine AllReadyH.cons rfl (fun K hK => ?_) AllReadyH.nil
          go_simp
          refine hK.out _ _ ?_ (fun _ => ?_)
          · obtain ⟨s0, s1, s2⟩ := HS.out; refine ⟨?_, ?_, ?_⟩ <;> (go_simp)
          clear hK K
          refine wpAnyH_done (by kernel_rfl) ?_ _
          go_wp2_with fail
          exact ⟨⟨k + 1, by omega, by go_num, hide (hc.out.next hlt HBD.out _ HVV.out)⟩, by simp [intOf]; omega⟩
      · obtain ⟨⟨ha0, ha1⟩, hb0, hb1⟩ : (0 ≤ a ∧ a < (k : Int)) ∧ 0 ≤ bb ∧ bb < (k : Int) := by
          have h := HRN.out
          simp [rightN, inR] at h
          omega
        obtain ⟨an, rfl⟩ := Int.eq_ofNat_of_zero_le ha0
        obtain ⟨bn, rfl⟩ := Int.eq_ofNat_of_zero_le hb0
        have fa := hc.out.at hlt HB1.out (a := an) (by omega)
        have fb := hc.out.at hlt HB1.out (a := bn) (by omega)
        have HVV : Hid (valN g (valsTo g held ns k) (bit held k) (ndAt ns k) = (bit (valsTo g held ns k) an || bit (valsTo g held ns k) bn)) := hide (by rw [HND.out]; simp [valN])
        have HLA : Hid (an < (valsTo g held ns k).length) := hide (by rw [valsTo_len]; omega)
        have HLB : Hid (bn < (valsTo g held ns k).length) := hide (by rw [valsTo_len]; omega)
        have HIA : Hid ((an : Int) < (ns.length : Int)) := hide (by omega)
        have HIB : Hid ((bn : Int) < (ns.length : Int)) := hide (by omega)
        clear ha0 ha1 hb0 hb1
        go_wp2_with fail
        clear n0 n1 n2 n3
        have HS : Hid ((wr.alloc (.cells #[.int .i64 6, .int .i64 an, .int .i64 bn, .int .i64 nx] 26)).drew.cell? ⟨w.heap.size + 1, 0, none⟩ = some (.slice (some ⟨w.heap.size, 0, none⟩) ns.length ns.length) ∧ (wr.alloc (.cells #[.int .i64 6, .int .i64 an, .int .i64 bn, .int .i64 nx] 26)).drew.cell? ⟨wr.heap.size, 1, none⟩ = some (.int .i64 an) ∧ (wr.alloc (.cells #[.int .i64 6, .int .i64 an, .int .i64 bn, .int .i64 nx] 26)).drew.cell? ⟨wr.heap.size, 2, none⟩ = some (.int .i64 bn)) := hide ⟨fC, x1, x2⟩
        have HCA := hide (aheadC_at an (w.heap.size + 1) w.heap.size ns.length (valsTo g held ns k) (wr.alloc (.cells #[.int .i64 6, .int .i64 an, .int .i64 bn, .int .i64 nx] 26)).drew HLA.out HIA.out fC fa)
        have HCB := hide (aheadC_at bn (w.heap.size + 1) w.heap.size ns.length (valsTo g held ns k) (wr.alloc (.cells #[.int .i64 6, .int .i64 an, .int .i64 bn, .int .i64 nx] 26)).drew HLB.out HIB.out fC fb)
        have HBD := hide (HB1.out.drew)
        have fWd : (wr.alloc (.cells #[.int .i64 6, .int .i64 an, .int .i64 bn, .int .i64 nx] 26)).drew.cell? ⟨w.heap.size, k, none⟩ = some (.bool false) := fW
        have fzd : (wr.alloc (.cells #[.int .i64 6, .int .i64 an, .int .i64 bn, .int .i64 nx] 26)).drew.frozen? ⟨w.heap.size, k, none⟩ = false := fz
        clear fC fa fb x1 x2 fW fz HB1
        refine wp_region_held_drew (S := fun W => W.cell? ⟨w.heap.size + 1, 0, none⟩ = some (.slice (some ⟨w.heap.size, 0, none⟩) ns.length ns.length) ∧ W.cell? ⟨wr.heap.size, 1, none⟩ = some (.int .i64 an) ∧ W.cell? ⟨wr.heap.size, 2, none⟩ = some (.int .i64 bn)) (by kernel_rfl) HS.out (fun _ => ?_)
        generalize (wr.alloc (.cells #[.int .i64 6, .int .i64 an, .int .i64 bn, .int .i64 nx] 26)).drew = wd at *
        refine wpAnyH_take (i := 0) (oi := ⟨some 79, _, _, _, _, _⟩) (v := (.slice (some ⟨w.heap.size, 0, none⟩) ns.length ns.length)) rfl (by kernel_rfl) (by kernel_rfl) (by kernel_rfl) (fun _ _ _ h => h) (Or.inl ⟨by rfl, fun W hS => by (obtain ⟨s0, s1, s2⟩ := hS; go_simp)⟩) HS.out ?_
        simp only [Act.put, List.setIfInBounds_toArray, List.set_cons_zero, List.set_cons_succ]
        refine wpAnyH_take (i := 1) (oi := ⟨some 80, _, _, _, _, _⟩) (v := (.int .i64 k)) rfl (by kernel_rfl) (by kernel_rfl) (by kernel_rfl) (fun _ _ _ h => h) (Or.inl ⟨by rfl, fun W hS => by (obtain ⟨s0, s1, s2⟩ := hS; go_simp)⟩) HS.out ?_
        simp only [Act.put, List.setIfInBounds_toArray, List.set_cons_zero, List.set_cons_succ]
        refine wpAnyH_take (i := 2) (oi := ⟨some 81, _, _, _, _, _⟩) (v := (.func (.func 31) #[] #[.pointer (some ⟨w.heap.size + 1, 0, none⟩)])) rfl (by kernel_rfl) (by kernel_rfl) (by kernel_rfl) (fun _ _ _ h => h) (Or.inl ⟨by rfl, fun W hS => by (obtain ⟨s0, s1, s2⟩ := hS; go_simp)⟩) HS.out ?_
        simp only [Act.put, List.setIfInBounds_toArray, List.set_cons_zero, List.set_cons_succ]
        refine wpAnyH_take (i := 3) (oi := ⟨some 82, _, _, _, _, _⟩) (v := (.pointer (some ⟨wr.heap.size, 1, none⟩))) rfl (by kernel_rfl) (by kernel_rfl) (by kernel_rfl) (fun _ _ _ h => h) (Or.inl ⟨by rfl, fun W hS => by (obtain ⟨s0, s1, s2⟩ := hS; go_simp)⟩) HS.out ?_
        simp only [Act.put, List.setIfInBounds_toArray, List.set_cons_zero, List.set_cons_succ]
        refine wpAnyH_take (i := 4) (oi := ⟨some 83, _, _, _, _, _⟩) (v := (.int .i64 an)) rfl (by kernel_rfl) (by kernel_rfl) (by kernel_rfl) (fun _ _ _ h => h) (Or.inl ⟨by rfl, fun W hS => by (obtain ⟨s0, s1, s2⟩ := hS; go_simp)⟩) HS.out ?_
        simp only [Act.put, List.setIfInBounds_toArray, List.set_cons_zero, List.set_cons_succ]
        refine wpAnyH_ready (rs := [5]) (by kernel_rfl) (by simp) ?_
        refine AllReadyH.cons rfl (fun K hK => ?_) AllReadyH.nil
        go_simp
        refine HCA.out.mono ?_
        rintro e w' ⟨rfl, rfl⟩
        refine hK.out _ _ HS.out (fun _ => ?_)
        clear hK K
        cases hva : bit (valsTo g held ns k) an with
        | true =>
          rw [hva] at HVV
          clear hva
          refine wpAnyH_take (i := 6) (oi := ⟨some 85, _, _, _, _, _⟩) (v := (.bool true)) rfl (by kernel_rfl) (by kernel_rfl) (by kernel_rfl) (fun _ _ _ h => h) (Or.inl ⟨by rfl, fun W hS => by (obtain ⟨s0, s1, s2⟩ := hS; go_simp)⟩) HS.out ?_
          simp only [Act.put, List.setIfInBounds_toArray, List.set_cons_zero, List.set_cons_succ]
          refine wpAnyH_take (i := 7) (oi := ⟨some 86, _, _, _, _, _⟩) (v := undef) rfl (by kernel_rfl) (by kernel_rfl) (by kernel_rfl) (fun _ _ _ h => h) (Or.inr ⟨by rfl, rfl⟩) HS.out ?_
          simp only [Act.put, List.setIfInBounds_toArray, List.set_cons_zero, List.set_cons_succ]
          refine wpAnyH_take (i := 8) (oi := ⟨some 87, _, _, _, _, _⟩) (v := undef) rfl (by kernel_rfl) (by kernel_rfl) (by kernel_rfl) (fun _ _ _ h => h) (Or.inr ⟨by rfl, rfl⟩) HS.out ?_
          simp only [Act.put, List.setIfInBounds_toArray, List.set_cons_zero, List.set_cons_succ]
          refine wpAnyH_take (i := 9) (oi := ⟨some 88, _, _, _, _, _⟩) (v := undef) rfl (by kernel_rfl) (by kernel_rfl) (by kernel_rfl) (fun _ _ _ h => h) (Or.inr ⟨by rfl, rfl⟩) HS.out ?_
          simp only [Act.put, List.setIfInBounds_toArray, List.set_cons_zero, List.set_cons_succ]
          refine wpAnyH_take (i := 10) (oi := ⟨some 89, _, _, _, _, _⟩) (v := undef) rfl (by kernel_rfl) (by kernel_rfl) (by kernel_rfl) (fun _ _ _ h => h) (Or.inr ⟨by rfl, rfl⟩) HS.out ?_
          simp only [Act.put, List.setIfInBounds_toArray, List.set_cons_zero, List.set_cons_succ]
          refine wpAnyH_take (i := 11) (oi := ⟨some 90, _, _, _, _, _⟩) (v := (.bool true)) rfl (by kernel_rfl) (by kernel_rfl) (by kernel_rfl) (fun _ _ _ h => h) (Or.inl ⟨by rfl, fun W hS => by (obtain ⟨s0, s1, s2⟩ := hS; go_simp)⟩) HS.out ?_
          simp only [Act.put, List.setIfInBounds_toArray, List.set_cons_zero, List.set_cons_succ]
          refine wpAnyH_take (i := 12) (oi := ⟨some 91, _, _, _, _, _⟩) (v := (.pointer (some ⟨w.heap.size, k, none⟩))) rfl (by kernel_rfl) (by kernel_rfl) (by kernel_rfl) (fun _ _ _ h => h) (Or.inl ⟨by rfl, fun W hS => by (obtain ⟨s0, s1, s2⟩ := hS; go_simp)⟩) HS.out ?_
          simp only [Act.put, List.setIfInBounds_toArray, List.set_cons_zero, List.set_cons_succ]
          refine wpAnyH_ready (rs := [13]) (by kernel_rfl) (by simp) ?_
          refine AllReadyH.cons rfl (fun K hK => ?_) AllReadyH.nil
          go_simp
          refine hK.out _ _ ?_ (fun _ => ?_)
          · obtain ⟨s0, s1, s2⟩ := HS.out; refine ⟨?_, ?_, ?_⟩ <;> (go_simp)
          clear hK K
          refine wpAnyH_done (by kernel_rfl) ?_ _
          go_wp2_with fail
          exact ⟨⟨k + 1, by omega, by go_num, hide (hc.out.next hlt HBD.out _ HVV.out)⟩, by simp [intOf]; omega⟩
        | false =>
          rw [hva] at HVV
          clear hva
          refine wpAnyH_take (i := 6) (oi := ⟨some 85, _, _, _, _, _⟩) (v := (.bool false)) rfl (by kernel_rfl) (by kernel_rfl) (by kernel_rfl) (fun _ _ _ h => h) (Or.inl ⟨by rfl, fun W hS => by (obtain ⟨s0, s1, s2⟩ := hS; go_simp)⟩) HS.out ?_
          simp only [Act.put, List.setIfInBounds_toArray, List.set_cons_zero, List.set_cons_succ]
          refine wpAnyH_take (i := 7) (oi := ⟨some 86, _, _, _, _, _⟩) (v := (.func (.func 31) #[] #[.pointer (some ⟨w.heap.size + 1, 0, none⟩)])) rfl (by kernel_rfl) (by kernel_rfl) (by kernel_rfl) (fun _ _ _ h => h) (Or.inl ⟨by rfl, fun W hS => by (obtain ⟨s0, s1, s2⟩ := hS; go_simp)⟩) HS.out ?_
          simp only [Act.put, List.setIfInBounds_toArray, List.set_cons_zero, List.set_cons_succ]
          refine wpAnyH_take (i := 8) (oi := ⟨some 87, _, _, _, _, _⟩) (v := (.pointer (some ⟨wr.heap.size, 2, none⟩))) rfl (by kernel_rfl) (by kernel_rfl) (by kernel_rfl) (fun _ _ _ h => h) (Or.inl ⟨by rfl, fun W hS => by (obtain ⟨s0, s1, s2⟩ := hS; go_simp)⟩) HS.out ?_
          simp only [Act.put, List.setIfInBounds_toArray, List.set_cons_zero, List.set_cons_succ]
          refine wpAnyH_take (i := 9) (oi := ⟨some 88, _, _, _, _, _⟩) (v := (.int .i64 bn)) rfl (by kernel_rfl) (by kernel_rfl) (by kernel_rfl) (fun _ _ _ h => h) (Or.inl ⟨by rfl, fun W hS => by (obtain ⟨s0, s1, s2⟩ := hS; go_simp)⟩) HS.out ?_
          simp only [Act.put, List.setIfInBounds_toArray, List.set_cons_zero, List.set_cons_succ]
          refine wpAnyH_ready (rs := [10]) (by kernel_rfl) (by simp) ?_
          refine AllReadyH.cons rfl (fun K hK => ?_) AllReadyH.nil
          go_simp
          refine HCB.out.mono ?_
          rintro e w' ⟨rfl, rfl⟩
          refine hK.out _ _ HS.out (fun _ => ?_)
          clear hK K
          refine wpAnyH_take (i := 11) (oi := ⟨some 90, _, _, _, _, _⟩) (v := (.bool (bit (valsTo g held ns k) bn))) rfl (by kernel_rfl) (by kernel_rfl) (by kernel_rfl) (fun _ _ _ h => h) (Or.inl ⟨by rfl, fun W hS => by (obtain ⟨s0, s1, s2⟩ := hS; go_simp)⟩) HS.out ?_
          simp only [Act.put, List.setIfInBounds_toArray, List.set_cons_zero, List.set_cons_succ]
          refine wpAnyH_take (i := 12) (oi := ⟨some 91, _, _, _, _, _⟩) (v := (.pointer (some ⟨w.heap.size, k, none⟩))) rfl (by kernel_rfl) (by kernel_rfl) (by kernel_rfl) (fun _ _ _ h => h) (Or.inl ⟨by rfl, fun W hS => by (obtain ⟨s0, s1, s2⟩ := hS; go_simp)⟩) HS.out ?_
          simp only [Act.put, List.setIfInBounds_toArray, List.set_cons_zero, List.set_cons_succ]
          refine wpAnyH_ready (rs := [13]) (by kernel_rfl) (by simp) ?_
          refine AllReadyH.cons rfl (fun K hK => ?_) AllReadyH.nil
          go_simp
          refine hK.out _ _ ?_ (fun _ => ?_)
          · obtain ⟨s0, s1, s2⟩ := HS.out; refine ⟨?_, ?_, ?_⟩ <;> (go_simp)
          clear hK K
          refine wpAnyH_done (by kernel_rfl) ?_ _
          go_wp2_with fail
          exact ⟨⟨k + 1, by omega, by go_num, hide (hc.out.next hlt HBD.out _ HVV.out)⟩, by simp [intOf]; omega⟩
      · obtain ⟨⟨ha0, ha1⟩, hb0, hb1⟩ : (0 ≤ a ∧ a < (k : Int)) ∧ 0 ≤ bb ∧ bb < (k : Int) := by
          have h := HRN.out
          simp [rightN, inR] at h
          omega
        obtain ⟨an, rfl⟩ := Int.eq_ofNat_of_zero_le ha0
        obtain ⟨bn, rfl⟩ := Int.eq_ofNat_of_zero_le hb0
        have fa := hc.out.at hlt HB1.out (a := an) (by omega)
        have fb := hc.out.at hlt HB1.out (a := bn) (by omega)
        have HVV : Hid (valN g (valsTo g held ns k) (bit held k) (ndAt ns k) = (bit (valsTo g held ns k) an != bit (valsTo g held ns k) bn)) := hide (by rw [HND.out]; simp [valN])
        have HLA : Hid (an < (valsTo g held ns k).length) := hide (by rw [valsTo_len]; omega)
        have HLB : Hid (bn < (valsTo g held ns k).length) := hide (by rw [valsTo_len]; omega)
        have HIA : Hid ((an : Int) < (ns.length : Int)) := hide (by omega)
        have HIB : Hid ((bn : Int) < (ns.length : Int)) := hide (by omega)
        clear ha0 ha1 hb0 hb1
        go_wp2_with fail
        clear n0 n1 n2 n3
        have HS : Hid ((wr.alloc (.cells #[.int .i64 7, .int .i64 an, .int .i64 bn, .int .i64 nx] 26)).drew.cell? ⟨w.heap.size + 1, 0, none⟩ = some (.slice (some ⟨w.heap.size, 0, none⟩) ns.length ns.length) ∧ (wr.alloc (.cells #[.int .i64 7, .int .i64 an, .int .i64 bn, .int .i64 nx] 26)).drew.cell? ⟨wr.heap.size, 1, none⟩ = some (.int .i64 an) ∧ (wr.alloc (.cells #[.int .i64 7, .int .i64 an, .int .i64 bn, .int .i64 nx] 26)).drew.cell? ⟨wr.heap.size, 2, none⟩ = some (.int .i64 bn)) := hide ⟨fC, x1, x2⟩
        have HCA := hide (aheadC_at an (w.heap.size + 1) w.heap.size ns.length (valsTo g held ns k) (wr.alloc (.cells #[.int .i64 7, .int .i64 an, .int .i64 bn, .int .i64 nx] 26)).drew HLA.out HIA.out fC fa)
        have HCB := hide (aheadC_at bn (w.heap.size + 1) w.heap.size ns.length (valsTo g held ns k) (wr.alloc (.cells #[.int .i64 7, .int .i64 an, .int .i64 bn, .int .i64 nx] 26)).drew HLB.out HIB.out fC fb)
        have HBD := hide (HB1.out.drew)
        have fWd : (wr.alloc (.cells #[.int .i64 7, .int .i64 an, .int .i64 bn, .int .i64 nx] 26)).drew.cell? ⟨w.heap.size, k, none⟩ = some (.bool false) := fW
        have fzd : (wr.alloc (.cells #[.int .i64 7, .int .i64 an, .int .i64 bn, .int .i64 nx] 26)).drew.frozen? ⟨w.heap.size, k, none⟩ = false := fz
        clear fC fa fb x1 x2 fW fz HB1
        refine wp_region_held_drew (S := fun W => W.cell? ⟨w.heap.size + 1, 0, none⟩ = some (.slice (some ⟨w.heap.size, 0, none⟩) ns.length ns.length) ∧ W.cell? ⟨wr.heap.size, 1, none⟩ = some (.int .i64 an) ∧ W.cell? ⟨wr.heap.size, 2, none⟩ = some (.int .i64 bn)) (by kernel_rfl) HS.out (fun _ => ?_)
        generalize (wr.alloc (.cells #[.int .i64 7, .int .i64 an, .int .i64 bn, .int .i64 nx] 26)).drew = wd at *
        refine wpAnyH_take (i := 0) (oi := ⟨some 94, _, _, _, _, _⟩) (v := (.slice (some ⟨w.heap.size, 0, none⟩) ns.length ns.length)) rfl (by kernel_rfl) (by kernel_rfl) (by kernel_rfl) (fun _ _ _ h => h) (Or.inl ⟨by rfl, fun W hS => by (obtain ⟨s0, s1, s2⟩ := hS; go_simp)⟩) HS.out ?_
        simp only [Act.put, List.setIfInBounds_toArray, List.set_cons_zero, List.set_cons_succ]
        refine wpAnyH_take (i := 1) (oi := ⟨some 95, _, _, _, _, _⟩) (v := (.int .i64 k)) rfl (by kernel_rfl) (by kernel_rfl) (by kernel_rfl) (fun _ _ _ h => h) (Or.inl ⟨by rfl, fun W hS => by (obtain ⟨s0, s1, s2⟩ := hS; go_simp)⟩) HS.out ?_
        simp only [Act.put, List.setIfInBounds_toArray, List.set_cons_zero, List.set_cons_succ]
        refine wpAnyH_take (i := 2) (oi := ⟨some 96, _, _, _, _, _⟩) (v := (.func (.func 31) #[] #[.pointer (some ⟨w.heap.size + 1, 0, none⟩)])) rfl (by kernel_rfl) (by kernel_rfl) (by kernel_rfl) (fun _ _ _ h => h) (Or.inl ⟨by rfl, fun W hS => by (obtain ⟨s0, s1, s2⟩ := hS; go_simp)⟩) HS.out ?_
        simp only [Act.put, List.setIfInBounds_toArray, List.set_cons_zero, List.set_cons_succ]
        refine wpAnyH_take (i := 3) (oi := ⟨some 97, _, _, _, _, _⟩) (v := (.pointer (some ⟨wr.heap.size, 1, none⟩))) rfl (by kernel_rfl) (by kernel_rfl) (by kernel_rfl) (fun _ _ _ h => h) (Or.inl ⟨by rfl, fun W hS => by (obtain ⟨s0, s1, s2⟩ := hS; go_simp)⟩) HS.out ?_
        simp only [Act.put, List.setIfInBounds_toArray, List.set_cons_zero, List.set_cons_succ]
        refine wpAnyH_take (i := 4) (oi := ⟨some 98, _, _, _, _, _⟩) (v := (.int .i64 an)) rfl (by kernel_rfl) (by kernel_rfl) (by kernel_rfl) (fun _ _ _ h => h) (Or.inl ⟨by rfl, fun W hS => by (obtain ⟨s0, s1, s2⟩ := hS; go_simp)⟩) HS.out ?_
        simp only [Act.put, List.setIfInBounds_toArray, List.set_cons_zero, List.set_cons_succ]
        refine wpAnyH_take (i := 6) (oi := ⟨some 100, _, _, _, _, _⟩) (v := (.func (.func 31) #[] #[.pointer (some ⟨w.heap.size + 1, 0, none⟩)])) rfl (by kernel_rfl) (by kernel_rfl) (by kernel_rfl) (fun _ _ _ h => h) (Or.inl ⟨by rfl, fun W hS => by (obtain ⟨s0, s1, s2⟩ := hS; go_simp)⟩) HS.out ?_
        simp only [Act.put, List.setIfInBounds_toArray, List.set_cons_zero, List.set_cons_succ]
        refine wpAnyH_take (i := 7) (oi := ⟨some 101, _, _, _, _, _⟩) (v := (.pointer (some ⟨wr.heap.size, 2, none⟩))) rfl (by kernel_rfl) (by kernel_rfl) (by kernel_rfl) (fun _ _ _ h => h) (Or.inl ⟨by rfl, fun W hS => by (obtain ⟨s0, s1, s2⟩ := hS; go_simp)⟩) HS.out ?_
        simp only [Act.put, List.setIfInBounds_toArray, List.set_cons_zero, List.set_cons_succ]
        refine wpAnyH_take (i := 8) (oi := ⟨some 102, _, _, _, _, _⟩) (v := (.int .i64 bn)) rfl (by kernel_rfl) (by kernel_rfl) (by kernel_rfl) (fun _ _ _ h => h) (Or.inl ⟨by rfl, fun W hS => by (obtain ⟨s0, s1, s2⟩ := hS; go_simp)⟩) HS.out ?_
        simp only [Act.put, List.setIfInBounds_toArray, List.set_cons_zero, List.set_cons_succ]
        refine wpAnyH_ready (rs := [5]) (by kernel_rfl) (by simp) ?_
        refine AllReadyH.cons rfl (fun K hK => ?_) AllReadyH.nil
        go_simp
        refine HCA.out.mono ?_
        rintro e w' ⟨rfl, rfl⟩
        refine hK.out _ _ HS.out (fun _ => ?_)
        clear hK K
        refine wpAnyH_ready (rs := [9]) (by kernel_rfl) (by simp) ?_
        refine AllReadyH.cons rfl (fun K hK => ?_) AllReadyH.nil
        go_simp
        refine HCB.out.mono ?_
        rintro e w' ⟨rfl, rfl⟩
        refine hK.out _ _ HS.out (fun _ => ?_)
        clear hK K
        refine wpAnyH_take (i := 10) (oi := ⟨some 104, _, _, _, _, _⟩) (v := (.bool (bit (valsTo g held ns k) an != bit (valsTo g held ns k) bn))) rfl (by kernel_rfl) (by kernel_rfl) (by kernel_rfl) (fun _ _ _ h => h) (Or.inl ⟨by rfl, fun W hS => by (obtain ⟨s0, s1, s2⟩ := hS; go_simp; cases bit (valsTo g held ns k) an <;> cases bit (valsTo g held ns k) bn <;> rfl)⟩) HS.out ?_
        simp only [Act.put, List.setIfInBounds_toArray, List.set_cons_zero, List.set_cons_succ]
        refine wpAnyH_take (i := 11) (oi := ⟨some 105, _, _, _, _, _⟩) (v := (.pointer (some ⟨w.heap.size, k, none⟩))) rfl (by kernel_rfl) (by kernel_rfl) (by kernel_rfl) (fun _ _ _ h => h) (Or.inl ⟨by rfl, fun W hS => by (obtain ⟨s0, s1, s2⟩ := hS; go_simp)⟩) HS.out ?_
        simp only [Act.put, List.setIfInBounds_toArray, List.set_cons_zero, List.set_cons_succ]
        refine wpAnyH_ready (rs := [12]) (by kernel_rfl) (by simp) ?_
        refine AllReadyH.cons rfl (fun K hK => ?_) AllReadyH.nil
        go_simp
        refine hK.out _ _ ?_ (fun _ => ?_)
        · obtain ⟨s0, s1, s2⟩ := HS.out; refine ⟨?_, ?_, ?_⟩ <;> (go_simp)
        clear hK K
        refine wpAnyH_done (by kernel_rfl) ?_ _
        go_wp2_with fail
        exact ⟨⟨k + 1, by omega, by go_num, hide (hc.out.next hlt HBD.out _ HVV.out)⟩, by simp [intOf]; omega⟩
      · obtain ⟨ha0, ha1⟩ := inR_iff.1 (show inR a k = true from HRN.out)
        obtain ⟨an, rfl⟩ := Int.eq_ofNat_of_zero_le ha0
        have fa := hc.out.at hlt HB1.out (a := an) (by omega)
        have HVV : Hid (valN g (valsTo g held ns k) (bit held k) (ndAt ns k) = !bit (valsTo g held ns k) an) := hide (by rw [HND.out]; simp [valN])
        have HLA : Hid (an < (valsTo g held ns k).length) := hide (by rw [valsTo_len]; omega)
        have HIA : Hid ((an : Int) < (ns.length : Int)) := hide (by omega)
        clear ha0 ha1
        go_wp2_with fail
        clear n0 n1 n2 n3
        have HS : Hid ((wr.alloc (.cells #[.int .i64 8, .int .i64 an, .int .i64 bb, .int .i64 nx] 26)).drew.cell? ⟨w.heap.size + 1, 0, none⟩ = some (.slice (some ⟨w.heap.size, 0, none⟩) ns.length ns.length) ∧ (wr.alloc (.cells #[.int .i64 8, .int .i64 an, .int .i64 bb, .int .i64 nx] 26)).drew.cell? ⟨wr.heap.size, 1, none⟩ = some (.int .i64 an)) := hide ⟨fC, x1⟩
        have HCA := hide (aheadC_at an (w.heap.size + 1) w.heap.size ns.length (valsTo g held ns k) (wr.alloc (.cells #[.int .i64 8, .int .i64 an, .int .i64 bb, .int .i64 nx] 26)).drew HLA.out HIA.out fC fa)
        have HBD := hide (HB1.out.drew)
        have fWd : (wr.alloc (.cells #[.int .i64 8, .int .i64 an, .int .i64 bb, .int .i64 nx] 26)).drew.cell? ⟨w.heap.size, k, none⟩ = some (.bool false) := fW
        have fzd : (wr.alloc (.cells #[.int .i64 8, .int .i64 an, .int .i64 bb, .int .i64 nx] 26)).drew.frozen? ⟨w.heap.size, k, none⟩ = false := fz
        clear fC fa x1 x2 fW fz HB1
        refine wp_region_held_drew (S := fun W => W.cell? ⟨w.heap.size + 1, 0, none⟩ = some (.slice (some ⟨w.heap.size, 0, none⟩) ns.length ns.length) ∧ W.cell? ⟨wr.heap.size, 1, none⟩ = some (.int .i64 an)) (by kernel_rfl) HS.out (fun _ => ?_)
        generalize (wr.alloc (.cells #[.int .i64 8, .int .i64 an, .int .i64 bb, .int .i64 nx] 26)).drew = wd at *
        refine wpAnyH_take (i := 0) (oi := ⟨some 108, _, _, _, _, _⟩) (v := (.slice (some ⟨w.heap.size, 0, none⟩) ns.length ns.length)) rfl (by kernel_rfl) (by kernel_rfl) (by kernel_rfl) (fun _ _ _ h => h) (Or.inl ⟨by rfl, fun W hS => by (obtain ⟨s0, s1⟩ := hS; go_simp)⟩) HS.out ?_
        simp only [Act.put, List.setIfInBounds_toArray, List.set_cons_zero, List.set_cons_succ]
        refine wpAnyH_take (i := 1) (oi := ⟨some 109, _, _, _, _, _⟩) (v := (.int .i64 k)) rfl (by kernel_rfl) (by kernel_rfl) (by kernel_rfl) (fun _ _ _ h => h) (Or.inl ⟨by rfl, fun W hS => by (obtain ⟨s0, s1⟩ := hS; go_simp)⟩) HS.out ?_
        simp only [Act.put, List.setIfInBounds_toArray, List.set_cons_zero, List.set_cons_succ]
        refine wpAnyH_take (i := 2) (oi := ⟨some 110, _, _, _, _, _⟩) (v := (.func (.func 31) #[] #[.pointer (some ⟨w.heap.size + 1, 0, none⟩)])) rfl (by kernel_rfl) (by kernel_rfl) (by kernel_rfl) (fun _ _ _ h => h) (Or.inl ⟨by rfl, fun W hS => by (obtain ⟨s0, s1⟩ := hS; go_simp)⟩) HS.out ?_
        simp only [Act.put, List.setIfInBounds_toArray, List.set_cons_zero, List.set_cons_succ]
        refine wpAnyH_take (i := 3) (oi := ⟨some 111, _, _, _, _, _⟩) (v := (.pointer (some ⟨wr.heap.size, 1, none⟩))) rfl (by kernel_rfl) (by kernel_rfl) (by kernel_rfl) (fun _ _ _ h => h) (Or.inl ⟨by rfl, fun W hS => by (obtain ⟨s0, s1⟩ := hS; go_simp)⟩) HS.out ?_
        simp only [Act.put, List.setIfInBounds_toArray, List.set_cons_zero, List.set_cons_succ]
        refine wpAnyH_take (i := 4) (oi := ⟨some 112, _, _, _, _, _⟩) (v := (.int .i64 an)) rfl (by kernel_rfl) (by kernel_rfl) (by kernel_rfl) (fun _ _ _ h => h) (Or.inl ⟨by rfl, fun W hS => by (obtain ⟨s0, s1⟩ := hS; go_simp)⟩) HS.out ?_
        simp only [Act.put, List.setIfInBounds_toArray, List.set_cons_zero, List.set_cons_succ]
        refine wpAnyH_ready (rs := [5]) (by kernel_rfl) (by simp) ?_
        refine AllReadyH.cons rfl (fun K hK => ?_) AllReadyH.nil
        go_simp
        refine HCA.out.mono ?_
        rintro e w' ⟨rfl, rfl⟩
        refine hK.out _ _ HS.out (fun _ => ?_)
        clear hK K
        refine wpAnyH_take (i := 6) (oi := ⟨some 114, _, _, _, _, _⟩) (v := (.bool (!bit (valsTo g held ns k) an))) rfl (by kernel_rfl) (by kernel_rfl) (by kernel_rfl) (fun _ _ _ h => h) (Or.inl ⟨by rfl, fun W hS => by (obtain ⟨s0, s1⟩ := hS; go_simp)⟩) HS.out ?_
        simp only [Act.put, List.setIfInBounds_toArray, List.set_cons_zero, List.set_cons_succ]
        refine wpAnyH_take (i := 7) (oi := ⟨some 115, _, _, _, _, _⟩) (v := (.pointer (some ⟨w.heap.size, k, none⟩))) rfl (by kernel_rfl) (by kernel_rfl) (by kernel_rfl) (fun _ _ _ h => h) (Or.inl ⟨by rfl, fun W hS => by (obtain ⟨s0, s1⟩ := hS; go_simp)⟩) HS.out ?_
        simp only [Act.put, List.setIfInBounds_toArray, List.set_cons_zero, List.set_cons_succ]
        refine wpAnyH_ready (rs := [8]) (by kernel_rfl) (by simp) ?_
        refine AllReadyH.cons rfl (fun K hK => ?_) AllReadyH.nil
        go_simp
        refine hK.out _ _ ?_ (fun _ => ?_)
        · obtain ⟨s0, s1⟩ := HS.out; refine ⟨?_, ?_⟩ <;> (go_simp)
        clear hK K
        refine wpAnyH_done (by kernel_rfl) ?_ _
        go_wp2_with fail
        exact ⟨⟨k + 1, by omega, by go_num, hide (hc.out.next hlt HBD.out _ HVV.out)⟩, by simp [intOf]; omega⟩
    · have HJ : Hid (k = ns.length) := hide (by omega)
      have fC := hc.out.boxed (Below.refl _ _)
      go_wp2_with fail
      go_ret
      refine ⟨⟨_, rfl, Nat.le_refl _, ?_⟩, hc.out.below⟩
      have := hc.out.row
      rw [HJ.out, Nat.sub_self] at this
      unfold vals
      simpa using this
end Go.Proofs.Ytlnmemeejgnbeaa
