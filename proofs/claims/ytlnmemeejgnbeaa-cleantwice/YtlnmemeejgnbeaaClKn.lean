/-
  CONTRACT of known.
-/
import Derived.Test.YtlnmemeejgnbeaaClQ
import Derived.Laws.EntriesVeiled
set_option linter.unusedSimpArgs false
set_option linter.unusedVariables false
namespace Go.Proofs.Ytlnmemeejgnbeaa
open Go.RowKit

theorem made_ints (n : Nat) : madeCells #[Value.int .i64 0] n = (intsC (List.replicate n 0)).toArray := by
  apply Array.ext_getElem?
  intro j
  by_cases hj : j < n
  · simp [madeCells, hj, Nat.mod_one, intsC]
  · simp [madeCells, hj, intsC]
theorem mk_ints (n : Nat) (hn : n ≤ 90000) (w : World) : (Instr.makeSlice 23 (.int .i64 n) (.int .i64 n)).run Try.prog w = .ok (.slice (some ⟨w.heap.size, 0, none⟩) n n) (w.alloc (.cells (intsC (List.replicate n 0)).toArray 3)) := by
  obtain ⟨i, hi, hz, hs, hby⟩ := info_in
  have h := run_make (P := Try.prog) w 23 3 i _ (by kernel_rfl) hi hz .i64 .i64 n n (by omega) (Int.le_refl _) (by rw [hby]; omega) (by omega)
  rw [Int.toNat_natCast, hs, Nat.mul_one] at h
  rw [show (Value.int .i64 0).cells = #[Value.int .i64 0] from rfl, made_ints] at h
  exact h
/-- the first things laid: the nodes' box, the row, its box -/
structure KBox (W : World) (na : Option Addr) (nc n z : Nat) : Prop where
  nb : W.heap[z]? = some (.cells #[.slice na n nc] 22 (0, 0))
  ab : W.heap[z + 1 + 1]? = some (.cells #[.slice (some ⟨z + 1, 0, none⟩) n n] 23 (0, 0))
theorem KBox.kept {W W' : World} {na : Option Addr} {nc n z R : Nat} (h : KBox W na nc n z) (hk : Kept R W W') (h0 : z ≠ R) (h2 : z + 1 + 1 ≠ R) : KBox W' na nc n z := ⟨hk.blk h.nb h0, hk.blk h.ab h2⟩
theorem KBox.below {W W' : World} {na : Option Addr} {nc n z : Nat} (h : KBox W na nc n z) (hk : Below W.heap.size W W') : KBox W' na nc n z := ⟨Below.blk hk h.nb, Below.blk hk h.ab⟩
theorem rd_ok {rs : List Rw} {ns : List Nd} (h : rs.map (·.l) = rdP ns) : ∀ (j : Nat) (r : Rw), rs[j]? = some r → ∀ m, m < r.l.length → ∃ q : Nat, q < ns.length ∧ outAt r.l m = q := by
  intro j r hj m hm
  refine rdTo_in ns ns.length (Nat.le_refl _) j r.l ?_ m hm
  show (rdP ns)[j]? = _
  rw [← h]
  simp [hj]
theorem doubtTo_keeps {given : Int} {ns : List Nd} {os : List Int} (hr : RightP given ns os) : ∀ m, (doubtTo ns (rdP ns) (initTo ns ns.length) m).length = ns.length ∧ TriL (doubtTo ns (rdP ns) (initTo ns ns.length) m)
  | 0 => ⟨initTo_len _ _, fun j hj => initTo_tri hr ns.length (Nat.le_refl _) j (by rw [doubtTo, initTo_len] at hj; exact hj)⟩
  | m + 1 => by
    obtain ⟨h1, h2⟩ := doubtTo_keeps hr m
    obtain ⟨a, _, c⟩ := doubt_keeps ns (rdP ns) ns.length (m : Int) (doubtTo ns (rdP ns) (initTo ns ns.length) m)
    exact ⟨a.trans h1, c h2⟩
/-- so far, of what is known at first -/
structure Kng (w : World) (na : Option Addr) (nc : Nat) (ns : List Nd) (k : Nat) (wr : World) : Prop where
  below : Below w.heap.size w wr
  row : wr.heap[w.heap.size + 1]? = some (.cells (intsC (initTo ns k ++ List.replicate (ns.length - k) 0)).toArray 3 (0, 0))
  box : KBox wr na nc ns.length w.heap.size
theorem ints_set (l : List Int) (k : Nat) (v : Int) : (intsC l).toArray.setIfInBounds k (.int .i64 v) = (intsC (l.set k v)).toArray := by
  simp [intsC, List.map_set]
theorem initTo_next (ns : List Nd) (k : Nat) : initTo ns (k + 1) = initTo ns k ++ [firstK (ndAt ns k) (initTo ns k)] := rfl
theorem Below.toKept {N R : Nat} {w wr wr1 : World} (h : Below N w wr) (hk : Kept R wr wr1) (hR : N ≤ R) (hN : N ≤ wr.heap.size) : Below N w wr1 :=
  ⟨hk.os.trans h.os, hk.tape.trans h.tape, hk.output.trans h.output, Nat.le_trans h.size hk.size, fun k hk1 => (hk.block k (by omega) (by omega)).trans (h.block k hk1)⟩

set_option maxRecDepth 100000 in
set_option maxHeartbeats 12800000 in
theorem known_at {S : Nat → Prop} {given : Int} {ns : List Nd} {os : List Int} {na : Option Addr} {nc : Nat} (w : World) (hl : Lies S w na (ndsC ns)) (hr : RightP given ns os) :
    Calls Try.prog 27 #[.slice na ns.length nc] w fun e w' => (∃ R, e = .returned (.slice (some ⟨R, 0, none⟩) ns.length ns.length) ∧ w.heap.size ≤ R ∧ w'.heap[R]? = some (.cells (intsC (knownP ns)).toArray 3 (0, 0))) ∧ Below w.heap.size w w' := by
  have hn : (ns.length : Int) ≤ 20000 := by have := hr.n1; omega
  have hmk := mk_ints ns.length (by have := hr.n1; omega)
  have hmf : ∀ (fn : Fn) (first cap : Array Value) (w : World), (Instr.makeFunc fn first cap).run Try.prog w = .ok (.func fn first cap) w := fun _ _ _ _ => rfl
  have HL := hide hl
  have HR := hide hr
  have HC0 : Hid (Kng w na nc ns 0 (((w.alloc (.cells #[.slice na ns.length nc] 22)).alloc (.cells (intsC (List.replicate ns.length 0)).toArray 3)).alloc (.cells #[.slice (some ⟨w.heap.size + 1, 0, none⟩) ns.length ns.length] 23))) := hide (by
    have e1 : (w.alloc (.cells #[.slice na ns.length nc] 22)).heap.size = w.heap.size + 1 := by simp
    have e2 : ((w.alloc (.cells #[.slice na ns.length nc] 22)).alloc (.cells (intsC (List.replicate ns.length 0)).toArray 3)).heap.size = w.heap.size + 1 + 1 := by simp
    refine ⟨Below.step (Below.step (below_alloc _ _) (below_alloc _ _)) (below_alloc _ _), ?_, ?_, ?_⟩
    · refine Below.blk (below_alloc _ _) ?_
      have := blk_new (w.alloc (.cells #[.slice na ns.length nc] 22)) (.cells (intsC (List.replicate ns.length 0)).toArray 3)
      rwa [e1] at this
    · exact Below.blk (below_alloc _ _) (Below.blk (below_alloc _ _) (blk_new _ _))
    · have := blk_new ((w.alloc (.cells #[.slice na ns.length nc] 22)).alloc (.cells (intsC (List.replicate ns.length 0)).toArray 3)) (.cells #[.slice (some ⟨w.heap.size + 1, 0, none⟩) ns.length ns.length] 23)
      rwa [e2] at this)
  clear hl hr
  go_enter Try.func27, Try.ntmps27
  go_wp2_with fail
  clear hmk
  go_loopw [4, 5, 14] (fun _ _ i wr => ∃ k : Nat, k ≤ ns.length ∧ i = .int .i64 k ∧ Hid (Kng w na nc ns k wr)) (fun _ _ i _ => ns.length - (intOf i).toNat)
  case atStart => exact ⟨0, Nat.zero_le _, rfl, HC0⟩
  case round =>
    obtain ⟨k, hk, rfl, hc⟩ := hrel
    by_cases hlt : k < ns.length
    · have hki : (k : Int) < (ns.length : Int) := by omega
      obtain ⟨b, off, ha, _, hbl, n0, n1, n2, n3⟩ := (HL.out.below hc.out.below).nodes hlt
      have HA := hide ha
      have HRN := hide (HR.out.nodes k hlt)
      have HLL : Hid ((initTo ns k ++ List.replicate (ns.length - k) 0).length = ns.length) := hide (by rw [List.length_append, initTo_len, List.length_replicate]; omega)
      have hwl : w.heap.size < wr.heap.size := blk_lt hc.out.box.nb
      have hwl2 : w.heap.size + 1 + 1 < wr.heap.size := blk_lt hc.out.box.ab
      have HNX := hide (initTo_next ns k)
      have HT := hide (initTo_tri HR.out k hk)
      rw [HA.out]
      clear ha
      generalize hnd : ndAt ns k = x at n0 n1 n2 n3 HRN HNX
      clear hnd
      obtain ⟨op, xa, xb, xn⟩ := x
      simp only at n0 n1 n2 n3
      have HB1 : Hid (Below wr.heap.size wr (wr.alloc (.cells #[.int .i64 op, .int .i64 xa, .int .i64 xb, .int .i64 xn] 26))) := hide (below_alloc _ _)
      have HX1 := hide (blk_new wr (.cells #[.int .i64 op, .int .i64 xa, .int .i64 xb, .int .i64 xn] 26))
      have HRW1 := hide (Below.blk HB1.out hc.out.row)
      have HBX1 := hide (hc.out.box.below HB1.out)
      have HBL1 := hide (hc.out.below.trans (HB1.out.mono hc.out.below.size))
      have fz := blk_frozen HRW1.out k
      have c0 := ints_cellN HRW1.out (show k < _ by rw [HLL.out]; exact hlt)
      have a0 : (wr.alloc (.cells #[.int .i64 op, .int .i64 xa, .int .i64 xb, .int .i64 xn] 26)).cell? ⟨w.heap.size + 1 + 1, 0, none⟩ = some (.slice (some ⟨w.heap.size + 1, 0, none⟩) ns.length ns.length) := by rw [blk_cell HBX1.out.ab]; rfl
      have HRW2 : Hid (((wr.alloc (.cells #[.int .i64 op, .int .i64 xa, .int .i64 xb, .int .i64 xn] 26)).setCell ⟨w.heap.size + 1, k, none⟩ (.int .i64 xa)).heap[w.heap.size + 1]? = some (.cells (intsC ((initTo ns k ++ [xa]) ++ List.replicate (ns.length - (k + 1)) 0)).toArray 3 (0, 0))) := hide (by
        rw [blk_set HRW1.out, ints_set, rowI_set _ _ _ _ (initTo_len ns k) hlt])
      have HK2 : Hid (Kept (w.heap.size + 1) (wr.alloc (.cells #[.int .i64 op, .int .i64 xa, .int .i64 xb, .int .i64 xn] 26)) ((wr.alloc (.cells #[.int .i64 op, .int .i64 xa, .int .i64 xb, .int .i64 xn] 26)).setCell ⟨w.heap.size + 1, k, none⟩ (.int .i64 xa))) := hide (Kept.set _ _ _)
      have HBX2 := hide (HBX1.out.kept HK2.out (by omega) (by omega))
      have HBL2 := hide (Below.toKept HBL1.out HK2.out (by omega) HBL1.out.size)
      by_cases h4 : op = 4
      · subst h4
        have HNX4 : Hid (initTo ns (k + 1) = initTo ns k ++ [xa]) := hide (by rw [HNX.out]; simp [firstK])
        go_wp2_with fail
        exact ⟨⟨k + 1, by omega, by go_num, hide ⟨HBL2.out, by rw [HNX4.out]; exact HRW2.out, by rw [← HA.out]; exact HBX2.out⟩⟩, by simp [intOf]; omega⟩
      · have hq : (op != 4) = true := by simp [h4]
        have HNX4 : Hid (initTo ns (k + 1) = initTo ns k ++ [nowK ⟨op, xa, xb, xn⟩ (initTo ns k ++ [xa] ++ List.replicate (ns.length - (k + 1)) 0)]) := hide (by
          rw [HNX.out]
          have : nowK ⟨op, xa, xb, xn⟩ (initTo ns k ++ [xa] ++ List.replicate (ns.length - (k + 1)) 0) = nowK ⟨op, xa, xb, xn⟩ (initTo ns k) := nowK_pre HRN.out h4 fun j hj => by
            rw [List.append_assoc, outAt_app_left (by rw [initTo_len]; exact hj)]
          rw [this]
          simp [firstK, h4])
        have HLK : Hid ((initTo ns k ++ [xa] ++ List.replicate (ns.length - (k + 1)) 0).length = ns.length) := hide (by simp [initTo_len]; omega)
        have HTK : Hid (∀ j, j < k → Tri (outAt (initTo ns k ++ [xa] ++ List.replicate (ns.length - (k + 1)) 0) j)) := hide fun j hj => by
          rw [List.append_assoc, outAt_app_left (by rw [initTo_len]; exact hj)]; exact HT.out j hj
        have HSK : Hid ((initTo ns k ++ [xa] ++ List.replicate (ns.length - (k + 1)) 0).set k (nowK ⟨op, xa, xb, xn⟩ (initTo ns k ++ [xa] ++ List.replicate (ns.length - (k + 1)) 0)) = initTo ns (k + 1) ++ List.replicate (ns.length - (k + 1)) 0) := hide (by
          rw [HNX4.out, List.append_assoc, List.append_assoc, List.set_append_right _ _ (by rw [initTo_len]; exact Nat.le_refl _), initTo_len, Nat.sub_self]
          rfl)
        clear HNX4
        go_wp2_with fail
        clear a0 c0 fz
        generalize initTo ns k ++ [xa] ++ List.replicate (ns.length - (k + 1)) 0 = L at *
        have HX2 := hide ((Below.heap_setCell (wr.alloc (.cells #[.int .i64 op, .int .i64 xa, .int .i64 xb, .int .i64 xn] 26)) ⟨w.heap.size + 1, k, none⟩ (.int .i64 xa) wr.heap.size (by show wr.heap.size ≠ w.heap.size + 1; omega)).trans HX1.out)
        have HS : Hid (∀ W : World, W.heap[w.heap.size + 1 + 1]? = some (.cells #[.slice (some ⟨w.heap.size + 1, 0, none⟩) ns.length ns.length] 23 (0, 0)) → W.heap[wr.heap.size]? = some (.cells #[.int .i64 op, .int .i64 xa, .int .i64 xb, .int .i64 xn] 26 (0, 0)) → (fun W : World => W.cell? ⟨w.heap.size + 1 + 1, 0, none⟩ = some (.slice (some ⟨w.heap.size + 1, 0, none⟩) ns.length ns.length) ∧ W.cell? ⟨wr.heap.size, 0, none⟩ = some (.int .i64 op) ∧ W.cell? ⟨wr.heap.size, 1, none⟩ = some (.int .i64 xa) ∧ W.cell? ⟨wr.heap.size, 2, none⟩ = some (.int .i64 xb) ∧ W.cell? ⟨wr.heap.size, 3, none⟩ = some (.int .i64 xn)) W) := hide fun W h0 h1 => by
          refine ⟨?_, ?_, ?_, ?_, ?_⟩
          · rw [blk_cell h0]; rfl
          · rw [blk_cell h1]; rfl
          · rw [blk_cell h1]; rfl
          · rw [blk_cell h1]; rfl
          · rw [blk_cell h1]; rfl
        have HX2d : Hid (((wr.alloc (.cells #[.int .i64 op, .int .i64 xa, .int .i64 xb, .int .i64 xn] 26)).setCell ⟨w.heap.size + 1, k, none⟩ (.int .i64 xa)).drew.heap[wr.heap.size]? = some (.cells #[.int .i64 op, .int .i64 xa, .int .i64 xb, .int .i64 xn] 26 (0, 0))) := hide HX2.out
        have HBX2d : Hid (KBox ((wr.alloc (.cells #[.int .i64 op, .int .i64 xa, .int .i64 xb, .int .i64 xn] 26)).setCell ⟨w.heap.size + 1, k, none⟩ (.int .i64 xa)).drew na nc ns.length w.heap.size) := hide (HBX2.out.below (Below.refl _ _).drew)
        have HBL2d : Hid (Below w.heap.size w ((wr.alloc (.cells #[.int .i64 op, .int .i64 xa, .int .i64 xb, .int .i64 xn] 26)).setCell ⟨w.heap.size + 1, k, none⟩ (.int .i64 xa)).drew) := hide HBL2.out.drew
        have HRW2d : Hid (((wr.alloc (.cells #[.int .i64 op, .int .i64 xa, .int .i64 xb, .int .i64 xn] 26)).setCell ⟨w.heap.size + 1, k, none⟩ (.int .i64 xa)).drew.heap[w.heap.size + 1]? = some (.cells (intsC L).toArray 3 (0, 0))) := hide HRW2.out
        have HS1 := hide (HS.out _ HBX2d.out.ab HX2d.out)
        clear HX1 HX2 HBX1 HBX2 HBL1 HBL2 HRW1 HRW2 HB1 HK2 n0 n1 n2 n3
        refine wp_region_held_drew (S := (fun W : World => W.cell? ⟨w.heap.size + 1 + 1, 0, none⟩ = some (.slice (some ⟨w.heap.size + 1, 0, none⟩) ns.length ns.length) ∧ W.cell? ⟨wr.heap.size, 0, none⟩ = some (.int .i64 op) ∧ W.cell? ⟨wr.heap.size, 1, none⟩ = some (.int .i64 xa) ∧ W.cell? ⟨wr.heap.size, 2, none⟩ = some (.int .i64 xb) ∧ W.cell? ⟨wr.heap.size, 3, none⟩ = some (.int .i64 xn))) (by kernel_rfl) HS1.out (fun _ => ?_)
        generalize ((wr.alloc (.cells #[.int .i64 op, .int .i64 xa, .int .i64 xb, .int .i64 xn] 26)).setCell ⟨w.heap.size + 1, k, none⟩ (.int .i64 xa)).drew = w2 at *
        have HNOW := hide (now_at ⟨op, xa, xb, xn⟩ given ns.length k (w.heap.size + 1) L w2 HRW2d.out HRN.out (by rw [HLK.out]; omega) (by rw [HLK.out]; exact Nat.le_refl _) HTK.out)
        rw [HLK.out] at HNOW
        simp only at HNOW
        refine wpAnyH_take (i := 0) (oi := ⟨some 27, _, _, _, _, _⟩) (v := .slice (some ⟨w.heap.size + 1, 0, none⟩) ns.length ns.length) rfl (by kernel_rfl) (by kernel_rfl) (by kernel_rfl) (fun _ _ _ h => h) (Or.inl ⟨by rfl, fun W hS => by (obtain ⟨s0, s1, s2, s3, s4⟩ := hS; go_simp)⟩) HS1.out ?_
        simp only [Act.put, List.setIfInBounds_toArray, List.set_cons_zero, List.set_cons_succ]
        refine wpAnyH_take (i := 1) (oi := ⟨some 28, _, _, _, _, _⟩) (v := .int .i64 k) rfl (by kernel_rfl) (by kernel_rfl) (by kernel_rfl) (fun _ _ _ h => h) (Or.inl ⟨by rfl, fun W hS => by (obtain ⟨s0, s1, s2, s3, s4⟩ := hS; go_simp)⟩) HS1.out ?_
        simp only [Act.put, List.setIfInBounds_toArray, List.set_cons_zero, List.set_cons_succ]
        refine wpAnyH_take (i := 2) (oi := ⟨some 29, _, _, _, _, _⟩) (v := .agg #[.int .i64 op, .int .i64 xa, .int .i64 xb, .int .i64 xn]) rfl (by kernel_rfl) (by kernel_rfl) (by kernel_rfl) (fun _ _ _ h => h) (Or.inl ⟨by rfl, fun W hS => by (obtain ⟨s0, s1, s2, s3, s4⟩ := hS; go_simp)⟩) HS1.out ?_
        simp only [Act.put, List.setIfInBounds_toArray, List.set_cons_zero, List.set_cons_succ]
        refine wpAnyH_take (i := 3) (oi := ⟨some 30, _, _, _, _, _⟩) (v := .slice (some ⟨w.heap.size + 1, 0, none⟩) ns.length ns.length) rfl (by kernel_rfl) (by kernel_rfl) (by kernel_rfl) (fun _ _ _ h => h) (Or.inl ⟨by rfl, fun W hS => by (obtain ⟨s0, s1, s2, s3, s4⟩ := hS; go_simp)⟩) HS1.out ?_
        simp only [Act.put, List.setIfInBounds_toArray, List.set_cons_zero, List.set_cons_succ]
        refine wpAnyH_ready (rs := [4]) (by kernel_rfl) (by simp) ?_
        refine AllReadyH.cons rfl (fun K hK => ?_) AllReadyH.nil
        go_simp
        refine HNOW.out.mono ?_
        rintro e w3 ⟨rfl, hb⟩
        have HBX3 := hide (HBX2d.out.below hb)
        have HX3 := hide (Below.blk hb HX2d.out)
        have HRW3 := hide (Below.blk hb HRW2d.out)
        have HBL3 := hide (HBL2d.out.trans (hb.mono HBL2d.out.size))
        have HS3 := hide (HS.out _ HBX3.out.ab HX3.out)
        clear hb HNOW HBX2d HX2d HRW2d HBL2d HS1
        refine hK.out _ _ HS3.out (fun _ => ?_)
        clear hK K
        refine wpAnyH_take (i := 5) (oi := ⟨some 32, _, _, _, _, _⟩) (v := .pointer (some ⟨w.heap.size + 1, k, none⟩)) rfl (by kernel_rfl) (by kernel_rfl) (by kernel_rfl) (fun _ _ _ h => h) (Or.inl ⟨by rfl, fun W hS => by (obtain ⟨s0, s1, s2, s3, s4⟩ := hS; go_simp)⟩) HS3.out ?_
        simp only [Act.put, List.setIfInBounds_toArray, List.set_cons_zero, List.set_cons_succ]
        have HK3 : Hid (Kept (w.heap.size + 1) w3 (w3.setCell ⟨w.heap.size + 1, k, none⟩ (.int .i64 (nowK ⟨op, xa, xb, xn⟩ L)))) := hide (Kept.set _ _ _)
        have HBX4 := hide (HBX3.out.kept HK3.out (by omega) (by omega))
        have HBL4 := hide (Below.toKept HBL3.out HK3.out (by omega) HBL3.out.size)
        have HX4 : Hid ((w3.setCell ⟨w.heap.size + 1, k, none⟩ (.int .i64 (nowK ⟨op, xa, xb, xn⟩ L))).heap[wr.heap.size]? = some (.cells #[.int .i64 op, .int .i64 xa, .int .i64 xb, .int .i64 xn] 26 (0, 0))) := hide ((Below.heap_setCell _ _ _ _ (by show wr.heap.size ≠ w.heap.size + 1; omega)).trans HX3.out)
        have HRW4 : Hid ((w3.setCell ⟨w.heap.size + 1, k, none⟩ (.int .i64 (nowK ⟨op, xa, xb, xn⟩ L))).heap[w.heap.size + 1]? = some (.cells (intsC (initTo ns (k + 1) ++ List.replicate (ns.length - (k + 1)) 0)).toArray 3 (0, 0))) := hide (by
          rw [blk_set HRW3.out, ints_set, HSK.out])
        have HS4 := hide (HS.out _ HBX4.out.ab HX4.out)
        have fz := blk_frozen HRW3.out k
        have c0 := ints_cellN HRW3.out (show k < _ by rw [HLK.out]; exact hlt)
        refine wpAnyH_ready (rs := [6]) (by kernel_rfl) (by simp) ?_
        refine AllReadyH.cons rfl (fun K hK => ?_) AllReadyH.nil
        go_simp
        refine hK.out _ _ HS4.out (fun _ => ?_)
        clear hK K fz c0
        refine wpAnyH_done (by kernel_rfl) ?_ _
        go_wp2_with fail
        exact ⟨⟨k + 1, by omega, by go_num, hide ⟨HBL4.out, HRW4.out, by rw [← HA.out]; exact HBX4.out⟩⟩, by simp [intOf]; omega⟩
    · have hki : ¬ (k : Int) < (ns.length : Int) := by omega
      obtain rfl : k = ns.length := by omega
      have HIN : Hid (initTo ns ns.length ++ List.replicate (ns.length - ns.length) 0 = initTo ns ns.length) := hide (by simp)
      have HRW := hc.out.row
      rw [HIN.out] at HRW
      have HRW := hide HRW
      have HBX := hide hc.out.box
      have HBL := hide hc.out.below
      have b0 : wr.cell? ⟨w.heap.size, 0, none⟩ = some (.slice na ns.length nc) := by rw [blk_cell HBX.out.nb]; rfl
      have HRD := hide (readers_at (nc := nc) wr (HL.out.below HBL.out) HR.out)
      clear hc
      go_wp2_with fail
      refine HRD.out.mono ?_
      rintro e w1 ⟨⟨RB, rs, rfl, hrb, hrows, hrp⟩, hb⟩
      have HB1 := hide hb
      have HRB := hide hrb
      have HROWS := hide hrows
      have HRP := hide hrp
      have b1 : w1.cell? ⟨w.heap.size, 0, none⟩ = some (.slice na ns.length nc) := by rw [blk_cell (HBX.out.below hb).nb]; rfl
      have b2 := fun o o' => cell_alloc (cell_alloc b1 o) o'
      clear hrb hrows hrp hb HRD b0
      go_wp2_with fail
      clear b1 b2
      have HRs : Hid (w.heap.size + 1 < wr.heap.size) := hide (blk_lt HRW.out)
      have W0 := w1
      have e1 : (w1.alloc (.cells #[.slice (some ⟨RB, 0, none⟩) ns.length ns.length] 69)).heap.size = w1.heap.size + 1 := by simp
      have HBQ := hide (below_alloc w1 (.cells #[.slice (some ⟨RB, 0, none⟩) ns.length ns.length] 69))
      have HQ := hide (blk_new w1 (.cells #[.slice (some ⟨RB, 0, none⟩) ns.length ns.length] 69))
      have HBD := hide (below_alloc (w1.alloc (.cells #[.slice (some ⟨RB, 0, none⟩) ns.length ns.length] 69)) (.cells #[.func (.func 34) #[] #[.pointer (some ⟨w.heap.size + 1 + 1, 0, none⟩), .pointer (some ⟨w.heap.size, 0, none⟩), .pointer (some ⟨w1.heap.size, 0, none⟩), .pointer (some ⟨w1.heap.size + 1, 0, none⟩)]] 71))
      have hD := blk_new (w1.alloc (.cells #[.slice (some ⟨RB, 0, none⟩) ns.length ns.length] 69)) (.cells #[.func (.func 34) #[] #[.pointer (some ⟨w.heap.size + 1 + 1, 0, none⟩), .pointer (some ⟨w.heap.size, 0, none⟩), .pointer (some ⟨w1.heap.size, 0, none⟩), .pointer (some ⟨w1.heap.size + 1, 0, none⟩)]] 71)
      rw [e1] at hD
      have HD := hide hD
      have HB14 := hide (Below.step HBQ.out HBD.out)
      clear hD e1
      have HQ4 := hide (Below.blk HBD.out HQ.out)
      clear HBQ HBD HQ
      generalize (w1.alloc (.cells #[.slice (some ⟨RB, 0, none⟩) ns.length ns.length] 69)).alloc (.cells #[.func (.func 34) #[] #[.pointer (some ⟨w.heap.size + 1 + 1, 0, none⟩), .pointer (some ⟨w.heap.size, 0, none⟩), .pointer (some ⟨w1.heap.size, 0, none⟩), .pointer (some ⟨w1.heap.size + 1, 0, none⟩)]] 71) = w4 at *
      have HB4 := hide (Below.step HB1.out HB14.out)
      have HBX4 := hide (HBX.out.below HB4.out)
      have HENV : Hid (DEnv wr.heap.size w4 (w.heap.size + 1 + 1) w.heap.size w1.heap.size (w1.heap.size + 1) (w.heap.size + 1) RB na nc ns rs) := hide (by
        have h1 := HRs.out
        have h2 := HB1.out.size
        have h3 := HRB.out
        refine ⟨⟨?_, ?_, ?_, ?_⟩, ?_, HROWS.out.below HB14.out, h1, by omega, by omega, by omega, by omega, by omega⟩
        · rw [blk_cell HBX4.out.ab]; rfl
        · rw [blk_cell HBX4.out.nb]; rfl
        · rw [blk_cell HQ4.out]; rfl
        · rw [blk_cell HD.out]; rfl
        · exact (HL.out.imp fun b hb _ => by omega).below (HBL.out.trans (HB4.out.mono HBL.out.size)))
      have HRW4 := hide (Below.blk HB4.out HRW.out)
      have HBL4 := hide (HBL.out.trans (HB4.out.mono HBL.out.size))
      have HIN := hide (rd_ok HRP.out)
      have HRL : Hid (rs.length = ns.length) := hide (by have := congrArg List.length HRP.out; rw [List.length_map] at this; rw [this]; exact rdTo_len _ _)
      have HRM := hide HRP.out
      have b4 : w4.cell? ⟨w.heap.size, 0, none⟩ = some (.slice na ns.length nc) := HENV.out.box.b
      have HST : Hid (Dng (w.heap.size + 1) w4 (doubtTo ns (rdP ns) (initTo ns ns.length) 0) w4) := hide ⟨Kept.refl _ _, HRW4.out⟩
      clear HQ4 HD HBX4 HB14 HB4 HBX HB1 HROWS HRP HRB
      clear b4
      go_loopw [8, 39] (fun _ j wz => ∃ m : Nat, m ≤ ns.length ∧ j = .int .i64 m ∧ Hid (Dng (w.heap.size + 1) w4 (doubtTo ns (rdP ns) (initTo ns ns.length) m) wz)) (fun _ j _ => ns.length - (intOf j).toNat)
      case atStart => exact ⟨0, Nat.zero_le _, rfl, HST⟩
      case round =>
        obtain ⟨m, hm, rfl, hd⟩ := hrel
        by_cases hlm : m < ns.length
        · have hmi : (m : Int) < (ns.length : Int) := by omega
          have HEr := hide (HENV.out.kept hd.out.kept)
          have HKP := hide (doubtTo_keeps HR.out m)
          have HCD := hide (doubt_all (os := os) HR.out HIN.out HRL.out ns.length m _ _ hlm HKP.out.1 (by have := cntC_le (doubtTo ns (rdP ns) (initTo ns ns.length) m); have := HKP.out.1; omega) HKP.out.2 HEr.out hd.out.row)
          rw [HRM.out] at HCD
          have dD := HEr.out.box.d
          go_wp2_with fail
          refine HCD.out.mono ?_
          rintro e w5 ⟨rfl, hk5, hr5⟩
          have HD5 := hide (Dng.mk (hd.out.kept.trans hk5) hr5)
          clear hk5 hr5 HCD dD
          go_wp2_with fail
          exact ⟨⟨m + 1, by omega, by go_num, HD5⟩, by simp [intOf]; omega⟩
        · have hmi : ¬ (m : Int) < (ns.length : Int) := by omega
          obtain rfl : m = ns.length := by omega
          have HEr := hide (HENV.out.kept hd.out.kept)
          have aA := HEr.out.box.a
          go_wp2_with fail
          go_ret
          have hz := Below.toKept HBL4.out hd.out.kept (by omega) HBL4.out.size
          first | exact ⟨⟨_, rfl, by omega, hd.out.row⟩, hz⟩ | trace_state
end Go.Proofs.Ytlnmemeejgnbeaa
