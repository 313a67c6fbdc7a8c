/-
  CONTRACT of needed.
-/
import Derived.Test.YtlnmemeejgnbeaaClO
import Derived.Laws.EntriesVeiled
set_option linter.unusedSimpArgs false
set_option linter.unusedVariables false
namespace Go.Proofs.Ytlnmemeejgnbeaa
open Go.RowKit

theorem mk_bitsN (n : Nat) (hn : n ≤ 90000) (w : World) : (Instr.makeSlice 41 (.int .i64 n) (.int .i64 n)).run Try.prog w = .ok (.slice (some ⟨w.heap.size, 0, none⟩) n n) (w.alloc (.cells (bitsC (List.replicate n false)).toArray 4)) := by
  obtain ⟨i, hi, hz, hs, hby⟩ := info_bo
  have h := run_make (P := Try.prog) w 41 4 i _ (by kernel_rfl) hi hz .i64 .i64 n n (by omega) (Int.le_refl _) (by rw [hby]; omega) (by omega)
  rw [Int.toNat_natCast, hs, Nat.mul_one] at h
  rw [show (Value.bool false).cells = #[Value.bool false] from rfl, made_bits] at h
  exact h
theorem new_at' (w : World) (o : Obj) {k : Nat} (h : w.heap.size = k) : (w.alloc o).heap[k]? = some o := h ▸ blk_new w o
/-- the five things that are laid -/
theorem five (w : World) (o1 o2 o3 o4 o5 : Obj) : Below w.heap.size w (((((w.alloc o1).alloc o2).alloc o3).alloc o4).alloc o5) ∧ (((((w.alloc o1).alloc o2).alloc o3).alloc o4).alloc o5).heap[w.heap.size]? = some o1 ∧ (((((w.alloc o1).alloc o2).alloc o3).alloc o4).alloc o5).heap[w.heap.size + 1]? = some o2 ∧ (((((w.alloc o1).alloc o2).alloc o3).alloc o4).alloc o5).heap[w.heap.size + 1 + 1]? = some o3 ∧ (((((w.alloc o1).alloc o2).alloc o3).alloc o4).alloc o5).heap[w.heap.size + 1 + 1 + 1]? = some o4 ∧ (((((w.alloc o1).alloc o2).alloc o3).alloc o4).alloc o5).heap[w.heap.size + 1 + 1 + 1 + 1]? = some o5 := by
  have b (w : World) (o : Obj) {k : Nat} {x : Obj} (h : w.heap[k]? = some x) : (w.alloc o).heap[k]? = some x := Below.blk (below_alloc _ _) h
  refine ⟨Below.step (Below.step (Below.step (Below.step (below_alloc _ _) (below_alloc _ _)) (below_alloc _ _)) (below_alloc _ _)) (below_alloc _ _), ?_, ?_, ?_, ?_, ?_⟩
  · exact b _ _ (b _ _ (b _ _ (b _ _ (blk_new _ _))))
  · exact b _ _ (b _ _ (b _ _ (new_at' _ _ (by simp))))
  · exact b _ _ (b _ _ (new_at' _ _ (by simp)))
  · exact b _ _ (new_at' _ _ (by simp))
  · exact new_at' _ _ (by simp)
/-- so far -/
structure Ntg (NB : Nat) (w : World) (nd : List Bool) (wr : World) : Prop where
  kept : Kept NB w wr
  row : wr.heap[NB]? = some (.cells (bitsC nd).toArray 4 (0, 0))
theorem noteTo_keeps (m : Mk) (os : List Int) : ∀ k, (noteTo m os k).length = m.ms.length
  | 0 => by simp [noteTo]
  | k + 1 => by rw [noteTo, (note_keeps m _ _ _).1, noteTo_keeps m os k]

set_option maxRecDepth 100000 in
set_option maxHeartbeats 6400000 in
theorem needed_at {T : Nat → Prop} {P SB nc oc : Nat} {na oa : Option Addr} {m : Mk} {os : List Int} (w : World) (hrow : RowAt w P na nc m.ms) (hst : w.heap[SB]? = some (.cells (intsC m.st).toArray 3 (0, 0))) (hos : Lies T w oa (intsC os)) (hd : MkDone m) (hin : ∀ i, i < os.length → ∃ q : Nat, q < m.st.length ∧ outAt os i = q) (ho : os.length ≤ 20000) :
    Calls Try.prog 29 #[.pointer (some ⟨P, 0, none⟩), .slice oa os.length oc, .slice (some ⟨SB, 0, none⟩) m.st.length m.st.length] w fun e w' => (∃ NB, e = .returned (.slice (some ⟨NB, 0, none⟩) m.ms.length m.ms.length) ∧ w.heap.size ≤ NB ∧ w'.heap[NB]? = some (.cells (bitsC (needP m os)).toArray 4 (0, 0))) ∧ Below w.heap.size w w' := by
  have hn : (m.ms.length : Int) ≤ 90000 := by have := hd.few; omega
  have ho2 : (os.length : Int) ≤ 20000 := by omega
  have hmk := mk_bitsN m.ms.length (by omega)
  have hmf : ∀ (fn : Fn) (first cap : Array Value) (w : World), (Instr.makeFunc fn first cap).run Try.prog w = .ok (.func fn first cap) w := fun _ _ _ _ => rfl
  have c0 := hrow.hd
  have hpl := cell_lt c0
  simp only at hpl
  have c0a := fun o o' => cell_alloc (cell_alloc c0 o) o'
  obtain ⟨h5, o1, o2, o3, o4, o5⟩ := five w (.cells #[.pointer (some ⟨P, 0, none⟩)] 50) (.cells #[.slice (some ⟨SB, 0, none⟩) m.st.length m.st.length] 23) (.cells (bitsC (List.replicate m.ms.length false)).toArray 4) (.cells #[.slice (some ⟨w.heap.size + 1 + 1, 0, none⟩) m.ms.length m.ms.length] 41) (.cells #[.func (.func 38) #[] #[.pointer (some ⟨w.heap.size + 1 + 1 + 1, 0, none⟩), .pointer (some ⟨w.heap.size, 0, none⟩), .pointer (some ⟨w.heap.size + 1 + 1 + 1 + 1, 0, none⟩), .pointer (some ⟨w.heap.size + 1, 0, none⟩)]] 71)
  have HENV : Hid (NEnv (((((w.alloc (.cells #[.pointer (some ⟨P, 0, none⟩)] 50)).alloc (.cells #[.slice (some ⟨SB, 0, none⟩) m.st.length m.st.length] 23)).alloc (.cells (bitsC (List.replicate m.ms.length false)).toArray 4)).alloc (.cells #[.slice (some ⟨w.heap.size + 1 + 1, 0, none⟩) m.ms.length m.ms.length] 41)).alloc (.cells #[.func (.func 38) #[] #[.pointer (some ⟨w.heap.size + 1 + 1 + 1, 0, none⟩), .pointer (some ⟨w.heap.size, 0, none⟩), .pointer (some ⟨w.heap.size + 1 + 1 + 1 + 1, 0, none⟩), .pointer (some ⟨w.heap.size + 1, 0, none⟩)]] 71)) (w.heap.size + 1 + 1 + 1) w.heap.size (w.heap.size + 1 + 1 + 1 + 1) (w.heap.size + 1) (w.heap.size + 1 + 1) P SB na nc m) := hide (by
    have hsl := blk_lt hst
    refine ⟨?_, ?_, ?_, ?_, bcell h5 c0, ?_, Below.blk h5 hst, by omega, by omega, by omega, by omega, by omega, by omega⟩
    · rw [blk_cell o4]; rfl
    · rw [blk_cell o1]; rfl
    · rw [blk_cell o5]; rfl
    · rw [blk_cell o2]; rfl
    · exact (hrow.row.imp fun b hb _ => by omega).below h5)
  have HB5 := hide h5
  have HOS := hide ((hos.imp (T := fun b => b < w.heap.size) fun b hb _ => hb).below h5)
  have HST : Hid (Ntg (w.heap.size + 1 + 1) (((((w.alloc (.cells #[.pointer (some ⟨P, 0, none⟩)] 50)).alloc (.cells #[.slice (some ⟨SB, 0, none⟩) m.st.length m.st.length] 23)).alloc (.cells (bitsC (List.replicate m.ms.length false)).toArray 4)).alloc (.cells #[.slice (some ⟨w.heap.size + 1 + 1, 0, none⟩) m.ms.length m.ms.length] 41)).alloc (.cells #[.func (.func 38) #[] #[.pointer (some ⟨w.heap.size + 1 + 1 + 1, 0, none⟩), .pointer (some ⟨w.heap.size, 0, none⟩), .pointer (some ⟨w.heap.size + 1 + 1 + 1 + 1, 0, none⟩), .pointer (some ⟨w.heap.size + 1, 0, none⟩)]] 71)) (noteTo m os 0) (((((w.alloc (.cells #[.pointer (some ⟨P, 0, none⟩)] 50)).alloc (.cells #[.slice (some ⟨SB, 0, none⟩) m.st.length m.st.length] 23)).alloc (.cells (bitsC (List.replicate m.ms.length false)).toArray 4)).alloc (.cells #[.slice (some ⟨w.heap.size + 1 + 1, 0, none⟩) m.ms.length m.ms.length] 41)).alloc (.cells #[.func (.func 38) #[] #[.pointer (some ⟨w.heap.size + 1 + 1 + 1, 0, none⟩), .pointer (some ⟨w.heap.size, 0, none⟩), .pointer (some ⟨w.heap.size + 1 + 1 + 1 + 1, 0, none⟩), .pointer (some ⟨w.heap.size + 1, 0, none⟩)]] 71))) := hide ⟨Kept.refl _ _, o3⟩
  have HD := hide hd
  have HIN := hide hin
  clear hrow hst hos hd hin h5 o1 o2 o3 o4 o5
  go_enter Try.func29, Try.ntmps29
  go_wp2_with fail
  clear c0 c0a hmk
  generalize (((((w.alloc (.cells #[.pointer (some ⟨P, 0, none⟩)] 50)).alloc (.cells #[.slice (some ⟨SB, 0, none⟩) m.st.length m.st.length] 23)).alloc (.cells (bitsC (List.replicate m.ms.length false)).toArray 4)).alloc (.cells #[.slice (some ⟨w.heap.size + 1 + 1, 0, none⟩) m.ms.length m.ms.length] 41)).alloc (.cells #[.func (.func 38) #[] #[.pointer (some ⟨w.heap.size + 1 + 1 + 1, 0, none⟩), .pointer (some ⟨w.heap.size, 0, none⟩), .pointer (some ⟨w.heap.size + 1 + 1 + 1 + 1, 0, none⟩), .pointer (some ⟨w.heap.size + 1, 0, none⟩)]] 71)) = w5 at *
  go_loopw [10, 20] (fun _ j wr => ∃ k : Nat, k ≤ os.length ∧ j = .int .i64 k ∧ Hid (Ntg (w.heap.size + 1 + 1) w5 (noteTo m os k) wr)) (fun _ j _ => os.length - (intOf j).toNat)
  case atStart => exact ⟨0, Nat.zero_le _, rfl, HST⟩
  case round =>
    obtain ⟨k, hk, rfl, hc⟩ := hrel
    by_cases hlt : k < os.length
    · have hki : (k : Int) < (os.length : Int) := by omega
      have HEr := hide (HENV.out.kept hc.out.kept)
      have HOr := hide (HOS.out.same fun b hb hl => hc.out.kept.block b hl (by omega))
      obtain ⟨bo, off, ha, _, _, cq⟩ := HOr.out.ints hlt
      obtain ⟨q, hq, hqe⟩ := HIN.out k hlt
      rw [hqe] at cq
      have hqi : (q : Int) < (m.st.length : Int) := by omega
      have hu := HD.out.all q hq
      obtain ⟨u, hue⟩ := Int.eq_ofNat_of_zero_le hu.1
      have HUE : Hid (outAt m.st q = u ∧ q < m.st.length) := hide ⟨hue, hq⟩
      have HUL : Hid (u < m.ms.length) := hide (by have := hu.2; omega)
      have HKP := hide (noteTo_keeps m os k)
      have HNX : Hid (noteTo m os (k + 1) = noteF m m.ms.length (u : Int) (noteTo m os k)) := hide (by rw [noteTo, hqe, kAt_n, hue])
      have HA := hide ha
      have HSF : Hid (∀ W : World, NEnv W (w.heap.size + 1 + 1 + 1) w.heap.size (w.heap.size + 1 + 1 + 1 + 1) (w.heap.size + 1) (w.heap.size + 1 + 1) P SB na nc m → (fun W : World => W.cell? ⟨w.heap.size + 1 + 1 + 1 + 1, 0, none⟩ = some (.func (.func 38) #[] #[.pointer (some ⟨w.heap.size + 1 + 1 + 1, 0, none⟩), .pointer (some ⟨w.heap.size, 0, none⟩), .pointer (some ⟨w.heap.size + 1 + 1 + 1 + 1, 0, none⟩), .pointer (some ⟨w.heap.size + 1, 0, none⟩)]) ∧ W.cell? ⟨w.heap.size + 1, 0, none⟩ = some (.slice (some ⟨SB, 0, none⟩) m.st.length m.st.length) ∧ W.cell? ⟨SB, q, none⟩ = some (.int .i64 u)) W) := hide fun W h0 => by
        refine ⟨h0.c, h0.d, ?_⟩
        rw [← HUE.out.1]; exact ints_cellN h0.st HUE.out.2
      rw [HA.out]
      clear ha hu hue hqe hq
      go_wp2_with fail
      have HEd := hide (HEr.out.kept (Kept.of (Below.refl _ _).drew))
      have HRd := hide (Below.blk ((Below.refl _ _).drew) hc.out.row)
      have HKd := hide (hc.out.kept.below ((Below.refl _ _).drew))
      have HS1 := hide (HSF.out _ HEd.out)
      clear cq HEr HOr
      refine wp_region_held_drew (S := (fun W : World => W.cell? ⟨w.heap.size + 1 + 1 + 1 + 1, 0, none⟩ = some (.func (.func 38) #[] #[.pointer (some ⟨w.heap.size + 1 + 1 + 1, 0, none⟩), .pointer (some ⟨w.heap.size, 0, none⟩), .pointer (some ⟨w.heap.size + 1 + 1 + 1 + 1, 0, none⟩), .pointer (some ⟨w.heap.size + 1, 0, none⟩)]) ∧ W.cell? ⟨w.heap.size + 1, 0, none⟩ = some (.slice (some ⟨SB, 0, none⟩) m.st.length m.st.length) ∧ W.cell? ⟨SB, q, none⟩ = some (.int .i64 u))) (by kernel_rfl) HS1.out (fun _ => ?_)
      generalize wr.drew = w6 at *
      refine wpAnyH_take (i := 0) (oi := ⟨some 24, _, _, _, _, _⟩) (v := .func (.func 38) #[] #[.pointer (some ⟨w.heap.size + 1 + 1 + 1, 0, none⟩), .pointer (some ⟨w.heap.size, 0, none⟩), .pointer (some ⟨w.heap.size + 1 + 1 + 1 + 1, 0, none⟩), .pointer (some ⟨w.heap.size + 1, 0, none⟩)]) rfl (by kernel_rfl) (by kernel_rfl) (by kernel_rfl) (fun _ _ _ h => h) (Or.inl ⟨by rfl, fun W hS => by (obtain ⟨s0, s1, s2⟩ := hS; go_simp)⟩) HS1.out ?_
      simp only [Act.put, List.setIfInBounds_toArray, List.set_cons_zero, List.set_cons_succ]
      refine wpAnyH_take (i := 1) (oi := ⟨some 25, _, _, _, _, _⟩) (v := .slice (some ⟨SB, 0, none⟩) m.st.length m.st.length) rfl (by kernel_rfl) (by kernel_rfl) (by kernel_rfl) (fun _ _ _ h => h) (Or.inl ⟨by rfl, fun W hS => by (obtain ⟨s0, s1, s2⟩ := hS; go_simp)⟩) HS1.out ?_
      simp only [Act.put, List.setIfInBounds_toArray, List.set_cons_zero, List.set_cons_succ]
      refine wpAnyH_take (i := 2) (oi := ⟨some 26, _, _, _, _, _⟩) (v := .int .i64 q) rfl (by kernel_rfl) (by kernel_rfl) (by kernel_rfl) (fun _ _ _ h => h) (Or.inl ⟨by rfl, fun W hS => by (obtain ⟨s0, s1, s2⟩ := hS; go_simp)⟩) HS1.out ?_
      simp only [Act.put, List.setIfInBounds_toArray, List.set_cons_zero, List.set_cons_succ]
      refine wpAnyH_take (i := 3) (oi := ⟨some 27, _, _, _, _, _⟩) (v := .pointer (some ⟨SB, q, none⟩)) rfl (by kernel_rfl) (by kernel_rfl) (by kernel_rfl) (fun _ _ _ h => h) (Or.inl ⟨by rfl, fun W hS => by (obtain ⟨s0, s1, s2⟩ := hS; go_simp)⟩) HS1.out ?_
      simp only [Act.put, List.setIfInBounds_toArray, List.set_cons_zero, List.set_cons_succ]
      refine wpAnyH_take (i := 4) (oi := ⟨some 28, _, _, _, _, _⟩) (v := .int .i64 u) rfl (by kernel_rfl) (by kernel_rfl) (by kernel_rfl) (fun _ _ _ h => h) (Or.inl ⟨by rfl, fun W hS => by (obtain ⟨s0, s1, s2⟩ := hS; go_simp)⟩) HS1.out ?_
      simp only [Act.put, List.setIfInBounds_toArray, List.set_cons_zero, List.set_cons_succ]
      refine wpAnyH_ready (rs := [5]) (by kernel_rfl) (by simp) ?_
      refine AllReadyH.cons rfl (fun K hK => ?_) AllReadyH.nil
      go_simp
      refine (note_all HD.out m.ms.length u (noteTo m os k) w6 HUL.out HKP.out (by have := cntB_le (noteTo m os k); have := HKP.out; omega) HEd.out HRd.out).mono ?_
      rintro e w7 ⟨rfl, hkk, hr⟩
      have HFIN : Hid (Ntg (w.heap.size + 1 + 1) w5 (noteTo m os (k + 1)) w7) := hide ⟨HKd.out.trans hkk, by rw [HNX.out]; exact hr⟩
      have HS3 := hide (HSF.out _ (HEd.out.kept hkk))
      clear hkk hr
      refine hK.out _ _ HS3.out (fun _ => ?_)
      clear hK K
      refine wpAnyH_done (by kernel_rfl) ?_ _
      go_wp2_with fail
      exact ⟨⟨k + 1, by omega, by go_num, HFIN⟩, by simp [intOf]; omega⟩
    · have hki : ¬ (k : Int) < (os.length : Int) := by omega
      obtain rfl : k = os.length := by omega
      have HEr := hide (HENV.out.kept hc.out.kept)
      have aA := HEr.out.a
      go_wp2_with fail
      go_ret
      have hz := Below.toKept HB5.out hc.out.kept (by omega) HB5.out.size
      exact ⟨⟨_, rfl, by omega, hc.out.row⟩, hz⟩
end Go.Proofs.Ytlnmemeejgnbeaa
