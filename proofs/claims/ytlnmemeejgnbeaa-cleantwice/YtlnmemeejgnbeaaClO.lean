/-
  CONTRACT of the closure in needed.
-/
import Derived.Test.YtlnmemeejgnbeaaClAl
set_option linter.unusedSimpArgs false
set_option linter.unusedVariables false
namespace Go.Proofs.Ytlnmemeejgnbeaa
open Go.RowKit

/-- how many are not noted yet -/
def cntB : List Bool → Nat
  | [] => 0
  | b :: l => (if b then 0 else 1) + cntB l
theorem cntB_set : ∀ (l : List Bool) (i : Nat), i < l.length → bit l i = false → cntB (l.set i true) + 1 = cntB l
  | [], i, h, _ => absurd h (Nat.not_lt_zero _)
  | v :: l, 0, _, h => by
    have h' : v = false := by simpa [bit] using h
    subst h'
    simp [cntB]; omega
  | v :: l, i + 1, h, h2 => by
    have ih := cntB_set l i (by simpa using h) (by simpa [bit] using h2)
    simp [cntB]; omega
theorem cntB_set_le : ∀ (l : List Bool) (i : Nat), cntB (l.set i true) ≤ cntB l
  | [], i => by simp [cntB]
  | v :: l, 0 => by simp [cntB]
  | v :: l, i + 1 => by
    have := cntB_set_le l i
    simp only [List.set_cons_succ, cntB]; omega
theorem cntB_le : ∀ l : List Bool, cntB l ≤ l.length
  | [] => Nat.le_refl _
  | v :: l => by
    have := cntB_le l
    simp only [cntB, List.length_cons]
    split <;> omega
theorem note_keeps (m : Mk) : ∀ (f : Nat) (v : Int) (nd : List Bool), (noteF m f v nd).length = nd.length ∧ cntB (noteF m f v nd) ≤ cntB nd
  | 0, v, nd => ⟨rfl, Nat.le_refl _⟩
  | f + 1, v, nd => by
    have hl : (nd.set v.toNat true).length = nd.length := List.length_set
    have hc := cntB_set_le nd v.toNat
    rw [noteF]
    split
    · exact ⟨rfl, Nat.le_refl _⟩
    split
    · obtain ⟨a, b⟩ := note_keeps m f (kAt m.st (mAt m.ms v).next) (nd.set v.toNat true)
      exact ⟨a.trans hl, Nat.le_trans b hc⟩
    split
    · obtain ⟨a, b⟩ := note_keeps m f (mAt m.ms v).a (nd.set v.toNat true)
      exact ⟨a.trans hl, Nat.le_trans b hc⟩
    split
    · obtain ⟨a, b⟩ := note_keeps m f (mAt m.ms v).a (nd.set v.toNat true)
      obtain ⟨a', b'⟩ := note_keeps m f (mAt m.ms v).b (noteF m f (mAt m.ms v).a (nd.set v.toNat true))
      exact ⟨a'.trans (a.trans hl), Nat.le_trans b' (Nat.le_trans b hc)⟩
    · exact ⟨hl, hc⟩
/-- of a maker that is done -/
structure MkDone (m : Mk) : Prop where
  ahead : Ahead m.ms
  all : ∀ i, i < m.st.length → In m.ms (outAt m.st i)
  regs : ∀ k, k < m.ms.length → (ndAt m.ms k).op = 4 → ∃ q : Nat, (ndAt m.ms k).next = q ∧ q < m.st.length
  few : m.ms.length ≤ 90000 ∧ m.st.length ≤ 90000
/-- what the closure is given -/
structure NEnv (W : World) (A Mb D Sx NB P SB : Nat) (na : Option Addr) (nc : Nat) (m : Mk) : Prop where
  a : W.cell? ⟨A, 0, none⟩ = some (.slice (some ⟨NB, 0, none⟩) m.ms.length m.ms.length)
  b : W.cell? ⟨Mb, 0, none⟩ = some (.pointer (some ⟨P, 0, none⟩))
  c : W.cell? ⟨D, 0, none⟩ = some (.func (.func 38) #[] #[.pointer (some ⟨A, 0, none⟩), .pointer (some ⟨Mb, 0, none⟩), .pointer (some ⟨D, 0, none⟩), .pointer (some ⟨Sx, 0, none⟩)])
  d : W.cell? ⟨Sx, 0, none⟩ = some (.slice (some ⟨SB, 0, none⟩) m.st.length m.st.length)
  p : W.cell? ⟨P, 0, none⟩ = some (.slice na m.ms.length nc)
  row : Lies (fun b => b ≠ NB) W na (ndsC m.ms)
  st : W.heap[SB]? = some (.cells (intsC m.st).toArray 3 (0, 0))
  ne : A ≠ NB ∧ Mb ≠ NB ∧ D ≠ NB ∧ Sx ≠ NB ∧ P ≠ NB ∧ SB ≠ NB
theorem NEnv.kept {W W' : World} {A Mb D Sx NB P SB : Nat} {na : Option Addr} {nc : Nat} {m : Mk} (h : NEnv W A Mb D Sx NB P SB na nc m) (hk : Kept NB W W') : NEnv W' A Mb D Sx NB P SB na nc m := by
  obtain ⟨n1, n2, n3, n4, n5, n6⟩ := h.ne
  exact ⟨hk.cell h.a n1, hk.cell h.b n2, hk.cell h.c n3, hk.cell h.d n4, hk.cell h.p n5, h.row.same fun b hb hl => hk.block b hl hb, hk.blk h.st n6, h.ne⟩
theorem bits_cellN {w : World} {b : Nat} {l : List Bool} {t : TypeId} {z : Nat × Nat} (h : w.heap[b]? = some (.cells (bitsC l).toArray t z)) {i : Nat} (hi : i < l.length) : w.cell? ⟨b, i, none⟩ = some (.bool (bit l i)) := bits_cell h hi
abbrev NoteIs (A Mb D Sx NB : Nat) (v : Nat) (w : World) (nd : List Bool) : Prop :=
  Calls Try.prog 38 #[.int .i64 v, .pointer (some ⟨A, 0, none⟩), .pointer (some ⟨Mb, 0, none⟩), .pointer (some ⟨D, 0, none⟩), .pointer (some ⟨Sx, 0, none⟩)] w fun e w' => e = .returned (.tuple #[]) ∧ Kept NB w w' ∧ w'.heap[NB]? = some (.cells (bitsC nd).toArray 4 (0, 0))
def NoteOK (A Mb D Sx NB P SB : Nat) (na : Option Addr) (nc : Nat) (m : Mk) (f : Nat) : Prop := ∀ (v : Nat) (nd : List Bool) (w : World), v < m.ms.length → nd.length = m.ms.length → cntB nd ≤ f → NEnv w A Mb D Sx NB P SB na nc m → w.heap[NB]? = some (.cells (bitsC nd).toArray 4 (0, 0)) →
  NoteIs A Mb D Sx NB v w (noteF m f v nd)

set_option maxRecDepth 100000 in
set_option maxHeartbeats 1600000 in
theorem note_was {A Mb D Sx NB P SB : Nat} {na : Option Addr} {nc : Nat} {m : Mk} (v : Nat) (nd : List Bool) (w : World) (hv : v < m.ms.length) (hl : nd.length = m.ms.length) (he : NEnv w A Mb D Sx NB P SB na nc m) (hR : w.heap[NB]? = some (.cells (bitsC nd).toArray 4 (0, 0))) (hb : bit nd v = true) : NoteIs A Mb D Sx NB v w nd := by
  have ci := bits_cellN hR (show v < nd.length by omega)
  rw [hb] at ci
  have b0 := he.a
  have hvi : (v : Int) < (m.ms.length : Int) := by omega
  have HR := hide hR
  clear he hR hb hl hv
  go_enter Try.func38, Try.ntmps38
  go_wp2_with fail
  refine bodyPost_ret (results_none rfl _ _ _) rfl ?_
  exact ⟨rfl, Kept.refl _ _, HR.out⟩

set_option maxRecDepth 100000 in
set_option maxHeartbeats 3200000 in
theorem note_8 {A Mb D Sx NB P SB : Nat} {na : Option Addr} {nc : Nat} {m : Mk} (f : Nat) (IH : NoteOK A Mb D Sx NB P SB na nc m f) (v : Nat) (nd : List Bool) (w : World) (hv : v < m.ms.length) (hl : nd.length = m.ms.length) (hc : cntB nd ≤ f + 1) (he : NEnv w A Mb D Sx NB P SB na nc m) (hR : w.heap[NB]? = some (.cells (bitsC nd).toArray 4 (0, 0))) (hb : bit nd v = false) (b nx : Int) (q : Nat) (hx : ndAt m.ms v = ⟨8, (q : Int), b, nx⟩) (hq : q < m.ms.length) : NoteIs A Mb D Sx NB v w (noteF m f (q : Int) (nd.set v true)) := by
  have ci := bits_cellN hR (show v < nd.length by omega)
  rw [hb] at ci
  have b0 := he.a
  have hvi : (v : Int) < (m.ms.length : Int) := by omega
  have fz := blk_frozen hR v
  have HSET : Hid ((w.setCell ⟨NB, v, none⟩ (.bool true)).heap[NB]? = some (.cells (bitsC (nd.set v true)).toArray 4 (0, 0))) := hide (by rw [blk_set hR, bits_set])
  have HK1 : Hid (Kept NB w (w.setCell ⟨NB, v, none⟩ (.bool true))) := hide (Kept.set _ _ _)
  have HE1 := hide (he.kept HK1.out)
  have HL1 : Hid ((nd.set v true).length = m.ms.length) := hide (by rw [List.length_set]; exact hl)
  have HC1 : Hid (cntB (nd.set v true) ≤ f) := hide (by have := cntB_set nd v (by omega) hb; omega)
  obtain ⟨bb, off, rfl, _, hbl, n0, n1, n2, n3⟩ := HE1.out.row.nodes hv
  rw [hx] at n0 n1 n2 n3
  simp only at n0 n1 n2 n3
  have b1 := HE1.out.b
  have b2 := HE1.out.p
  have HB2 := hide (below_alloc (w.setCell ⟨NB, v, none⟩ (.bool true)) (.cells #[.int .i64 8, .int .i64 q, .int .i64 b, .int .i64 nx] 26))
  have HX2 := hide (blk_new (w.setCell ⟨NB, v, none⟩ (.bool true)) (.cells #[.int .i64 8, .int .i64 q, .int .i64 b, .int .i64 nx] 26))
  have HE2 := hide (HE1.out.kept (Kept.of HB2.out))
  have HR2 := hide (Below.blk HB2.out HSET.out)
  have HK2 := hide (HK1.out.below HB2.out)
  have HIH := hide IH
  have HQ := hide hq
  clear he hR hb hl hv hc hx HE1 IH hq
  have b3 := HE2.out.c
  go_enter Try.func38, Try.ntmps38
  go_wp2_with fail
  refine (HIH.out q _ _ HQ.out HL1.out HC1.out HE2.out HR2.out).mono ?_
  rintro e w3 ⟨rfl, hk, hr⟩
  have HFIN : Hid (Kept NB w w3 ∧ _) := hide ⟨HK2.out.trans hk, hr⟩
  clear hk hr b3 HIH
  go_wp2_with fail
  first
    | (refine bodyPost_ret (results_none rfl _ _ _) rfl ?_; exact ⟨rfl, HFIN.out⟩)
    | (go_end0; exact ⟨rfl, HFIN.out⟩)

set_option maxRecDepth 100000 in
set_option maxHeartbeats 3200000 in
theorem note_5 {A Mb D Sx NB P SB : Nat} {na : Option Addr} {nc : Nat} {m : Mk} (f : Nat) (IH : NoteOK A Mb D Sx NB P SB na nc m f) (v : Nat) (nd : List Bool) (w : World) (hv : v < m.ms.length) (hl : nd.length = m.ms.length) (hc : cntB nd ≤ f + 1) (he : NEnv w A Mb D Sx NB P SB na nc m) (hR : w.heap[NB]? = some (.cells (bitsC nd).toArray 4 (0, 0))) (hb : bit nd v = false) (nx : Int) (q r : Nat) (hx : ndAt m.ms v = ⟨5, (q : Int), (r : Int), nx⟩) (hq : q < m.ms.length) (hr : r < m.ms.length) : NoteIs A Mb D Sx NB v w (noteF m f (r : Int) (noteF m f (q : Int) (nd.set v true))) := by
  have ci := bits_cellN hR (show v < nd.length by omega)
  rw [hb] at ci
  have b0 := he.a
  have hvi : (v : Int) < (m.ms.length : Int) := by omega
  have fz := blk_frozen hR v
  have HSET : Hid ((w.setCell ⟨NB, v, none⟩ (.bool true)).heap[NB]? = some (.cells (bitsC (nd.set v true)).toArray 4 (0, 0))) := hide (by rw [blk_set hR, bits_set])
  have HK1 : Hid (Kept NB w (w.setCell ⟨NB, v, none⟩ (.bool true))) := hide (Kept.set _ _ _)
  have HE1 := hide (he.kept HK1.out)
  have HL1 : Hid ((nd.set v true).length = m.ms.length) := hide (by rw [List.length_set]; exact hl)
  have HC1 : Hid (cntB (nd.set v true) ≤ f) := hide (by have := cntB_set nd v (by omega) hb; omega)
  obtain ⟨bb, off, rfl, _, hbl, n0, n1, n2, n3⟩ := HE1.out.row.nodes hv
  rw [hx] at n0 n1 n2 n3
  simp only at n0 n1 n2 n3
  have b1 := HE1.out.b
  have b2 := HE1.out.p
  have HB2 := hide (below_alloc (w.setCell ⟨NB, v, none⟩ (.bool true)) (.cells #[.int .i64 5, .int .i64 q, .int .i64 r, .int .i64 nx] 26))
  have HX2 := hide (blk_new (w.setCell ⟨NB, v, none⟩ (.bool true)) (.cells #[.int .i64 5, .int .i64 q, .int .i64 r, .int .i64 nx] 26))
  have HE2 := hide (HE1.out.kept (Kept.of HB2.out))
  have HR2 := hide (Below.blk HB2.out HSET.out)
  have HK2 := hide (HK1.out.below HB2.out)
  have HIH := hide IH
  have HQ := hide hq
  have HRR := hide hr
  clear he hR hb hl hv hc hx HE1 IH hq hr
  have b3 := HE2.out.c
  have HNW : Hid (w.heap.size ≠ NB) := hide (by have := blk_lt HSET.out; simp [World.setCell] at this; omega)
  have HW2 : Hid (((w.setCell ⟨NB, v, none⟩ (.bool true)).alloc (.cells #[.int .i64 5, .int .i64 q, .int .i64 r, .int .i64 nx] 26)).heap[w.heap.size]? = some (.cells #[.int .i64 5, .int .i64 q, .int .i64 r, .int .i64 nx] 26 (0, 0))) := hide (by have := HX2.out; simpa [World.setCell] using this)
  go_enter Try.func38, Try.ntmps38
  go_wp2_with fail
  refine (HIH.out q _ _ HQ.out HL1.out HC1.out HE2.out HR2.out).mono ?_
  rintro e w3 ⟨rfl, hk, hr⟩
  have HK3 := hide (HK2.out.trans hk)
  have HE3 := hide (HE2.out.kept hk)
  have HR3 := hide hr
  have HX3 := hide (hk.blk HW2.out HNW.out)
  have HKP := hide (note_keeps m f (q : Int) (nd.set v true))
  have x2 : w3.cell? ⟨w.heap.size, 2, none⟩ = some (.int .i64 r) := by rw [blk_cell HX3.out]; rfl
  have b4 := HE3.out.c
  clear hk hr b3 b0 b1 b2 fz ci n0 n1 n2 n3
  go_wp2_with fail
  refine (HIH.out r _ _ HRR.out (HKP.out.1.trans HL1.out) (Nat.le_trans HKP.out.2 HC1.out) HE3.out HR3.out).mono ?_
  rintro e w4 ⟨rfl, hk, hr⟩
  have HFIN : Hid (Kept NB w w4 ∧ _) := hide ⟨HK3.out.trans hk, hr⟩
  clear hk hr b4 x2 HIH
  go_wp2_with fail
  first
    | (refine bodyPost_ret (results_none rfl _ _ _) rfl ?_; exact ⟨rfl, HFIN.out⟩)
    | (go_end0; exact ⟨rfl, HFIN.out⟩)

set_option maxRecDepth 100000 in
set_option maxHeartbeats 3200000 in
theorem note_6 {A Mb D Sx NB P SB : Nat} {na : Option Addr} {nc : Nat} {m : Mk} (f : Nat) (IH : NoteOK A Mb D Sx NB P SB na nc m f) (v : Nat) (nd : List Bool) (w : World) (hv : v < m.ms.length) (hl : nd.length = m.ms.length) (hc : cntB nd ≤ f + 1) (he : NEnv w A Mb D Sx NB P SB na nc m) (hR : w.heap[NB]? = some (.cells (bitsC nd).toArray 4 (0, 0))) (hb : bit nd v = false) (nx : Int) (q r : Nat) (hx : ndAt m.ms v = ⟨6, (q : Int), (r : Int), nx⟩) (hq : q < m.ms.length) (hr : r < m.ms.length) : NoteIs A Mb D Sx NB v w (noteF m f (r : Int) (noteF m f (q : Int) (nd.set v true))) := by
  have ci := bits_cellN hR (show v < nd.length by omega)
  rw [hb] at ci
  have b0 := he.a
  have hvi : (v : Int) < (m.ms.length : Int) := by omega
  have fz := blk_frozen hR v
  have HSET : Hid ((w.setCell ⟨NB, v, none⟩ (.bool true)).heap[NB]? = some (.cells (bitsC (nd.set v true)).toArray 4 (0, 0))) := hide (by rw [blk_set hR, bits_set])
  have HK1 : Hid (Kept NB w (w.setCell ⟨NB, v, none⟩ (.bool true))) := hide (Kept.set _ _ _)
  have HE1 := hide (he.kept HK1.out)
  have HL1 : Hid ((nd.set v true).length = m.ms.length) := hide (by rw [List.length_set]; exact hl)
  have HC1 : Hid (cntB (nd.set v true) ≤ f) := hide (by have := cntB_set nd v (by omega) hb; omega)
  obtain ⟨bb, off, rfl, _, hbl, n0, n1, n2, n3⟩ := HE1.out.row.nodes hv
  rw [hx] at n0 n1 n2 n3
  simp only at n0 n1 n2 n3
  have b1 := HE1.out.b
  have b2 := HE1.out.p
  have HB2 := hide (below_alloc (w.setCell ⟨NB, v, none⟩ (.bool true)) (.cells #[.int .i64 6, .int .i64 q, .int .i64 r, .int .i64 nx] 26))
  have HX2 := hide (blk_new (w.setCell ⟨NB, v, none⟩ (.bool true)) (.cells #[.int .i64 6, .int .i64 q, .int .i64 r, .int .i64 nx] 26))
  have HE2 := hide (HE1.out.kept (Kept.of HB2.out))
  have HR2 := hide (Below.blk HB2.out HSET.out)
  have HK2 := hide (HK1.out.below HB2.out)
  have HIH := hide IH
  have HQ := hide hq
  have HRR := hide hr
  clear he hR hb hl hv hc hx HE1 IH hq hr
  have b3 := HE2.out.c
  have HNW : Hid (w.heap.size ≠ NB) := hide (by have := blk_lt HSET.out; simp [World.setCell] at this; omega)
  have HW2 : Hid (((w.setCell ⟨NB, v, none⟩ (.bool true)).alloc (.cells #[.int .i64 6, .int .i64 q, .int .i64 r, .int .i64 nx] 26)).heap[w.heap.size]? = some (.cells #[.int .i64 6, .int .i64 q, .int .i64 r, .int .i64 nx] 26 (0, 0))) := hide (by have := HX2.out; simpa [World.setCell] using this)
  go_enter Try.func38, Try.ntmps38
  go_wp2_with fail
  refine (HIH.out q _ _ HQ.out HL1.out HC1.out HE2.out HR2.out).mono ?_
  rintro e w3 ⟨rfl, hk, hr⟩
  have HK3 := hide (HK2.out.trans hk)
  have HE3 := hide (HE2.out.kept hk)
  have HR3 := hide hr
  have HX3 := hide (hk.blk HW2.out HNW.out)
  have HKP := hide (note_keeps m f (q : Int) (nd.set v true))
  have x2 : w3.cell? ⟨w.heap.size, 2, none⟩ = some (.int .i64 r) := by rw [blk_cell HX3.out]; rfl
  have b4 := HE3.out.c
  clear hk hr b3 b0 b1 b2 fz ci n0 n1 n2 n3
  go_wp2_with fail
  refine (HIH.out r _ _ HRR.out (HKP.out.1.trans HL1.out) (Nat.le_trans HKP.out.2 HC1.out) HE3.out HR3.out).mono ?_
  rintro e w4 ⟨rfl, hk, hr⟩
  have HFIN : Hid (Kept NB w w4 ∧ _) := hide ⟨HK3.out.trans hk, hr⟩
  clear hk hr b4 x2 HIH
  go_wp2_with fail
  first
    | (refine bodyPost_ret (results_none rfl _ _ _) rfl ?_; exact ⟨rfl, HFIN.out⟩)
    | (go_end0; exact ⟨rfl, HFIN.out⟩)

set_option maxRecDepth 100000 in
set_option maxHeartbeats 3200000 in
theorem note_7 {A Mb D Sx NB P SB : Nat} {na : Option Addr} {nc : Nat} {m : Mk} (f : Nat) (IH : NoteOK A Mb D Sx NB P SB na nc m f) (v : Nat) (nd : List Bool) (w : World) (hv : v < m.ms.length) (hl : nd.length = m.ms.length) (hc : cntB nd ≤ f + 1) (he : NEnv w A Mb D Sx NB P SB na nc m) (hR : w.heap[NB]? = some (.cells (bitsC nd).toArray 4 (0, 0))) (hb : bit nd v = false) (nx : Int) (q r : Nat) (hx : ndAt m.ms v = ⟨7, (q : Int), (r : Int), nx⟩) (hq : q < m.ms.length) (hr : r < m.ms.length) : NoteIs A Mb D Sx NB v w (noteF m f (r : Int) (noteF m f (q : Int) (nd.set v true))) := by
  have ci := bits_cellN hR (show v < nd.length by omega)
  rw [hb] at ci
  have b0 := he.a
  have hvi : (v : Int) < (m.ms.length : Int) := by omega
  have fz := blk_frozen hR v
  have HSET : Hid ((w.setCell ⟨NB, v, none⟩ (.bool true)).heap[NB]? = some (.cells (bitsC (nd.set v true)).toArray 4 (0, 0))) := hide (by rw [blk_set hR, bits_set])
  have HK1 : Hid (Kept NB w (w.setCell ⟨NB, v, none⟩ (.bool true))) := hide (Kept.set _ _ _)
  have HE1 := hide (he.kept HK1.out)
  have HL1 : Hid ((nd.set v true).length = m.ms.length) := hide (by rw [List.length_set]; exact hl)
  have HC1 : Hid (cntB (nd.set v true) ≤ f) := hide (by have := cntB_set nd v (by omega) hb; omega)
  obtain ⟨bb, off, rfl, _, hbl, n0, n1, n2, n3⟩ := HE1.out.row.nodes hv
  rw [hx] at n0 n1 n2 n3
  simp only at n0 n1 n2 n3
  have b1 := HE1.out.b
  have b2 := HE1.out.p
  have HB2 := hide (below_alloc (w.setCell ⟨NB, v, none⟩ (.bool true)) (.cells #[.int .i64 7, .int .i64 q, .int .i64 r, .int .i64 nx] 26))
  have HX2 := hide (blk_new (w.setCell ⟨NB, v, none⟩ (.bool true)) (.cells #[.int .i64 7, .int .i64 q, .int .i64 r, .int .i64 nx] 26))
  have HE2 := hide (HE1.out.kept (Kept.of HB2.out))
  have HR2 := hide (Below.blk HB2.out HSET.out)
  have HK2 := hide (HK1.out.below HB2.out)
  have HIH := hide IH
  have HQ := hide hq
  have HRR := hide hr
  clear he hR hb hl hv hc hx HE1 IH hq hr
  have b3 := HE2.out.c
  have HNW : Hid (w.heap.size ≠ NB) := hide (by have := blk_lt HSET.out; simp [World.setCell] at this; omega)
  have HW2 : Hid (((w.setCell ⟨NB, v, none⟩ (.bool true)).alloc (.cells #[.int .i64 7, .int .i64 q, .int .i64 r, .int .i64 nx] 26)).heap[w.heap.size]? = some (.cells #[.int .i64 7, .int .i64 q, .int .i64 r, .int .i64 nx] 26 (0, 0))) := hide (by have := HX2.out; simpa [World.setCell] using this)
  go_enter Try.func38, Try.ntmps38
  go_wp2_with fail
  refine (HIH.out q _ _ HQ.out HL1.out HC1.out HE2.out HR2.out).mono ?_
  rintro e w3 ⟨rfl, hk, hr⟩
  have HK3 := hide (HK2.out.trans hk)
  have HE3 := hide (HE2.out.kept hk)
  have HR3 := hide hr
  have HX3 := hide (hk.blk HW2.out HNW.out)
  have HKP := hide (note_keeps m f (q : Int) (nd.set v true))
  have x2 : w3.cell? ⟨w.heap.size, 2, none⟩ = some (.int .i64 r) := by rw [blk_cell HX3.out]; rfl
  have b4 := HE3.out.c
  clear hk hr b3 b0 b1 b2 fz ci n0 n1 n2 n3
  go_wp2_with fail
  refine (HIH.out r _ _ HRR.out (HKP.out.1.trans HL1.out) (Nat.le_trans HKP.out.2 HC1.out) HE3.out HR3.out).mono ?_
  rintro e w4 ⟨rfl, hk, hr⟩
  have HFIN : Hid (Kept NB w w4 ∧ _) := hide ⟨HK3.out.trans hk, hr⟩
  clear hk hr b4 x2 HIH
  go_wp2_with fail
  first
    | (refine bodyPost_ret (results_none rfl _ _ _) rfl ?_; exact ⟨rfl, HFIN.out⟩)
    | (go_end0; exact ⟨rfl, HFIN.out⟩)

set_option maxRecDepth 100000 in
set_option maxHeartbeats 3200000 in
theorem note_4 {A Mb D Sx NB P SB : Nat} {na : Option Addr} {nc : Nat} {m : Mk} (f : Nat) (IH : NoteOK A Mb D Sx NB P SB na nc m f) (v : Nat) (nd : List Bool) (w : World) (hv : v < m.ms.length) (hl : nd.length = m.ms.length) (hc : cntB nd ≤ f + 1) (he : NEnv w A Mb D Sx NB P SB na nc m) (hR : w.heap[NB]? = some (.cells (bitsC nd).toArray 4 (0, 0))) (hb : bit nd v = false) (a b : Int) (q : Nat) (hx : ndAt m.ms v = ⟨4, a, b, (q : Int)⟩) (hq : q < m.st.length) (u : Nat) (hu : outAt m.st q = u) (hul : u < m.ms.length) : NoteIs A Mb D Sx NB v w (noteF m f (u : Int) (nd.set v true)) := by
  have ci := bits_cellN hR (show v < nd.length by omega)
  rw [hb] at ci
  have b0 := he.a
  have hvi : (v : Int) < (m.ms.length : Int) := by omega
  have fz := blk_frozen hR v
  have HSET : Hid ((w.setCell ⟨NB, v, none⟩ (.bool true)).heap[NB]? = some (.cells (bitsC (nd.set v true)).toArray 4 (0, 0))) := hide (by rw [blk_set hR, bits_set])
  have HK1 : Hid (Kept NB w (w.setCell ⟨NB, v, none⟩ (.bool true))) := hide (Kept.set _ _ _)
  have HE1 := hide (he.kept HK1.out)
  have HL1 : Hid ((nd.set v true).length = m.ms.length) := hide (by rw [List.length_set]; exact hl)
  have HC1 : Hid (cntB (nd.set v true) ≤ f) := hide (by have := cntB_set nd v (by omega) hb; omega)
  obtain ⟨bb, off, rfl, _, hbl, n0, n1, n2, n3⟩ := HE1.out.row.nodes hv
  rw [hx] at n0 n1 n2 n3
  simp only at n0 n1 n2 n3
  have b1 := HE1.out.b
  have b2 := HE1.out.p
  have HB2 := hide (below_alloc (w.setCell ⟨NB, v, none⟩ (.bool true)) (.cells #[.int .i64 4, .int .i64 a, .int .i64 b, .int .i64 q] 26))
  have HX2 := hide (blk_new (w.setCell ⟨NB, v, none⟩ (.bool true)) (.cells #[.int .i64 4, .int .i64 a, .int .i64 b, .int .i64 q] 26))
  have HE2 := hide (HE1.out.kept (Kept.of HB2.out))
  have HR2 := hide (Below.blk HB2.out HSET.out)
  have HK2 := hide (HK1.out.below HB2.out)
  have HIH := hide IH
  have hqi : (q : Int) < (m.st.length : Int) := by omega
  have cq := ints_cellN HE2.out.st hq
  rw [hu] at cq
  have HUL := hide hul
  have hu' := hu
  have hq' := hq
  clear he hR hb hl hv hc hx HE1 IH hq hu hul
  have HNW : Hid (w.heap.size ≠ NB) := hide (by have := blk_lt HSET.out; simp [World.setCell] at this; omega)
  have HW2 : Hid (((w.setCell ⟨NB, v, none⟩ (.bool true)).alloc (.cells #[.int .i64 4, .int .i64 a, .int .i64 b, .int .i64 q] 26)).heap[w.heap.size]? = some (.cells #[.int .i64 4, .int .i64 a, .int .i64 b, .int .i64 q] 26 (0, 0))) := hide (by have := HX2.out; simpa [World.setCell] using this)
  have HQL : Hid (outAt m.st q = u ∧ q < m.st.length) := hide ⟨hu', hq'⟩
  have HS : Hid (∀ W : World, NEnv W A Mb D Sx NB P SB (some ⟨bb, off, none⟩) nc m → W.heap[w.heap.size]? = some (.cells #[.int .i64 4, .int .i64 a, .int .i64 b, .int .i64 q] 26 (0, 0)) → (fun W : World => W.cell? ⟨D, 0, none⟩ = some (.func (.func 38) #[] #[.pointer (some ⟨A, 0, none⟩), .pointer (some ⟨Mb, 0, none⟩), .pointer (some ⟨D, 0, none⟩), .pointer (some ⟨Sx, 0, none⟩)]) ∧ W.cell? ⟨Sx, 0, none⟩ = some (.slice (some ⟨SB, 0, none⟩) m.st.length m.st.length) ∧ W.cell? ⟨w.heap.size, 3, none⟩ = some (.int .i64 q) ∧ W.cell? ⟨SB, q, none⟩ = some (.int .i64 u)) W) := hide fun W h0 h1 => by
    refine ⟨h0.c, h0.d, ?_, ?_⟩
    · rw [blk_cell h1]; rfl
    · rw [← HQL.out.1]; exact ints_cellN h0.st HQL.out.2
  go_enter Try.func38, Try.ntmps38
  go_wp2_with fail
  have HE2d := hide (HE2.out.kept (Kept.of (Below.refl _ _).drew))
  have HR2d := hide (Below.blk ((Below.refl _ _).drew) HR2.out)
  have HW2d := hide (Below.blk ((Below.refl _ _).drew) HW2.out)
  have HK2d := hide (HK2.out.below ((Below.refl _ _).drew))
  have HS1 := hide (HS.out _ HE2d.out HW2d.out)
  clear b0 b1 b2 fz ci n0 n1 n2 n3 cq HE2 HR2 HW2 HK2 HX2 HB2
  refine wp_region_held_drew (S := (fun W : World => W.cell? ⟨D, 0, none⟩ = some (.func (.func 38) #[] #[.pointer (some ⟨A, 0, none⟩), .pointer (some ⟨Mb, 0, none⟩), .pointer (some ⟨D, 0, none⟩), .pointer (some ⟨Sx, 0, none⟩)]) ∧ W.cell? ⟨Sx, 0, none⟩ = some (.slice (some ⟨SB, 0, none⟩) m.st.length m.st.length) ∧ W.cell? ⟨w.heap.size, 3, none⟩ = some (.int .i64 q) ∧ W.cell? ⟨SB, q, none⟩ = some (.int .i64 u))) (by kernel_rfl) HS1.out (fun _ => ?_)
  generalize ((w.setCell ⟨NB, v, none⟩ (.bool true)).alloc (.cells #[.int .i64 4, .int .i64 a, .int .i64 b, .int .i64 q] 26)).drew = w2 at *
  refine wpAnyH_take (i := 0) (oi := ⟨some 25, _, _, _, _, _⟩) (v := .func (.func 38) #[] #[.pointer (some ⟨A, 0, none⟩), .pointer (some ⟨Mb, 0, none⟩), .pointer (some ⟨D, 0, none⟩), .pointer (some ⟨Sx, 0, none⟩)]) rfl (by kernel_rfl) (by kernel_rfl) (by kernel_rfl) (fun _ _ _ h => h) (Or.inl ⟨by rfl, fun W hS => by (obtain ⟨s0, s1, s2, s3⟩ := hS; go_simp)⟩) HS1.out ?_
  simp only [Act.put, List.setIfInBounds_toArray, List.set_cons_zero, List.set_cons_succ]
  refine wpAnyH_take (i := 1) (oi := ⟨some 26, _, _, _, _, _⟩) (v := .slice (some ⟨SB, 0, none⟩) m.st.length m.st.length) rfl (by kernel_rfl) (by kernel_rfl) (by kernel_rfl) (fun _ _ _ h => h) (Or.inl ⟨by rfl, fun W hS => by (obtain ⟨s0, s1, s2, s3⟩ := hS; go_simp)⟩) HS1.out ?_
  simp only [Act.put, List.setIfInBounds_toArray, List.set_cons_zero, List.set_cons_succ]
  refine wpAnyH_take (i := 2) (oi := ⟨some 27, _, _, _, _, _⟩) (v := .pointer (some ⟨w.heap.size, 3, none⟩)) rfl (by kernel_rfl) (by kernel_rfl) (by kernel_rfl) (fun _ _ _ h => h) (Or.inl ⟨by rfl, fun W hS => by (obtain ⟨s0, s1, s2, s3⟩ := hS; go_simp)⟩) HS1.out ?_
  simp only [Act.put, List.setIfInBounds_toArray, List.set_cons_zero, List.set_cons_succ]
  refine wpAnyH_take (i := 3) (oi := ⟨some 28, _, _, _, _, _⟩) (v := .int .i64 q) rfl (by kernel_rfl) (by kernel_rfl) (by kernel_rfl) (fun _ _ _ h => h) (Or.inl ⟨by rfl, fun W hS => by (obtain ⟨s0, s1, s2, s3⟩ := hS; go_simp)⟩) HS1.out ?_
  simp only [Act.put, List.setIfInBounds_toArray, List.set_cons_zero, List.set_cons_succ]
  refine wpAnyH_take (i := 4) (oi := ⟨some 29, _, _, _, _, _⟩) (v := .pointer (some ⟨SB, q, none⟩)) rfl (by kernel_rfl) (by kernel_rfl) (by kernel_rfl) (fun _ _ _ h => h) (Or.inl ⟨by rfl, fun W hS => by (obtain ⟨s0, s1, s2, s3⟩ := hS; go_simp)⟩) HS1.out ?_
  simp only [Act.put, List.setIfInBounds_toArray, List.set_cons_zero, List.set_cons_succ]
  refine wpAnyH_take (i := 5) (oi := ⟨some 30, _, _, _, _, _⟩) (v := .int .i64 u) rfl (by kernel_rfl) (by kernel_rfl) (by kernel_rfl) (fun _ _ _ h => h) (Or.inl ⟨by rfl, fun W hS => by (obtain ⟨s0, s1, s2, s3⟩ := hS; go_simp)⟩) HS1.out ?_
  simp only [Act.put, List.setIfInBounds_toArray, List.set_cons_zero, List.set_cons_succ]
  refine wpAnyH_ready (rs := [6]) (by kernel_rfl) (by simp) ?_
  refine AllReadyH.cons rfl (fun K hK => ?_) AllReadyH.nil
  go_simp
  refine (HIH.out u _ _ HUL.out HL1.out HC1.out HE2d.out HR2d.out).mono ?_
  rintro e w3 ⟨rfl, hk, hr⟩
  have HFIN : Hid (Kept NB w w3 ∧ _) := hide ⟨HK2d.out.trans hk, hr⟩
  have HS3 := hide (HS.out _ (HE2d.out.kept hk) (hk.blk HW2d.out HNW.out))
  clear hk hr HIH
  refine hK.out _ _ HS3.out (fun _ => ?_)
  clear hK K
  refine wpAnyH_done (by kernel_rfl) ?_ _
  go_wp2_with fail
  first
    | (refine bodyPost_ret (results_none rfl _ _ _) rfl ?_; exact ⟨rfl, HFIN.out⟩)
    | (go_end0; exact ⟨rfl, HFIN.out⟩)

set_option maxRecDepth 100000 in
set_option maxHeartbeats 3200000 in
theorem note_n {A Mb D Sx NB P SB : Nat} {na : Option Addr} {nc : Nat} {m : Mk} (f : Nat)  (v : Nat) (nd : List Bool) (w : World) (hv : v < m.ms.length) (hl : nd.length = m.ms.length) (hc : cntB nd ≤ f + 1) (he : NEnv w A Mb D Sx NB P SB na nc m) (hR : w.heap[NB]? = some (.cells (bitsC nd).toArray 4 (0, 0))) (hb : bit nd v = false) (op a b nx : Int) (hx : ndAt m.ms v = ⟨op, a, b, nx⟩) (g4 : (op == 4) = false) (g8 : (op == 8) = false) (g5 : (op == 5) = false) (g6 : (op == 6) = false) (g7 : (op == 7) = false) : NoteIs A Mb D Sx NB v w (nd.set v true) := by
  have ci := bits_cellN hR (show v < nd.length by omega)
  rw [hb] at ci
  have b0 := he.a
  have hvi : (v : Int) < (m.ms.length : Int) := by omega
  have fz := blk_frozen hR v
  have HSET : Hid ((w.setCell ⟨NB, v, none⟩ (.bool true)).heap[NB]? = some (.cells (bitsC (nd.set v true)).toArray 4 (0, 0))) := hide (by rw [blk_set hR, bits_set])
  have HK1 : Hid (Kept NB w (w.setCell ⟨NB, v, none⟩ (.bool true))) := hide (Kept.set _ _ _)
  have HE1 := hide (he.kept HK1.out)
  have HL1 : Hid ((nd.set v true).length = m.ms.length) := hide (by rw [List.length_set]; exact hl)
  have HC1 : Hid (cntB (nd.set v true) ≤ f) := hide (by have := cntB_set nd v (by omega) hb; omega)
  obtain ⟨bb, off, rfl, _, hbl, n0, n1, n2, n3⟩ := HE1.out.row.nodes hv
  rw [hx] at n0 n1 n2 n3
  simp only at n0 n1 n2 n3
  have b1 := HE1.out.b
  have b2 := HE1.out.p
  have HB2 := hide (below_alloc (w.setCell ⟨NB, v, none⟩ (.bool true)) (.cells #[.int .i64 op, .int .i64 a, .int .i64 b, .int .i64 nx] 26))
  have HX2 := hide (blk_new (w.setCell ⟨NB, v, none⟩ (.bool true)) (.cells #[.int .i64 op, .int .i64 a, .int .i64 b, .int .i64 nx] 26))
  have HE2 := hide (HE1.out.kept (Kept.of HB2.out))
  have HR2 := hide (Below.blk HB2.out HSET.out)
  have HK2 := hide (HK1.out.below HB2.out)
  clear he hR hb hl hv hc hx HE1 
  go_enter Try.func38, Try.ntmps38
  go_wp2_with fail
  first
    | (refine bodyPost_ret (results_none rfl _ _ _) rfl ?_; exact ⟨rfl, HK2.out, HR2.out⟩)
    | (go_end0; exact ⟨rfl, HK2.out, HR2.out⟩)

theorem note_all {A Mb D Sx NB P SB : Nat} {na : Option Addr} {nc : Nat} {m : Mk} (hd : MkDone m) : ∀ f, NoteOK A Mb D Sx NB P SB na nc m f
  | 0 => by
    intro v nd w hv hl hc he hR
    have hb : bit nd v = true := by
      cases h : bit nd v
      · have := cntB_set nd v (by omega) h; omega
      · rfl
    exact note_was v nd w hv hl he hR hb
  | f + 1 => by
    intro v nd w hv hl hc he hR
    have IH := note_all (A := A) (Mb := Mb) (D := D) (Sx := Sx) (NB := NB) (P := P) (SB := SB) (na := na) (nc := nc) hd f
    rw [noteF, Int.toNat_natCast]
    cases hb : bit nd v
    · rw [if_neg (by simp)]
      have hm : mAt m.ms (v : Int) = ndAt m.ms v := by simp [mAt]
      have ah := hd.ahead.2 v hv
      have rg := hd.regs v hv
      rw [hm]
      generalize hx : ndAt m.ms v = x at *
      obtain ⟨op, a, b, nx⟩ := x
      simp only at *
      by_cases c4 : op = 4
      · subst c4
        rw [if_pos rfl]
        obtain ⟨q, rfl, hq⟩ := rg rfl
        rw [kAt_n]
        have hi := hd.all q hq
        obtain ⟨u, hu⟩ := Int.eq_ofNat_of_zero_le hi.1
        rw [hu]
        exact note_4 f IH v nd w hv hl hc he hR hb a b q hx hq u hu (by have := hi.2; omega)
      rw [if_neg c4]
      by_cases c8 : op = 8
      · subst c8
        rw [if_pos rfl]
        have h8 := ah.1 rfl
        obtain ⟨q, rfl⟩ := Int.eq_ofNat_of_zero_le h8.1
        exact note_8 f IH v nd w hv hl hc he hR hb b nx q hx (by omega)
      rw [if_neg c8]
      by_cases c2 : isTwo op = true
      · rw [if_pos c2]
        have h8 := ah.2 c2
        obtain ⟨q, rfl⟩ := Int.eq_ofNat_of_zero_le h8.1.1
        obtain ⟨r, rfl⟩ := Int.eq_ofNat_of_zero_le h8.2.1
        rcases two_cases c2 with e | e | e
        · subst e; exact note_5 f IH v nd w hv hl hc he hR hb nx q r hx (by omega) (by omega)
        · subst e; exact note_6 f IH v nd w hv hl hc he hR hb nx q r hx (by omega) (by omega)
        · subst e; exact note_7 f IH v nd w hv hl hc he hR hb nx q r hx (by omega) (by omega)
      rw [if_neg c2]
      have cc : (op == 5) = false ∧ (op == 6) = false ∧ (op == 7) = false := by
        simp [isTwo] at c2 ⊢
        exact c2
      exact note_n f v nd w hv hl hc he hR hb op a b nx hx (by simp [c4]) (by simp [c8]) cc.1 cc.2.1 cc.2.2
    · rw [if_pos rfl]
      exact note_was v nd w hv hl he hR hb
end Go.Proofs.Ytlnmemeejgnbeaa
