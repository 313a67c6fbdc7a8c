/-
  CONTRACT of join.
-/
import Derived.Test.YtacgepdmhdcdkaaLRw
import Derived.Test.YtacgepdmhdcdkaaLPkR
import Derived.Lib.QuietBelow
set_option linter.unusedSimpArgs false
set_option linter.unusedVariables false
namespace Go.Proofs.Ytacgepdmhdcdkaa
open Go.RowKit

/-- what join has in memory: its two tables, its result's box, the box of its row of signals (of m), the row itself (of n) -/
structure JnAt (w : World) (a b : Lt) (la lb : Option Addr) (ca cb N8 : Nat) (va : Option Addr) (m n vc : Nat) (l : List Int) (w' : World) : Prop where
  A : LtA w.heap.size la a.ins.length ca a.table w'
  B : LtA (w.heap.size + 1) lb b.ins.length cb b.table w'
  R : LtA (w.heap.size + 1 + 1) none 0 0 0 w'
  c8 : w'.heap[N8]? = some (.cells #[.slice va m vc] 24 (0, 0))
  row : RowI (w.heap.size + 4) w' va n vc l
  g8 : ∀ g, va = some ⟨g, 0, none⟩ → g < N8
  n8 : w.heap.size + 4 ≤ N8
  bel : Below w.heap.size w w'
theorem JnAt.turn {w : World} {a b : Lt} {la lb : Option Addr} {ca cb N8 : Nat} {va : Option Addr} {m n vc : Nat} {l : List Int} {w' w'' : World} (h : JnAt w a b la lb ca cb N8 va m n vc l w') {n' : Nat} {l' : List Int} (r : RowI (w.heap.size + 4) w'' va n' vc l') (k : KeptO va w' w'') : JnAt w a b la lb ca cb N8 va m n' vc l' w'' :=
  have hg := h.row.ge
  ⟨k.blk h.A fun g e => by have := hg g e; omega, k.blk h.B fun g e => by have := hg g e; omega, k.blk h.R fun g e => by have := hg g e; omega, k.blk h.c8 fun g e => by have := h.g8 g e; omega, r, h.g8, h.n8, h.bel.trans (k.below (fun g e => by have := hg g e; omega) h.bel.size)⟩
theorem JnAt.kept {w : World} {a b : Lt} {la lb : Option Addr} {ca cb N8 : Nat} {va : Option Addr} {m n vc : Nat} {l : List Int} {w' w'' : World} (h : JnAt w a b la lb ca cb N8 va m n vc l w') {R : Nat} (k : Kept R w' w'') (hR : N8 < R) : JnAt w a b la lb ca cb N8 va m n vc l w'' :=
  have hn := h.n8
  ⟨k.blk h.A (by omega), k.blk h.B (by omega), k.blk h.R (by omega), k.blk h.c8 (by omega), h.row.kept k fun g e => by have := h.g8 g e; omega, h.g8, h.n8, h.bel.trans ⟨k.os, k.tape, k.output, k.size, fun i hi => k.block i (Nat.lt_of_lt_of_le hi h.bel.size) (by omega)⟩⟩
theorem JnAt.below {w : World} {a b : Lt} {la lb : Option Addr} {ca cb N8 : Nat} {va : Option Addr} {m n vc : Nat} {l : List Int} {w' w'' : World} (h : JnAt w a b la lb ca cb N8 va m n vc l w') (k : Below w'.heap.size w' w'') : JnAt w a b la lb ca cb N8 va m n vc l w'' :=
  ⟨Below.blk k h.A, Below.blk k h.B, Below.blk k h.R, Below.blk k h.c8, h.row.below k, h.g8, h.n8, Below.step h.bel k⟩
theorem JnAt.store {w : World} {a b : Lt} {la lb : Option Addr} {ca cb N8 : Nat} {va : Option Addr} {m n vc : Nat} {l : List Int} {w' : World} (h : JnAt w a b la lb ca cb N8 va m n vc l w') (q : Nat) : JnAt w a b la lb ca cb N8 va q n vc l (w'.setCell ⟨N8, 0, none⟩ (.slice va q vc)) :=
  have hn := h.n8
  have k : Kept N8 w' (w'.setCell ⟨N8, 0, none⟩ (.slice va q vc)) := Kept.set w' 0 _
  ⟨k.blk h.A (by omega), k.blk h.B (by omega), k.blk h.R (by omega), by rw [blk_set h.c8]; rfl, h.row.kept k fun g e => by have := h.g8 g e; omega, h.g8, h.n8, h.bel.setCell (by show w.heap.size ≤ N8; omega) _⟩

theorem results_row_tmp {P : Program} {fn : Func} {p t : Tmp} {ty : TypeId} (h : fn.results = #[.cell p ty, .tmp t]) (tmps : Array Value) (w : World) (g : Nat) (t0 : TypeId) (cs : Array Value) (fr : Nat × Nat) (d : TypeDesc)
    (hp : tmps.getD p undef = .pointer (some ⟨g, 0, none⟩)) (hg : w.heap[g]? = some (.cells cs t0 fr))
    (hu : P.underlying ty = some d) (hd : (match d with | .struct _ | .array _ _ => true | _ => false) = true) (hi : (P.info? ty).map (·.size) = some cs.size) :
    (results fn tmps).run P w = .ok (.tuple #[.agg cs, tmps.getD t undef]) w := by
  have hp' : tmps[p]?.getD undef = .pointer (some ⟨g, 0, none⟩) := by simpa using hp
  simp [results, h, hp', asAddr, run_loadVar_row w g t0 ty cs fr d hg hu hd hi]
theorem RowI.from {B C : Nat} {w : World} {va : Option Addr} {n vc : Nat} {l : List Int} (h : RowI B w va n vc l) (hc : C ≤ B) : RowI C w va n vc l := by
  rcases h with h | ⟨g, e, h⟩
  · exact .inl h
  · exact .inr ⟨g, e, h.mine.from hc, h.len⟩
theorem LtA.set1 {L : Nat} {a : Option Addr} {n c : Nat} {t : Int} {w : World} (h : LtA L a n c t w) (t' : Int) : LtA L a n c t' (w.setCell ⟨L, 1, none⟩ (.int .i64 t')) := by unfold LtA; rw [blk_set h _ _]; rfl
theorem LtA.below {L : Nat} {a : Option Addr} {n c : Nat} {t : Int} {w w' : World} (h : LtA L a n c t w) (hb : Below w.heap.size w w') : LtA L a n c t w' := Below.blk hb h
theorem join_or (h k : Nat) (hk : k < 16) (hl : h < 2 ^ k) : bits .or .i64 (h : Int) ((2 ^ k : Nat) : Int) = ((h + 2 ^ k : Nat) : Int) := by
  have hp : 2 ^ k ≤ 32768 := Nat.pow_le_pow_right (n := 2) (by decide) (show k ≤ 15 by omega)
  rw [i64_orT _ _ (by omega) (by omega), Nat.or_comm, nat_join k (2 ^ k) h (Nat.mod_self _) hl]
  congr 1
  omega
theorem shl_nat16 (k : Nat) (hk : k < 16) : wrap64 (2 ^ k) = ((2 ^ k : Nat) : Int) := by
  have hp : 2 ^ k ≤ 32768 := Nat.pow_le_pow_right (n := 2) (by decide) (show k ≤ 15 by omega)
  have e3 : (2 : Int) ^ k = ((2 ^ k : Nat) : Int) := by simp
  rw [e3]; generalize (2 ^ k : Nat) = m at *; unfold wrap64; omega

set_option maxRecDepth 100000 in
set_option maxHeartbeats 6400000 in
theorem join_at {S T : Nat → Prop} (op : Int) (a b : Lt) (la lb : Option Addr) (ca cb : Nat) (w : World) (ha : Lies S w la (intsC a.ins)) (hb : Lies T w lb (intsC b.ins)) (hwa : Way a) (hwb : Way b) :
    Calls Try.prog 39 #[.int .i64 op, .agg #[.slice la a.ins.length ca, .int .i64 a.table], .agg #[.slice lb b.ins.length cb, .int .i64 b.table]] w fun e w' => ((e = .returned (.tuple #[.agg #[.slice none 0 0, .int .i64 0], .bool false]) ∧ 4 < a.ins.length + b.ins.length) ∨ ∃ (l' : Lt) (va : Option Addr) (vc : Nat), e = .returned (.tuple #[.agg #[.slice va l'.ins.length vc, .int .i64 l'.table], .bool true]) ∧ RowI w.heap.size w' va l'.ins.length vc l'.ins ∧ Joined2 op a b l') ∧ Below w.heap.size w w' := by
  have HA := hide ha
  have HB := hide hb
  have HWA := hide hwa
  have HWB := hide hwb
  have ha4 := hwa.n4
  have hb4 := hwb.n4
  clear ha hb hwa hwb
  have hblk : ∀ i, i < 4 → (((((w.alloc (.cells #[.slice la a.ins.length ca, .int .i64 a.table] 44)).alloc (.cells #[.slice lb b.ins.length cb, .int .i64 b.table] 44)).alloc (.cells #[.slice none 0 0, .int .i64 0] 44)).alloc (.cells #[.slice la a.ins.length ca, .slice lb b.ins.length cb] 24)).heap[w.heap.size + i]? = (#[Obj.cells #[.slice la a.ins.length ca, .int .i64 a.table] 44 (0, 0), .cells #[.slice lb b.ins.length cb, .int .i64 b.table] 44 (0, 0), .cells #[.slice none 0 0, .int .i64 0] 44 (0, 0), .cells #[.slice la a.ins.length ca, .slice lb b.ins.length cb] 24 (0, 0)] : Array Obj)[i]?) := by
    intro i hi
    obtain rfl | rfl | rfl | rfl : i = 0 ∨ i = 1 ∨ i = 2 ∨ i = 3 := by omega
    · exact Below.blk (below_alloc _ _) (Below.blk (below_alloc _ _) (Below.blk (below_alloc _ _) (blk_new _ _)))
    · exact Below.blk (below_alloc _ _) (Below.blk (below_alloc _ _) (by
        have := blk_new (w.alloc (.cells #[.slice la a.ins.length ca, .int .i64 a.table] 44)) (.cells #[.slice lb b.ins.length cb, .int .i64 b.table] 44)
        rwa [show (w.alloc (.cells #[.slice la a.ins.length ca, .int .i64 a.table] 44)).heap.size = w.heap.size + 1 by simp] at this))
    · exact Below.blk (below_alloc _ _) (by
        have := blk_new ((w.alloc (.cells #[.slice la a.ins.length ca, .int .i64 a.table] 44)).alloc (.cells #[.slice lb b.ins.length cb, .int .i64 b.table] 44)) (.cells #[.slice none 0 0, .int .i64 0] 44)
        rwa [show ((w.alloc (.cells #[.slice la a.ins.length ca, .int .i64 a.table] 44)).alloc (.cells #[.slice lb b.ins.length cb, .int .i64 b.table] 44)).heap.size = w.heap.size + 2 by simp] at this)
    · have := blk_new (((w.alloc (.cells #[.slice la a.ins.length ca, .int .i64 a.table] 44)).alloc (.cells #[.slice lb b.ins.length cb, .int .i64 b.table] 44)).alloc (.cells #[.slice none 0 0, .int .i64 0] 44)) (.cells #[.slice la a.ins.length ca, .slice lb b.ins.length cb] 24)
      rwa [show (((w.alloc (.cells #[.slice la a.ins.length ca, .int .i64 a.table] 44)).alloc (.cells #[.slice lb b.ins.length cb, .int .i64 b.table] 44)).alloc (.cells #[.slice none 0 0, .int .i64 0] 44)).heap.size = w.heap.size + 3 by simp] at this
  have hbl : Below w.heap.size w ((((w.alloc (.cells #[.slice la a.ins.length ca, .int .i64 a.table] 44)).alloc (.cells #[.slice lb b.ins.length cb, .int .i64 b.table] 44)).alloc (.cells #[.slice none 0 0, .int .i64 0] 44)).alloc (.cells #[.slice la a.ins.length ca, .slice lb b.ins.length cb] 24)) := Below.step (Below.step (Below.step (below_alloc _ _) (below_alloc _ _)) (below_alloc _ _)) (below_alloc _ _)
  have hsz : ((((w.alloc (.cells #[.slice la a.ins.length ca, .int .i64 a.table] 44)).alloc (.cells #[.slice lb b.ins.length cb, .int .i64 b.table] 44)).alloc (.cells #[.slice none 0 0, .int .i64 0] 44)).alloc (.cells #[.slice la a.ins.length ca, .slice lb b.ins.length cb] 24)).heap.size = w.heap.size + 4 := by simp
  obtain ⟨W1, hW1⟩ : ∃ W, W = (((w.alloc (.cells #[.slice la a.ins.length ca, .int .i64 a.table] 44)).alloc (.cells #[.slice lb b.ins.length cb, .int .i64 b.table] 44)).alloc (.cells #[.slice none 0 0, .int .i64 0] 44)).alloc (.cells #[.slice la a.ins.length ca, .slice lb b.ins.length cb] 24) := ⟨_, rfl⟩
  rw [← hW1] at hblk hbl hsz
  have HA0 : Hid (LtA w.heap.size la a.ins.length ca a.table W1) := hide (hblk 0 (by decide))
  have HB0 : Hid (LtA (w.heap.size + 1) lb b.ins.length cb b.table W1) := hide (hblk 1 (by decide))
  have HR0 : Hid (LtA (w.heap.size + 1 + 1) none 0 0 0 W1) := hide (hblk 2 (by decide))
  have HBL := hide hbl
  have HCC := hide (concat_at (w.heap.size + 3) a.ins b.ins la lb ca cb W1 (hblk 3 (by decide)) (HA.out.below hbl) (HB.out.below hbl) ha4 hb4)
  have HZ := hide hsz
  clear hblk hbl hsz
  go_enter Try.func39, Try.ntmps39
  go_wp2_with fail
  rw [← hW1]
  clear hW1
  refine HCC.out.mono ?_
  rintro e w2 ⟨⟨va, vc, rfl, hmn⟩, hb2⟩
  obtain ⟨n, hn⟩ : ∃ n, n = a.ins.length + b.ins.length := ⟨_, rfl⟩
  rw [← hn] at hmn ⊢
  have HN := hide hn
  have hn8 : n ≤ 8 := by omega
  clear hn
  have HJ0 : Hid (JnAt w a b la lb ca cb w2.heap.size va n n vc (a.ins ++ b.ins) (w2.alloc (.cells #[.slice va n vc] 24))) := hide (by
    have hz := HZ.out
    have hs := hb2.size
    have hr := RowI.of hmn
    rw [hz] at hr hs
    have hb3 := below_alloc w2 (.cells #[.slice va n vc] 24)
    exact ⟨Below.blk hb3 (Below.blk hb2 HA0.out), Below.blk hb3 (Below.blk hb2 HB0.out), Below.blk hb3 (Below.blk hb2 HR0.out), blk_new _ _, hr.below hb3, hr.lt, hs, Below.step (Below.step HBL.out hb2) hb3⟩)
  clear hmn hb2 HCC HA0 HB0 HR0 HBL HZ
  go_wp2_with fail
  generalize hN8 : w2.heap.size = N8 at *
  generalize w2.alloc (.cells #[.slice va n vc] 24) = w3 at *
  clear hN8
  refine (sort_u HJ0.out.row (by omega)).mono ?_
  rintro e w4 ⟨rfl, ⟨l4, hr4, hp4⟩, hk4⟩
  have HJ4 := hide (HJ0.out.turn hr4 hk4)
  have HP4 := hide hp4
  have c8 : w4.cell? ⟨N8, 0, none⟩ = some (.slice va n vc) := by rw [blk_cell HJ4.out.c8]; rfl
  clear HJ0 hr4 hk4 hp4
  go_wp2_with fail
  refine (compact_u HJ4.out.row (by omega)).mono ?_
  rintro e w5 ⟨⟨k, l5, rfl, hr5, hk5, hm5⟩, hkk5⟩
  have HJ5a := hide (HJ4.out.turn hr5 hkk5)
  have HM5 : Hid (∀ x, x ∈ l5 ↔ x ∈ a.ins ∨ x ∈ b.ins) := hide fun x => (hm5 x).trans (HP4.out.mem_iff.trans List.mem_append)
  clear HJ4 hr5 hkk5 hm5 HP4 c8
  have c8 : w5.cell? ⟨N8, 0, none⟩ = some (.slice va n vc) := by rw [blk_cell HJ5a.out.c8]; rfl
  have f8 : w5.frozen? ⟨N8, 0, none⟩ = false := blk_frozen HJ5a.out.c8 0
  have HJ5 := hide (HJ5a.out.store k)
  clear HJ5a
  have hkl := HJ5.out.row.len
  subst hkl
  have HS5 : Hid ((w5.setCell ⟨N8, 0, none⟩ (.slice va l5.length vc)).heap.size = w5.heap.size) := hide (by simp)
  by_cases hk4 : 4 < l5.length
  · have hki : (4 : Int) < (l5.length : Int) := by omega
    have f0 : (w5.setCell ⟨N8, 0, none⟩ (.slice va l5.length vc)).frozen? ⟨w.heap.size + 1 + 1, 0, none⟩ = false := blk_frozen HJ5.out.R 0
    have f1 : (w5.setCell ⟨N8, 0, none⟩ (.slice va l5.length vc)).frozen? ⟨w.heap.size + 1 + 1, 1, none⟩ = false := blk_frozen HJ5.out.R 1
    have r0 := HJ5.out.R.c0
    have r1 := HJ5.out.R.c1
    have HRS := hide (HJ5.out.R.set none 0 0 0)
    have HBE : Hid (Below w.heap.size w (((w5.setCell ⟨N8, 0, none⟩ (.slice va l5.length vc)).setCell ⟨w.heap.size + 1 + 1, 0, none⟩ (.slice none 0 0)).setCell ⟨w.heap.size + 1 + 1, 1, none⟩ (.int .i64 0))) := hide ((HJ5.out.bel.setCell (by show w.heap.size ≤ w.heap.size + 1 + 1; omega) _).setCell (by show w.heap.size ≤ w.heap.size + 1 + 1; omega) _)
    go_wp2_with fail
    refine bodyPost_ret (results_row_tmp rfl _ _ (w.heap.size + 1 + 1) _ _ (0, 0) _ rfl HRS.out Try.underlying44 rfl (by kernel_rfl)) rfl ?_
    exact ⟨.inl ⟨rfl, by have := HN.out; omega⟩, HBE.out⟩
  · have hki : (l5.length : Int) ≤ 4 := by omega
    have c8b : ((w5.setCell ⟨N8, 0, none⟩ (.slice va l5.length vc)).alloc (.cells #[.slice va l5.length vc, .int .i64 0] 44)).cell? ⟨N8, 0, none⟩ = some (.slice va l5.length vc) := cell_alloc (by rw [blk_cell HJ5.out.c8]; rfl) _
    have HL9 : Hid (LtA w5.heap.size va l5.length vc 0 ((w5.setCell ⟨N8, 0, none⟩ (.slice va l5.length vc)).alloc (.cells #[.slice va l5.length vc, .int .i64 0] 44))) := hide (by
      have := blk_new (w5.setCell ⟨N8, 0, none⟩ (.slice va l5.length vc)) (.cells #[.slice va l5.length vc, .int .i64 0] 44)
      rwa [HS5.out] at this)
    have HJ6 := hide (HJ5.out.below (below_alloc (w5.setCell ⟨N8, 0, none⟩ (.slice va l5.length vc)) (.cells #[.slice va l5.length vc, .int .i64 0] 44)))
    have hN89 : N8 < w5.heap.size := by have := blk_lt HJ5.out.c8; rwa [HS5.out] at this
    have HJO := hide (joined_of (op := op) HWA.out HWB.out (by omega) HM5.out)
    have HSH := hide (shl_nat16 l5.length (by omega))
    go_wp2_with fail
    rw [HSH.out]
    generalize (w5.setCell ⟨N8, 0, none⟩ (.slice va l5.length vc)).alloc (.cells #[.slice va l5.length vc, .int .i64 0] 44) = w6 at *
    generalize w5.heap.size = X9 at *
    have hp16 : 2 ^ l5.length ≤ 16 := Nat.pow_le_pow_right (n := 2) (by decide) (show l5.length ≤ 4 by omega)
    generalize hPP : 2 ^ l5.length = P at *
    have HPP := hide hPP
    clear HJ5 HSH HS5 c8 f8 c8b hk4 hPP
    go_loopw [31, 11] (fun i _ wr => ∃ k : Nat, k ≤ P ∧ i = .int .i64 k ∧ Hid (JnAt w a b la lb ca cb N8 va l5.length l5.length vc l5 wr) ∧ Hid (LtA X9 va l5.length vc (joinTo op l5 a b k : Nat) wr)) (fun i _ _ => P - (intOf i).toNat)
    case atStart => exact ⟨0, Nat.zero_le _, rfl, HJ6, HL9⟩
    case round =>
      clear HJ6 HL9
      obtain ⟨k, hk, rfl, hj, hl9⟩ := hrel
      by_cases hlt : k < P
      · have hki2 : (k : Int) < (P : Int) := by omega
        have hbx := below_alloc wr (.cells #[.int .i64 k] 3)
        have HJB := hide (hj.out.below hbx)
        have HLB := hide (hl9.out.below hbx)
        have HXB := hide (blk_new wr (.cells #[.int .i64 k] 3))
        have hX9 : X9 < wr.heap.size := blk_lt hl9.out
        have hN8r : N8 < wr.heap.size := blk_lt hj.out.c8
        clear hj hl9 hbx
        go_wp2_with fail
        generalize hWX : wr.alloc (.cells #[.int .i64 k] 3) = W at *
        generalize wr.heap.size = X10 at *
        have HWX := hide hWX
        clear hWX
        have HJK : Hid (JkAt X10 N8 va vc l5 k W) := hide ⟨by rw [blk_cell HXB.out]; rfl, by rw [blk_cell HJB.out.c8]; rfl, HJB.out.row.lies.any⟩
        have HBW := HJB.out.bel
        have HCA : Hid (∀ d o, Calls Try.prog 30 #[.agg #[.slice la a.ins.length ca, .int .i64 a.table], .func (.func 50) #[] #[.pointer (some ⟨X10, 0, none⟩), .pointer (some ⟨N8, 0, none⟩)]] (Sort.grow (redrawn W d) o) fun e w'' => e = .returned (.bool (bitL (lookJ l5 k) a)) ∧ ∃ p : Regrown, w'' = Sort.grow (redrawn W p.d) p.os) := hide fun d o => Calls.regrown_of (by
          have hg := among_of (m := l5) (a := a) fun x hx => ⟨HWA.out.pos x hx, (HM5.out x).2 (.inl hx)⟩
          exact jbit_at (HJK.out.below (below_regrown W d o)) (by omega) la a.ins ca a.table (HA.out.below (Below.step HBW (below_regrown W d o))) (by omega) hg HWA.out.t0 HWA.out.tlt)
        have HCB : Hid (∀ d o, Calls Try.prog 30 #[.agg #[.slice lb b.ins.length cb, .int .i64 b.table], .func (.func 50) #[] #[.pointer (some ⟨X10, 0, none⟩), .pointer (some ⟨N8, 0, none⟩)]] (Sort.grow (redrawn W d) o) fun e w'' => e = .returned (.bool (bitL (lookJ l5 k) b)) ∧ ∃ p : Regrown, w'' = Sort.grow (redrawn W p.d) p.os) := hide fun d o => Calls.regrown_of (by
          have hg := among_of (m := l5) (a := b) fun x hx => ⟨HWB.out.pos x hx, (HM5.out x).2 (.inr hx)⟩
          exact jbit_at (HJK.out.below (below_regrown W d o)) (by omega) lb b.ins cb b.table (HB.out.below (Below.step HBW (below_regrown W d o))) (by omega) hg HWB.out.t0 HWB.out.tlt)
        have HCG : Hid (∀ d o (x y : Bool), Calls Try.prog 52 #[.int .i64 op, .bool x, .bool y] (Sort.grow (redrawn W d) o) fun e w'' => e = .returned (.bool (gatedP op x y)) ∧ ∃ p : Regrown, w'' = Sort.grow (redrawn W p.d) p.os) := hide fun d o x y => Calls.regrown_of ((gated_at op x y _).mono (by
          rintro e w' ⟨rfl, rfl⟩
          exact ⟨rfl, Below.refl _ _⟩))
        have q0 := cell_regrown HJB.out.A.c0
        have q1 := cell_regrown HJB.out.A.c1
        have q2 := cell_regrown HJB.out.B.c0
        have q3 := cell_regrown HJB.out.B.c1
        have HNX : Hid (joinTo op l5 a b (k + 1) = joinTo op l5 a b k + (if gatedP op (bitL (lookJ l5 k) a) (bitL (lookJ l5 k) b) then 2 ^ k else 0)) := hide rfl
        have HLT := hide (joinTo_lt op l5 a b k)
        clear HBW HM5 HA HB HWA HWB HJK
        generalize bitL (lookJ l5 k) a = ba at *
        generalize bitL (lookJ l5 k) b = bb at *
        refine wp_region_quiet_below (by kernel_rfl) (by kernel_rfl) ?_
        repeat (quiet_step (first | (with_reducible exact HCA.out _ _) | (with_reducible exact HCB.out _ _) | (with_reducible exact HCG.out _ _ _ _)))
        refine wpQuiet_nil ?_
        intro _ hw'
        obtain ⟨⟨dq, osq⟩, hw''⟩ := hw'
        subst hw''
        have HJ8 := hide (HJB.out.below (below_regrown W dq osq))
        have HL8 := hide (HLB.out.below (below_regrown W dq osq))
        have HX8 := hide (Below.blk (below_regrown W dq osq) HXB.out)
        clear q0 q1 q2 q3 HCA HCB HCG HJB HLB HXB HWX
        generalize Sort.grow (redrawn W dq) osq = w8 at *
        cases hg : gatedP op ba bb with
        | false =>
          rw [hg] at HNX
          go_wp2_with fail
          exact ⟨⟨k + 1, by omega, by go_num, HJ8, by rw [HNX.out]; exact HL8⟩, by simp [intOf]; omega⟩
        | true =>
          rw [hg] at HNX
          have x0 : w8.cell? ⟨X10, 0, none⟩ = some (.int .i64 k) := by rw [blk_cell HX8.out]; rfl
          have x1 := HL8.out.c1
          have f1 : w8.frozen? ⟨X9, 1, none⟩ = false := blk_frozen HL8.out 1
          have HOR := hide (join_or (joinTo op l5 a b k) k (by omega) HLT.out)
          have HSK := hide (shl_nat16 k (by omega))
          have HRE : Hid (∀ w9, Kept X9 w8 w9 → JnAt w a b la lb ca cb N8 va l5.length l5.length vc l5 w9) := hide fun w9 h9 => HJ8.out.kept h9 hN89
          have HRL : Hid (∀ t', LtA X9 va l5.length vc t' (w8.setCell ⟨X9, 1, none⟩ (.int .i64 t'))) := hide fun t' => HL8.out.set1 t'
          clear HJ8 HL8 HX8 HLT
          go_wp2_with fail
          go_region
          go_wp2_with fail
          rw [HSK.out, HOR.out]
          refine ⟨⟨k + 1, by omega, by go_num, ?_, ?_⟩, by simp [intOf]; omega⟩
          · exact hide (HRE.out _ ((Kept.set w8 1 _).below (Below.refl _ _).drew))
          · rw [HNX.out]
            exact hide ((HRL.out _).below (Below.refl _ _).drew)
      · have HK : Hid (k = P) := hide (by omega)
        have HSU := hide (short_u (B := w.heap.size + 4) ⟨l5, (joinTo op l5 a b k : Nat)⟩ hj.out.row (by rw [HK.out]; exact HJO.out.way) (Nat.le_trans hj.out.n8 (Nat.le_of_lt (blk_lt hj.out.c8))))
        simp only at HSU
        have x0 := hl9.out.c0
        have x1 := hl9.out.c1
        clear HA HB HWA HWB HM5
        go_wp2_with fail
        refine HSU.out.mono ?_
        rintro e w8 ⟨⟨l', rfl, hr8, hl8⟩, hb8⟩
        have HRR : Hid (LtA (w.heap.size + 1 + 1) none 0 0 0 w8) := hide ((hb8.block _ (by omega)).trans hj.out.R)
        have HBE8 : Hid (Below w.heap.size w w8) := hide (hj.out.bel.trans (hb8.mono (Nat.le_add_right _ _)))
        have f0 : w8.frozen? ⟨w.heap.size + 1 + 1, 0, none⟩ = false := blk_frozen HRR.out 0
        have f1 : w8.frozen? ⟨w.heap.size + 1 + 1, 1, none⟩ = false := blk_frozen HRR.out 1
        have r0 := HRR.out.c0
        have r1 := HRR.out.c1
        have HRS := hide (HRR.out.set va l'.ins.length vc l'.table)
        have HROW : Hid (RowI w.heap.size ((w8.setCell ⟨w.heap.size + 1 + 1, 0, none⟩ (.slice va l'.ins.length vc)).setCell ⟨w.heap.size + 1 + 1, 1, none⟩ (.int .i64 l'.table)) va l'.ins.length vc l'.ins) := hide ((hr8.kept ((Kept.set w8 0 _).trans (Kept.set (R := w.heap.size + 1 + 1) _ 1 _)) fun g e => by have := hr8.ge g e; omega).from (Nat.le_add_right _ _))
        have HBE : Hid (Below w.heap.size w ((w8.setCell ⟨w.heap.size + 1 + 1, 0, none⟩ (.slice va l'.ins.length vc)).setCell ⟨w.heap.size + 1 + 1, 1, none⟩ (.int .i64 l'.table))) := hide ((HBE8.out.setCell (by show w.heap.size ≤ w.heap.size + 1 + 1; omega) _).setCell (by show w.heap.size ≤ w.heap.size + 1 + 1; omega) _)
        have HJL : Hid (Joined2 op a b l') := hide (by rw [HK.out] at hl8; exact HJO.out.less hl8)
        clear hr8 hl8 hb8 HSU hj hl9 x0 x1 HJO HRR HBE8
        go_wp2_with fail
        refine bodyPost_ret (results_row_tmp rfl _ _ (w.heap.size + 1 + 1) _ _ (0, 0) _ rfl HRS.out Try.underlying44 rfl (by kernel_rfl)) rfl ?_
        exact ⟨.inr ⟨l', va, vc, rfl, HROW.out, HJL.out⟩, HBE.out⟩
end Go.Proofs.Ytacgepdmhdcdkaa
