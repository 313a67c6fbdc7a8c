/-
  CONTRACTS of compare's leaves: cmp.Compare, slices.Compare, cmp.Or, what is needed; behind, depth.
-/
import Derived.Test.YtacgepdmhdcdkaaLSr
import Derived.Test.YtacgepdmhdcdkaaLPkR
import Derived.Lib.MinMax
set_option linter.unusedSimpArgs false
set_option linter.unusedVariables false
namespace Go.Proofs.Ytacgepdmhdcdkaa
open Go.RowKit

set_option maxRecDepth 100000 in
set_option maxHeartbeats 1600000 in
theorem ccmp_at (a b : Int) (w : World) : Calls Try.prog 57 #[.int .i64 a, .int .i64 b] w fun e w' => (∃ r : Int, e = .returned (.int .i64 r)) ∧ w' = w := by
  have HA := hide (isnan_at a w)
  have HB := hide (isnan_at b w)
  by_cases h1 : a < b
  · go_enter Try.func57, Try.ntmps57
    go_wp2_with fail
    refine HA.out.mono ?_
    rintro e w' ⟨rfl, rfl⟩
    go_wp2_with fail
    refine HB.out.mono ?_
    rintro e w' ⟨rfl, rfl⟩
    go_wp2_with fail
    go_ret
    exact ⟨⟨_, rfl⟩, rfl⟩
  · by_cases h2 : b < a
    · go_enter Try.func57, Try.ntmps57
      go_wp2_with fail
      refine HA.out.mono ?_
      rintro e w' ⟨rfl, rfl⟩
      go_wp2_with fail
      refine HB.out.mono ?_
      rintro e w' ⟨rfl, rfl⟩
      go_wp2_with fail
      go_ret
      exact ⟨⟨_, rfl⟩, rfl⟩
    · have h3 : a = b := by omega
      subst h3
      go_enter Try.func57, Try.ntmps57
      go_wp2_with fail
      refine HA.out.mono ?_
      rintro e w' ⟨rfl, rfl⟩
      go_wp2_with fail
      refine HB.out.mono ?_
      rintro e w' ⟨rfl, rfl⟩
      go_wp2_with fail
      go_ret
      exact ⟨⟨_, rfl⟩, rfl⟩

set_option maxRecDepth 100000 in
set_option maxHeartbeats 3200000 in
theorem scmp_at {S T : Nat → Prop} (l m : List Int) (la ma : Option Addr) (lc mc : Nat) (w : World) (hl : Lies S w la (intsC l)) (hm : Lies T w ma (intsC m)) (hl4 : l.length ≤ 10000) (hm4 : m.length ≤ 10000) :
    Calls Try.prog 58 #[.slice la l.length lc, .slice ma m.length mc] w fun e w' => (∃ r : Int, e = .returned (.int .i64 r)) ∧ w' = w := by
  have HL := hide hl
  have HM := hide hm
  clear hl hm
  go_enter Try.func58, Try.ntmps58
  go_wp2_with fail
  go_loopw [5, 6, 7, 8, 11] (fun _ _ _ _ i wr => ∃ k : Nat, k ≤ l.length ∧ i = .int .i64 k ∧ Hid (wr = w)) (fun _ _ _ _ i _ => l.length - (intOf i).toNat)
  case atStart => exact ⟨0, Nat.zero_le _, rfl, hide rfl⟩
  case round =>
    obtain ⟨k, hk, rfl, hw⟩ := hrel
    have hw := hw.out
    subst hw
    by_cases hlt : k < l.length
    · have hki : (k : Int) < (l.length : Int) := by omega
      obtain ⟨b, off, ha, _, hbl, n0⟩ := HL.out.ints hlt
      have HA := hide ha
      rw [HA.out]
      clear ha hbl
      by_cases hlm : k < m.length
      · have hkm : (k : Int) < (m.length : Int) := by omega
        obtain ⟨b2, off2, ha2, _, hbl2, n2⟩ := HM.out.ints hlm
        have HA2 := hide ha2
        rw [HA2.out]
        have HC := hide (ccmp_at (outAt l k) (outAt m k) wr)
        generalize outAt l k = x at *
        generalize outAt m k = y at *
        clear ha2 hbl2
        go_wp2_with fail
        refine HC.out.mono ?_
        rintro e w' ⟨⟨r, rfl⟩, rfl⟩
        by_cases hr : r = 0
        · subst hr
          go_wp2_with fail
          exact ⟨⟨k + 1, by omega, by go_num, hide trivial⟩, by simp [intOf]; omega⟩
        · have hrb : (r != 0) = true := by simpa using hr
          go_wp2_with fail
          go_ret
          exact ⟨⟨_, rfl⟩, rfl⟩
      · have hkm : (m.length : Int) ≤ (k : Int) := by omega
        go_wp2_with fail
        go_ret
        exact ⟨⟨_, rfl⟩, rfl⟩
    · have HK : Hid (k = l.length) := hide (by omega)
      by_cases hlm : l.length < m.length
      · have hkm : (l.length : Int) < (m.length : Int) := by omega
        go_wp2_with fail
        go_ret
        exact ⟨⟨_, rfl⟩, rfl⟩
      · have hkm : (m.length : Int) ≤ (l.length : Int) := by omega
        go_wp2_with fail
        go_ret
        exact ⟨⟨_, rfl⟩, rfl⟩

set_option maxRecDepth 100000 in
set_option maxHeartbeats 3200000 in
theorem or_at (X : Nat) (l : List Int) (w : World) (hx : w.heap[X]? = some (.cells (intsC l).toArray 3 (0, 0))) (hl : l.length ≤ 1000) :
    Calls Try.prog 56 #[.slice (some ⟨X, 0, none⟩) l.length l.length] w fun e w' => (∃ r : Int, e = .returned (.int .i64 r)) ∧ w' = w := by
  have HX := hide hx
  clear hx
  go_enter Try.func56, Try.ntmps56
  go_wp2_with fail
  go_loopw [5, 8] (fun _ i wr => ∃ k : Nat, k ≤ l.length ∧ i = .int .i64 k ∧ Hid (wr = w)) (fun _ i _ => l.length - (intOf i).toNat)
  case atStart => exact ⟨0, Nat.zero_le _, rfl, hide rfl⟩
  case round =>
    obtain ⟨k, hk, rfl, hw⟩ := hrel
    have hw := hw.out
    subst hw
    by_cases hlt : k < l.length
    · have hki : (k : Int) < (l.length : Int) := by omega
      have c0 : wr.cell? ⟨X, k, none⟩ = some (.int .i64 (outAt l k)) := by rw [blk_cell HX.out]; simp [intsC, outAt, hlt]
      generalize outAt l k = x at *
      by_cases hr : x = 0
      · subst hr
        go_wp2_with fail
        exact ⟨⟨k + 1, by omega, by go_num, hide trivial⟩, by simp [intOf]; omega⟩
      · have hrb : (x != 0) = true := by simpa using hr
        go_wp2_with fail
        go_ret
        exact ⟨⟨_, rfl⟩, rfl⟩
    · have HK : Hid (k = l.length) := hide (by omega)
      go_wp2_with fail
      go_ret
      exact ⟨⟨_, rfl⟩, rfl⟩

set_option maxRecDepth 100000 in
set_option maxHeartbeats 3200000 in
theorem need_at (l : Lt) (a : Option Addr) (c : Nat) (w : World) :
    Calls Try.prog 55 #[.agg #[.slice a l.ins.length c, .int .i64 l.table]] w fun e w' => (∃ r : Int, e = .returned (.int .i64 r)) ∧ Below w.heap.size w w' := by
  have HB := hide (below_alloc w (.cells #[.slice a l.ins.length c, .int .i64 l.table] 44))
  have HF := hide (free_at l a c (w.alloc (.cells #[.slice a l.ins.length c, .int .i64 l.table] 44)))
  have HX := hide (blk_new w (.cells #[.slice a l.ins.length c, .int .i64 l.table] 44))
  cases hf : freeL l with
  | true =>
    rw [hf] at HF
    go_enter Try.func55, Try.ntmps55
    go_wp2_with fail
    refine HF.out.mono ?_
    rintro e w1 ⟨rfl, hb1⟩
    have HB2 := hide (Below.step HB.out hb1)
    clear hb1
    go_wp2_with fail
    go_ret
    exact ⟨⟨_, rfl⟩, HB2.out⟩
  | false =>
    rw [hf] at HF
    go_enter Try.func55, Try.ntmps55
    go_wp2_with fail
    refine HF.out.mono ?_
    rintro e w1 ⟨rfl, hb1⟩
    have HB2 := hide (Below.step HB.out hb1)
    have c0 : w1.cell? ⟨w.heap.size, 0, none⟩ = some (.slice a l.ins.length c) := by rw [blk_cell (Below.blk hb1 HX.out)]; rfl
    clear hb1
    go_wp2_with fail
    go_ret
    exact ⟨⟨_, rfl⟩, HB2.out⟩
/-- the deepest of what a table looks at, as far as it is told -/
def behI (D ins : List Int) : Nat → Int
  | 0 => 0
  | k + 1 => max (behI D ins k) (outAt D (outAt ins k).toNat)
theorem behI_nn (D ins : List Int) (k : Nat) : 0 ≤ behI D ins k := by
  induction k with
  | zero => exact Int.le_refl _
  | succ k ih => simp only [behI]; omega
/-- how many tables lie behind one another up to a way's end -/
def deepI (D : List Int) (l : Lt) : Int := if freeL l then behI D l.ins l.ins.length else 1 + behI D l.ins l.ins.length

set_option maxRecDepth 100000 in
set_option maxHeartbeats 3200000 in
theorem behI_at {S T : Nat → Prop} (a : Option Addr) (ins : List Int) (c : Nat) (t : Int) (D : List Int) (da : Option Addr) (dc : Nat) (w : World) (hl : Lies S w a (intsC ins)) (hD : Lies T w da (intsC D)) (hi4 : ins.length ≤ 10) (hin : ∀ i, i < ins.length → 0 ≤ outAt ins i ∧ outAt ins i < D.length) (hb : D.length ≤ 100000) :
    Calls Try.prog 59 #[.agg #[.slice a ins.length c, .int .i64 t], .slice da D.length dc] w fun e w' => e = .returned (.int .i64 (behI D ins ins.length)) ∧ Below w.heap.size w w' := by
  have HB := hide (below_alloc w (.cells #[.slice a ins.length c, .int .i64 t] 44))
  have HL := hide (hl.below HB.out)
  have HD := hide (hD.below HB.out)
  have HI := hide hin
  clear hl hD hin
  go_enter Try.func59, Try.ntmps59
  go_wp2_with fail
  generalize (w.alloc (.cells #[.slice a ins.length c, .int .i64 t] 44)) = W at *
  go_loop [5, 7, 11] (fun v _ i => ∃ k : Nat, k ≤ ins.length ∧ i = .int .i64 k ∧ v = .int .i64 (behI D ins k)) (fun _ _ i => ins.length - (intOf i).toNat)
  case atStart => exact ⟨0, Nat.zero_le _, rfl, rfl⟩
  case round =>
    obtain ⟨k, hk2, rfl, rfl⟩ := hrel
    by_cases hlt : k < ins.length
    · have hki : (k : Int) < (ins.length : Int) := by omega
      obtain ⟨b, off, ha, _, hbl, n0⟩ := HL.out.ints hlt
      obtain ⟨hq0, hq1⟩ := HI.out k hlt
      have HA := hide ha
      rw [HA.out]
      have HE : Hid (behI D ins (k + 1) = max (behI D ins k) (outAt D (outAt ins k).toNat)) := hide rfl
      generalize behI D ins k = bk at *
      obtain ⟨q, hq⟩ := Int.eq_ofNat_of_zero_le hq0
      rw [hq] at n0 hq1 HE
      rw [Int.toNat_natCast] at HE
      obtain ⟨b2, off2, ha2, _, hbl2, d0⟩ := HD.out.ints (i := q) (by omega)
      have HA2 := hide ha2
      rw [HA2.out]
      generalize outAt D q = dq at *
      clear ha hbl ha2 hbl2 hq hq0
      go_wp2_with fail
      exact ⟨⟨k + 1, by omega, by go_num, by rw [HE.out]⟩, by simp [intOf]; omega⟩
    · have HK : Hid (k = ins.length) := hide (by omega)
      go_wp2_with fail
      go_ret
      exact ⟨ret_int (by rw [HK.out]), HB.out⟩
end Go.Proofs.Ytacgepdmhdcdkaa
