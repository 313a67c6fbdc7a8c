/-
  CONTRACTS of the closure in cycle, of bit.
-/
import Derived.Test.YtacgepdmhdcdkaaLRt
import Derived.Laws.BitsAllLaws
set_option linter.unusedSimpArgs false
set_option linter.unusedVariables false
namespace Go.Proofs.Ytacgepdmhdcdkaa
open Go.RowKit

/-- where the closure's variables lie -/
structure LkP where
  x1 : Nat
  x2 : Nat
  x3 : Nat
  x4 : Nat
  p : Nat
  ga : Option Addr
  gc : Nat
  ha : Option Addr
  hc : Nat
  ta : Option Addr
  tc : Nat
structure LookAt (x : LkP) (w : World) (gn : Nat) (g h t : List Bool) : Prop where
  c1 : w.cell? ⟨x.x1, 0, none⟩ = some (.pointer (some ⟨x.p, 0, none⟩))
  cp : w.cell? ⟨x.p, 0, none⟩ = some (.int .i64 gn)
  c2 : w.cell? ⟨x.x2, 0, none⟩ = some (.slice x.ga g.length x.gc)
  c3 : w.cell? ⟨x.x3, 0, none⟩ = some (.slice x.ha h.length x.hc)
  c4 : w.cell? ⟨x.x4, 0, none⟩ = some (.slice x.ta t.length x.tc)
  lg : Lies AnyB w x.ga (bitsC g)
  lh : Lies AnyB w x.ha (bitsC h)
  lt : Lies AnyB w x.ta (bitsC t)
theorem LookAt.below {x : LkP} {w w' : World} {gn : Nat} {g h t : List Bool} (l : LookAt x w gn g h t) (hb : Below w.heap.size w w') : LookAt x w' gn g h t :=
  ⟨(hb.cell (cell_lt l.c1)).trans l.c1, (hb.cell (cell_lt l.cp)).trans l.cp, (hb.cell (cell_lt l.c2)).trans l.c2, (hb.cell (cell_lt l.c3)).trans l.c3, (hb.cell (cell_lt l.c4)).trans l.c4, l.lg.below hb, l.lh.below hb, l.lt.below hb⟩
abbrev lookV (x : LkP) : Value := .func (.func 29) #[] #[.pointer (some ⟨x.x1, 0, none⟩), .pointer (some ⟨x.x2, 0, none⟩), .pointer (some ⟨x.x3, 0, none⟩), .pointer (some ⟨x.x4, 0, none⟩)]

set_option maxRecDepth 100000 in
set_option maxHeartbeats 3200000 in
theorem look_at {x : LkP} {w : World} {gn : Nat} {g h t : List Bool} (l : LookAt x w gn g h t) (k : Nat) (hk : k < gn + h.length + t.length) (hb : gn + h.length + t.length ≤ 100000) :
    Calls Try.prog 29 #[.int .i64 k, .pointer (some ⟨x.x1, 0, none⟩), .pointer (some ⟨x.x2, 0, none⟩), .pointer (some ⟨x.x3, 0, none⟩), .pointer (some ⟨x.x4, 0, none⟩)] w fun e w' => e = .returned (.bool (sigL gn g h t k)) ∧ w' = w := by
  obtain ⟨c1, cp, c2, c3, c4, lg, lh, lt⟩ := l
  by_cases h1 : k < gn
  · have es : sigL gn g h t k = bit g k := by unfold sigL; rw [if_pos h1]
    rw [es]
    by_cases h2 : k < g.length
    · obtain ⟨b, off, ha, _, _, n0⟩ := lg.bits h2
      rw [ha] at c2
      clear lg lh lt es
      have h3 : (k : Int) < (g.length : Int) := by omega
      have h4 : (k : Int) < (gn : Int) := by omega
      generalize bit g k = bv at *
      go_enter Try.func29, Try.ntmps29
      go_wp2_with fail
      go_ret
      exact ⟨rfl, rfl⟩
    · have es2 : bit g k = false := by unfold bit; rw [List.getElem?_eq_none (by omega)]; rfl
      rw [es2]
      clear lg lh lt es es2
      have h3 : ¬ (k : Int) < (g.length : Int) := by omega
      have h4 : (k : Int) < (gn : Int) := by omega
      go_enter Try.func29, Try.ntmps29
      go_wp2_with fail
      go_ret
      exact ⟨rfl, rfl⟩
  · obtain ⟨q, rfl⟩ : ∃ q, k = gn + q := ⟨k - gn, by omega⟩
    by_cases h2 : q < h.length
    · have es : sigL gn g h t (gn + q) = bit h q := by unfold sigL; rw [if_neg h1, show gn + q - gn = q by omega, if_pos h2]
      rw [es]
      obtain ⟨b, off, ha, _, _, n0⟩ := lh.bits h2
      rw [ha] at c3
      clear lg lh lt es
      have h3 : (q : Int) < (h.length : Int) := by omega
      generalize bit h q = bv at *
      go_enter Try.func29, Try.ntmps29
      go_wp2_with fail
      go_ret
      exact ⟨rfl, rfl⟩
    · obtain ⟨r, rfl⟩ : ∃ r, q = h.length + r := ⟨q - h.length, by omega⟩
      have h5 : r < t.length := by omega
      have es : sigL gn g h t (gn + (h.length + r)) = bit t r := by unfold sigL; rw [if_neg h1, show gn + (h.length + r) - gn = h.length + r by omega, if_neg h2, show h.length + r - h.length = r by omega]
      rw [es]
      obtain ⟨b, off, ha, _, _, n0⟩ := lt.bits h5
      rw [ha] at c4
      clear lg lh lt es
      have h3 : (r : Int) < (t.length : Int) := by omega
      generalize bit t r = bv at *
      go_enter Try.func29, Try.ntmps29
      go_wp2_with fail
      go_ret
      exact ⟨rfl, rfl⟩

theorem wrap_i64_smallT (n : Nat) (h : n < 9223372036854775808) : IntKind.i64.wrap (n : Int) = (n : Int) := by
  simp [IntKind.wrap, IntKind.bits, IntKind.signed]
  omega
theorem i64_orT (a b : Nat) (ha : a < 9223372036854775808) (hb : b < 9223372036854775808) : bits .or .i64 (a : Int) (b : Int) = ((a ||| b : Nat) : Int) := by
  show IntKind.i64.wrap ((BitVec.ofInt 64 (a : Int) ||| BitVec.ofInt 64 (b : Int)).toNat : Int) = _
  rw [BitVec.toNat_or, ofInt_u64 a (by omega), ofInt_u64 b (by omega)]
  have : a ||| b < 2 ^ 63 := Nat.or_lt_two_pow (by omega) (by omega)
  exact wrap_i64_smallT _ (by omega)
theorem ofInt64T (n : Int) : (BitVec.ofInt 64 n).toNat = (n % 18446744073709551616).toNat := by
  rw [BitVec.toNat_ofInt]; rfl
theorem i64_mask1T (n : Int) : bits .and .i64 n 1 = n % 2 := by
  show IntKind.i64.wrap ((BitVec.ofInt 64 n &&& BitVec.ofInt 64 1).toNat : Int) = _
  rw [BitVec.toNat_and, ofInt64T, show (BitVec.ofInt 64 1).toNat = 1 from rfl, nat_mask1, wrap_i64_smallT _ (by omega)]
  omega
theorem idx_or (look : Nat → Bool) (ins : List Int) (k : Nat) (hk : k < 4) (h : look (outAt ins k).toNat = true) : bits .or .i64 ((idxTo look ins k : Nat) : Int) ((2 ^ k : Nat) : Int) = ((idxTo look ins (k + 1) : Nat) : Int) := by
  have h1 := idxTo_lt look ins k
  have h2 : 2 ^ k ≤ 8 := Nat.pow_le_pow_right (n := 2) (by decide) (show k ≤ 3 by omega)
  rw [i64_orT _ _ (by omega) (by omega), Nat.or_comm, nat_join k (2 ^ k) (idxTo look ins k) (Nat.mod_self _) h1]
  simp only [idxTo, h, if_true]; omega

theorem shl_nat (k : Nat) (h : 2 ^ k ≤ 8) : wrap64 (2 ^ k) = ((2 ^ k : Nat) : Int) := by
  have e : (2 : Int) ^ k = ((2 ^ k : Nat) : Int) := by simp
  rw [e]; generalize (2 ^ k : Nat) = m at *; unfold wrap64; omega

set_option maxRecDepth 100000 in
set_option maxHeartbeats 3200000 in
theorem bit_at {S : Nat → Prop} {x : LkP} {w : World} {gn : Nat} {g h t : List Bool} (l : LookAt x w gn g h t) (hb : gn + h.length + t.length ≤ 100000) (a : Option Addr) (ins : List Int) (c : Nat) (tb : Int) (hl : Lies S w a (intsC ins)) (hi4 : (ins.length : Int) ≤ 4) (hin : ∀ i, i < ins.length → inR (outAt ins i) (gn + h.length + t.length : Nat) = true) (ht0 : 0 ≤ tb) (ht1 : tb < 65536) :
    Calls Try.prog 30 #[.agg #[.slice a ins.length c, .int .i64 tb], lookV x] w fun e w' => e = .returned (.bool (bitL (sigL gn g h t) ⟨ins, tb⟩)) ∧ Below w.heap.size w w' := by
  have HB := hide (below_alloc w (.cells #[.slice a ins.length c, .int .i64 tb] 44))
  have HL := hide (hl.below HB.out)
  have HLK := hide (l.below HB.out)
  have HI := hide hin
  clear hl hin l
  go_enter Try.func30, Try.ntmps30
  go_wp2_with fail
  have HN := hide (blk_new w (.cells #[.slice a ins.length c, .int .i64 tb] 44))
  generalize (w.alloc (.cells #[.slice a ins.length c, .int .i64 tb] 44)) = W at *
  go_loop [5, 6, 7, 11] (fun v _ _ i => ∃ k : Nat, k ≤ ins.length ∧ i = .int .i64 k ∧ v = .int .i64 (idxTo (sigL gn g h t) ins k)) (fun _ _ _ i => ins.length - (intOf i).toNat)
  case atStart => exact ⟨0, Nat.zero_le _, rfl, rfl⟩
  case round =>
    obtain ⟨k, hk2, rfl, rfl⟩ := hrel
    by_cases hlt : k < ins.length
    · have hki : (k : Int) < (ins.length : Int) := by omega
      obtain ⟨b, off, ha, _, hbl, n0⟩ := HL.out.ints hlt
      obtain ⟨hq0, hq1⟩ := inR_iff.1 (HI.out k hlt)
      have HA := hide ha
      rw [HA.out]
      have hidx := idxTo_lt (sigL gn g h t) ins k
      have hp8 : 2 ^ k ≤ 8 := Nat.pow_le_pow_right (n := 2) (by decide) (show k ≤ 3 by omega)
      obtain ⟨q, hq⟩ := Int.eq_ofNat_of_zero_le hq0
      have HOR : Hid (sigL gn g h t q = true → bits .or .i64 ((idxTo (sigL gn g h t) ins k : Nat) : Int) ((2 ^ k : Nat) : Int) = ((idxTo (sigL gn g h t) ins (k + 1) : Nat) : Int)) := hide fun hh => idx_or _ _ _ (by omega) (by rw [hq, Int.toNat_natCast]; exact hh)
      have HNO : Hid (sigL gn g h t q = false → idxTo (sigL gn g h t) ins (k + 1) = idxTo (sigL gn g h t) ins k) := hide fun hh => by simp only [idxTo, hq, Int.toNat_natCast, hh]; rfl
      rw [hq] at n0 hq1
      have HC := hide (look_at HLK.out q (by omega) hb)
      clear ha hbl hq hq0 hq1
      cases hs : sigL gn g h t q with
      | true =>
        have HO2 := hide (HOR.out hs)
        rw [hs] at HC
        clear hs HOR HNO
        go_wp2_with fail
        refine HC.out.mono ?_
        rintro e w4 ⟨rfl, rfl⟩
        go_wp2_with fail
        refine ⟨⟨k + 1, by omega, by go_num, ?_⟩, by simp [intOf]; omega⟩
        rw [← HO2.out, shl_nat k hp8]
      | false =>
        have HO2 := hide (HNO.out hs)
        rw [hs] at HC
        clear hs HOR HNO
        go_wp2_with fail
        refine HC.out.mono ?_
        rintro e w4 ⟨rfl, rfl⟩
        go_wp2_with fail
        exact ⟨⟨k + 1, by omega, by go_num, by rw [HO2.out]⟩, by simp [intOf]; omega⟩
    · have HK : Hid (k = ins.length) := hide (by omega)
      have x1 : W.cell? ⟨w.heap.size, 1, none⟩ = some (.int .i64 tb) := by rw [blk_cell HN.out]; rfl
      have hidx := idxTo_lt (sigL gn g h t) ins k
      go_wp2_with fail
      go_ret
      refine ⟨ret_bool ?_, HB.out⟩
      rw [HK.out] at hidx ⊢
      have hp16 : 2 ^ ins.length ≤ 16 := Nat.pow_le_pow_right (n := 2) (by decide) (show ins.length ≤ 4 by omega)
      rw [i64_mask1T, Nat.min_eq_left (by omega)]
      simp only [bitL]
      congr 2
end Go.Proofs.Ytacgepdmhdcdkaa
