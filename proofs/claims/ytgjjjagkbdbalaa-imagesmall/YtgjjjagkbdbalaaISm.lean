/-
  THE LAW ImageSmall, its walk.
-/
import Derived.Test.YtgjjjagkbdbalaaIIm
import Derived.Test.YtgjjjagkbdbalaaLTbd
set_option linter.unusedSimpArgs false
set_option linter.unusedVariables false
namespace Go.Proofs.Ytgjjjagkbdbalaa
open Go.RowKit

def lowTo (b : Int) (ls : List Lt) : Nat → Int
  | 0 => b
  | q + 1 => max (lowTo b ls q) (ltAt ls q).table
theorem lowTo_ge (b : Int) (ls : List Lt) : ∀ q, b ≤ lowTo b ls q
  | 0 => Int.le_refl _
  | q + 1 => by have := lowTo_ge b ls q; simp only [lowTo]; omega
theorem lowTo_tab (b : Int) (ls : List Lt) : ∀ q i, i < q → (ltAt ls i).table ≤ lowTo b ls q
  | 0, i, h => absurd h (Nat.not_lt_zero _)
  | q + 1, i, h => by
    simp only [lowTo]
    by_cases e : i = q
    · subst e; omega
    · have := lowTo_tab b ls q i (by omega); omega
theorem insSum_snoc (ls : List Lt) (q : Nat) (h : q < ls.length) : insSum (ls.take (q + 1)) = insSum (ls.take q) + (ltAt ls q).ins.length := by
  have e := lutsN_snoc ls q h
  have h1 := congrArg List.length e
  rw [lutsN_len, List.length_append, lutsN_len] at h1
  simp only [List.length_take, lutN, List.length_cons, List.length_append, List.length_nil] at h1
  omega
theorem insSum_take (ls : List Lt) (h : ∀ l ∈ ls, l.ins.length ≤ 4) (q : Nat) : insSum (ls.take q) ≤ 4 * ls.length := by
  have := insSum_le (ls.take q) fun l hl => h l (List.mem_of_mem_take hl)
  have : (ls.take q).length ≤ ls.length := by rw [List.length_take]; omega
  omega
theorem run_max2 {P : Program} (ts : Array TypeId) (t : TypeId) (x y : Int) (w : World) : (Builtin.max_ ts t #[.int .i64 x, .int .i64 y]).run P w = .ok (.int .i64 (max x y)) w := by
  have e : ∀ a b : Int, (if b > a then b else a) = max a b := fun a b => by split <;> omega
  simp [Builtin.max_, Builtin.max2, e]
/-- what the statement asks of a right net's bytes -/
theorem small_bytes {gn : Nat} {rs : List Rg} {ls : List Lt} {os : List Int} (h : RightT gn rs ls os) (ho : os.length ≤ 40) : (netN gn rs ls os).length ≤ (wroteS gn rs ls os).size ∧ (wroteS gn rs ls os).size ≤ 4 * (netN gn rs ls os).length ∧ (127 < lowTo (gn + rs.length + ls.length : Nat) ls ls.length ∨ (wroteS gn rs ls os).size = (netN gn rs ls os).length) := by
  have e : (wroteS gn rs ls os).size = (codes (netN gn rs ls os)).length := rfl
  rw [e]
  refine ⟨codes_len1 _, codes_len2 _, ?_⟩
  by_cases hl : 127 < lowTo (gn + rs.length + ls.length : Nat) ls ls.length
  · exact .inl hl
  · right
    have h1 := lowTo_ge (gn + rs.length + ls.length : Nat) ls ls.length
    exact codes_len3 _ (netN_lt h 128 (by decide) (by omega) (by omega) fun l hl2 => by
      obtain ⟨i, hi, rfl⟩ := List.getElem_of_mem hl2
      rw [ltAt_mem]
      have := lowTo_tab (gn + rs.length + ls.length : Nat) ls ls.length i hi
      omega)

set_option maxRecDepth 100000 in
set_option maxHeartbeats 6400000 in
theorem small_at (given : Int) (rs : List Rg) (ls : List Lt) (os : List Int) (ra la oa : Option Addr) (rc lc oc : Nat) (A : Nat → Option Addr) (C : Nat → Nat) (w : World) (hr : Lies AnyB w ra (rgsC rs)) (hl : LutsAt AnyB w la A C ls) (ho : Lies AnyB w oa (intsC os)) :
    Calls Try.prog 4 #[.agg #[.int .i64 given, .slice ra rs.length rc, .slice la ls.length lc, .slice oa os.length oc]] w fun e w' => e = .returned (.bool true) ∧ Below w.heap.size w w' := by
  have HB1 := hide (below_alloc w (.cells #[.int .i64 given, .slice ra rs.length rc, .slice la ls.length lc, .slice oa os.length oc] 26))
  have HNT : Hid (NetT ⟨w.heap.size, ra, rc, la, lc, oa, oc, A, C⟩ AnyB (w.alloc (.cells #[.int .i64 given, .slice ra rs.length rc, .slice la ls.length lc, .slice oa os.length oc] 26)) given rs ls os) := hide ⟨blk_new _ _, hr.below HB1.out, hl.below HB1.out, ho.below HB1.out⟩
  have HTD := hide (tabled_at given ls rs.length os.length rc lc oc ra la oa A C (w.alloc (.cells #[.int .i64 given, .slice ra rs.length rc, .slice la ls.length lc, .slice oa os.length oc] 26)) (hl.row.below HB1.out))
  have hqn : ∀ (v : Value) (w : World), (binOp .neq 31 (.iface 49 v) .nilIface).run Try.prog w = .ok (.bool true) w := fun _ _ => rfl
  clear hr hl ho
  go_enter Try.func4, Try.ntmps4
  go_wp2_with fail
  generalize w.alloc (.cells #[.int .i64 given, .slice ra rs.length rc, .slice la ls.length lc, .slice oa os.length oc] 26) = w1 at *
  refine HTD.out.mono ?_
  rintro e w2 ⟨⟨bt, rfl, hbt⟩, hb2⟩
  have HN2 := hide (HNT.out.below hb2)
  have HB2 := hide (Below.step HB1.out hb2)
  clear hb2 HTD HNT HB1
  cases bt with
  | false =>
    go_wp2_with fail
    go_ret
    exact ⟨rfl, HB2.out⟩
  | true =>
    obtain ⟨b1, b2, b3, b4, b5⟩ := hbt rfl
    have HIM := hide (imaged_at w2)
    clear b5
    go_wp2_with fail
    refine HIM.out.mono ?_
    rintro e w3 ⟨rfl, hb3⟩
    have HN3 := hide (HN2.out.below hb3)
    have HB3 := hide (Below.step HB2.out hb3)
    clear hb3 HIM HN2 HB2
    cases hrt : rightT given rs ls os with
    | false =>
      have HW := hide (Write_no HN3.out (by omega) (by omega) (by omega) hrt)
      have HRI : Hid (∀ W, Below w3.heap.size w3 W → Calls Try.prog 9 #[.pointer (some ⟨w.heap.size, 0, none⟩)] W fun e w' => e = .returned (.bool false) ∧ Below W.heap.size W w') := hide fun W hb => by
        have := LRight_at (HN3.out.below hb) (by omega) (by omega) (by omega)
        rwa [hrt] at this
      clear hrt
      go_wp2_with fail
      refine HW.out.mono ?_
      rintro e w4 ⟨rfl, hb4⟩
      have HB4 := hide (Below.step HB3.out hb4)
      have HRI4 := hide (HRI.out w4 hb4)
      clear hb4 HW HRI
      go_wp2_with fail
      refine HRI4.out.mono ?_
      rintro e w5 ⟨rfl, hb5⟩
      have HB5 := hide (Below.step HB4.out hb5)
      clear hb5
      go_wp2_with fail
      go_ret
      exact ⟨rfl, HB5.out⟩
    | true =>
      obtain ⟨gn, rfl⟩ := rightT_nat hrt
      have hRT := rightT_iff.1 hrt
      have HRT := hide hRT
      have HW := hide (Write_at HN3.out hRT)
      have HSB := hide (small_bytes hRT b3)
      have HNL := hide (netN_len gn rs ls os)
      have HI4 : Hid (∀ l ∈ ls, l.ins.length ≤ 4) := hide fun l hl => (hRT.lut hl).1
      have HT6 : Hid (∀ i, i < ls.length → 0 ≤ (ltAt ls i).table ∧ (ltAt ls i).table < 65536) := hide fun i hi => ⟨(rightL_iff.1 (hRT.luts i hi)).t0, (rightL_iff.1 (hRT.luts i hi)).tlt⟩
      clear hrt hRT
      generalize wroteS gn rs ls os = TX at *
      go_wp2_with fail
      refine HW.out.mono ?_
      rintro e w4 ⟨rfl, hb4⟩
      have HB4 := hide (Below.step HB3.out hb4)
      have HN4 := hide (HN3.out.below hb4)
      clear hb4 HW HN3 HB3
      have n0 := HN4.out.c0
      have n1 := HN4.out.c1
      have n2 := HN4.out.c2
      have n3 := HN4.out.c3
      go_wp2_with fail
      have hmx : ∀ (x y : Int) (W : World), (Builtin.max_ #[3, 3] 3 #[.int .i64 x, .int .i64 y]).run Try.prog W = .ok (.int .i64 (max x y)) W := fun x y W => run_max2 _ _ x y W
      go_loop [5, 6, 7] (fun a b c => ∃ q : Nat, q ≤ ls.length ∧ c = .int .i64 q ∧ a = .int .i64 (4 + 2 * rs.length + 2 * ls.length + os.length + insSum (ls.take q) : Nat) ∧ b = .int .i64 (lowTo (gn + rs.length + ls.length : Nat) ls q)) (fun _ _ c => ls.length - (intOf c).toNat)
      case atStart => exact ⟨0, Nat.zero_le _, rfl, by simp [insSum], by simp only [lowTo]; go_num⟩
      case round =>
        obtain ⟨q, hq, rfl, rfl, rfl⟩ := hrel
        have hsm := insSum_take ls HI4.out q
        by_cases hlt : q < ls.length
        · have hqi : (q : Int) < (ls.length : Int) := by omega
          obtain ⟨b, off, hla, _, hbl, m0, m1⟩ := HN4.out.luts.row.pair hlt
          simp only [lutF, lutG] at m0 m1
          simp only at hla
          have HS := hide (insSum_snoc ls q hlt)
          have HL : Hid (lowTo (gn + rs.length + ls.length : Nat) ls (q + 1) = max (lowTo (gn + rs.length + ls.length : Nat) ls q) (ltAt ls q).table) := hide rfl
          have h4 : (ltAt ls q).ins.length ≤ 4 := by
            have := HI4.out ls[q] (List.getElem_mem _)
            rwa [ltAt_mem] at this
          subst hla
          generalize lowTo (gn + rs.length + ls.length : Nat) ls q = lw at *
          generalize ltAt ls q = lt at *
          obtain ⟨ins, tb⟩ := lt
          simp only at m0 m1 h4 HS HL
          generalize insSum (ls.take q) = sm at *
          go_wp2_with fail
          exact ⟨⟨q + 1, by omega, by go_num, by rw [HS.out]; go_num, by rw [HL.out]⟩, by simp [intOf]; omega⟩
        · obtain ⟨e1, e2, e3⟩ := HSB.out
          have eq : q = ls.length := by omega
          have eM : 4 + 2 * rs.length + 2 * ls.length + os.length + insSum (ls.take q) = (netN gn rs ls os).length := by
            rw [HNL.out, eq, List.take_length]
          have e3 : 127 < lowTo (gn + rs.length + ls.length : Nat) ls q ∨ TX.size = (netN gn rs ls os).length := by
            rw [eq]; exact e3
          rw [eM]
          have hmb : (netN gn rs ls os).length ≤ 100000 := by rw [← eM]; omega
          clear hsm eM HNL HSB HI4 HT6 HRT
          generalize lowTo (gn + rs.length + ls.length : Nat) ls q = lw at *
          generalize (netN gn rs ls os).length = m at *
          have f1 : (m : Int) ≤ (TX.size : Int) := by omega
          have f2 : (TX.size : Int) ≤ 4 * (m : Int) := by omega
          by_cases hlw : (127 : Int) < lw
          · clear e1 e2 e3
            go_wp2_with fail
            go_ret
            exact ⟨rfl, HB4.out⟩
          · have f3 : ¬ (127 : Int) < (os.length : Int) := by omega
            have HE : Hid (TX.size = m) := hide (e3.resolve_left hlw)
            have f4 : ((TX.size : Int) == (m : Int)) = true := by rw [beq_iff_eq, HE.out]
            clear e1 e2 e3
            go_wp2_with fail
            go_ret
            exact ⟨rfl, HB4.out⟩
end Go.Proofs.Ytgjjjagkbdbalaa
