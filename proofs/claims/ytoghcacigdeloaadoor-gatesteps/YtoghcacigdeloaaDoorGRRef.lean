/-
  CONTRACTS of the reference's in, Right, Gates, and of sameBits.
-/
import Derived.Test.YtoghcacigdeloaaDoorGMap
set_option linter.unusedSimpArgs false
set_option linter.unusedVariables false
namespace Go.Proofs.YtoghcacigdeloaaDoor
open Go.RowKit

def inC (n lo hi : Int) : Bool := decide (lo ≤ n) && decide (n ≤ hi)
set_option maxRecDepth 100000 in
set_option maxHeartbeats 1600000 in
theorem in_at (n lo hi : Int) (w : World) : Calls Tryd.prog 18 #[.int .i64 n, .int .i64 lo, .int .i64 hi] w fun e w' => e = .returned (.bool (inC n lo hi)) ∧ w' = w := by
  by_cases h0 : lo ≤ n
  · go_enter Tryd.func18, Tryd.ntmps18
    go_wp2
    go_ret
    exact ⟨ret_bool (by simp [inC, h0]), rfl⟩
  · have h1 : n < lo := by omega
    go_enter Tryd.func18, Tryd.ntmps18
    go_wp2
    go_ret
    exact ⟨ret_bool (by simp [inC]; omega), rfl⟩
theorem in_is (n lo hi : Int) (r : Bool) (h : inC n lo hi = r) (w : World) : Calls Tryd.prog 18 #[.int .i64 n, .int .i64 lo, .int .i64 hi] w fun e w' => e = .returned (.bool r) ∧ w' = w := h ▸ in_at n lo hi w

set_option maxRecDepth 100000 in
set_option maxHeartbeats 3200000 in
theorem rgates_at {S : Nat → Prop} (given : Int) (ns : List Nd) (m : Nat) (na oa : Option Addr) (nc oc : Nat) (w : World) (hn : Lies S w na (ndsC ns)) (h60 : (ns.length : Int) ≤ 60) :
    Calls Tryd.prog 8 #[.agg #[.int .i64 given, .slice na ns.length nc, .slice oa m oc]] w fun e w' => e = .returned (.int .i64 (gatesTo ns ns.length)) ∧ Below w.heap.size w w' := by
  have HB0 : Hid (Below w.heap.size w (w.alloc (.cells #[.int .i64 given, .slice na ns.length nc, .slice oa m oc] 29))) := hide (below_alloc _ _)
  have HN := hide hn
  clear hn
  go_enter Tryd.func8, Tryd.ntmps8
  go_wp2_with fail
  go_loopw [3, 5, 9] (fun g _ i wr => ∃ k : Nat, k ≤ ns.length ∧ g = .int .i64 (gatesTo ns k) ∧ i = .int .i64 k ∧ Hid (Below w.heap.size w wr)) (fun _ _ i _ => ns.length - (intOf i).toNat)
  case atStart => exact ⟨0, Nat.zero_le _, rfl, rfl, HB0⟩
  case round =>
    obtain ⟨k, hk, rfl, rfl, hb⟩ := hrel
    by_cases hlt : k < ns.length
    · have hki : (k : Int) < (ns.length : Int) := by omega
      obtain ⟨b, off, ha, _, _, n0, n1, n2, n3⟩ := (HN.out.below hb.out).nodes hlt
      have hgk := gatesTo_le ns k
      have HG : Hid (gatesTo ns (k + 1) = gatesTo ns k + (if isGate (ndAt ns k) then 1 else 0)) := hide rfl
      have HA := hide ha
      rw [HA.out]
      clear ha
      generalize ndAt ns k = x at *
      generalize gatesTo ns k = gk at *
      obtain ⟨op, a, bb, nx⟩ := x
      simp only at n0 n1 n2 n3
      have hb1 : Hid (Below w.heap.size w (wr.alloc (.cells #[.int .i64 op, .int .i64 a, .int .i64 bb, .int .i64 nx] 31))) := hide (Below.step hb.out (below_alloc _ _))
      cases hop : inC op 5 8 with
      | true =>
        have HG1 : Hid (gatesTo ns (k + 1) = gk + 1) := hide (by rw [HG.out, if_pos (by simp [inC] at hop; simp [isGate]; omega)])
        have HC := hide (in_is op 5 8 true hop)
        clear HG hop
        go_wp2_with fail
        refine (HC.out _).mono ?_
        rintro e w' ⟨rfl, rfl⟩
        go_wp2_with fail
        exact ⟨⟨k + 1, by omega, by rw [HG1.out]; go_num, by go_num, hb1⟩, by simp [intOf]; omega⟩
      | false =>
        have HG1 : Hid (gatesTo ns (k + 1) = gk) := hide (by rw [HG.out, if_neg (by simp [inC] at hop; simp [isGate]; omega)]; rfl)
        have HC := hide (in_is op 5 8 false hop)
        clear HG hop
        go_wp2_with fail
        refine (HC.out _).mono ?_
        rintro e w' ⟨rfl, rfl⟩
        go_wp2_with fail
        exact ⟨⟨k + 1, by omega, by rw [HG1.out], by go_num, hb1⟩, by simp [intOf]; omega⟩
    · have HJ : Hid (k = ns.length) := hide (by omega)
      go_wp2_with fail
      go_ret
      exact ⟨ret_int (by rw [HJ.out]), hb.out⟩

set_option maxRecDepth 100000 in
set_option maxHeartbeats 6400000 in
theorem same_is {S T : Nat → Prop} (l m : List Bool) (n k : Nat) (hln : l.length = n) (hmk : m.length = k) (ao bo : Option Addr) (ac bc : Nat) (w : World) (hl : Lies S w ao (bitsC l)) (hm : Lies T w bo (bitsC m)) (hn : (n : Int) ≤ 100000) (he : l = m) :
    Calls Tryd.prog 12 #[.slice ao n ac, .slice bo k bc] w fun e w' => e = .returned (.bool true) ∧ Below w.heap.size w w' := by
  subst he hln hmk
  have HL := hide hl
  have HM := hide hm
  clear hl hm
  go_enter Tryd.func12, Tryd.ntmps12
  go_wp2_with fail
  go_loopw [5] (fun i wr => ∃ k : Nat, k ≤ l.length ∧ i = .int .i64 k ∧ Hid (Below w.heap.size w wr)) (fun i _ => l.length - (intOf i).toNat)
  case atStart => exact ⟨0, Nat.zero_le _, rfl, hide (Below.refl _ _)⟩
  case round =>
    obtain ⟨k, hk, rfl, hw⟩ := hrel
    by_cases hlt : k < l.length
    · have hki : (k : Int) < (l.length : Int) := by omega
      obtain ⟨b, off, ha, _, _, q0⟩ := (HL.out.below hw.out).bits hlt
      obtain ⟨b2, off2, ha2, _, _, q2⟩ := (HM.out.below hw.out).bits hlt
      rw [ha, ha2]
      clear ha ha2
      generalize bit l k = bv at *
      go_wp2_with fail
      go_quiet (fail)
      go_wp2_with fail
      exact ⟨⟨k + 1, by omega, by go_num, hide (Below.drewNs hw.out _)⟩, by simp [intOf]; omega⟩
    · go_wp2_with fail
      go_ret
      exact ⟨rfl, hw.out⟩

set_option maxRecDepth 100000 in
set_option maxHeartbeats 6400000 in
theorem rright_off (given : Int) (n m : Nat) (na oa : Option Addr) (nc oc : Nat) (w : World) (h60 : (n : Int) ≤ 60) (h30 : (m : Int) ≤ 30) (hg : inC given 0 20000 = false) :
    Calls Tryd.prog 6 #[.agg #[.int .i64 given, .slice na n nc, .slice oa m oc]] w fun e w' => e = .returned (.bool false) ∧ Below w.heap.size w w' := by
  have HC := hide (in_is given 0 20000 false hg)
  clear hg
  go_enter Tryd.func6, Tryd.ntmps6
  go_wp2_with fail
  refine (HC.out _).mono ?_
  rintro e w' ⟨rfl, rfl⟩
  go_wp2_with fail
  go_ret
  exact ⟨rfl, below_alloc _ _⟩

set_option maxRecDepth 100000 in
set_option maxHeartbeats 6400000 in
theorem rright_on {S T : Nat → Prop} (given : Int) (ns : List Nd) (os : List Int) (na oa : Option Addr) (nc oc : Nat) (w : World) (hn : Lies S w na (ndsC ns)) (ho : Lies T w oa (intsC os)) (h60 : (ns.length : Int) ≤ 60) (h30 : (os.length : Int) ≤ 30) (hg : inC given 0 20000 = true) :
    Calls Tryd.prog 6 #[.agg #[.int .i64 given, .slice na ns.length nc, .slice oa os.length oc]] w fun e w' => e = .returned (.bool (nodesTo given ns ns.length && outsTo ns.length os os.length)) ∧ Below w.heap.size w w' := by
  have HC := hide (in_is given 0 20000 true hg)
  have HB0 : Hid (Below w.heap.size w (w.alloc (.cells #[.int .i64 given, .slice na ns.length nc, .slice oa os.length oc] 29))) := hide (below_alloc _ _)
  have HP0 := hide (blk_new w (.cells #[.int .i64 given, .slice na ns.length nc, .slice oa os.length oc] 29))
  have HN := hide hn
  have HO := hide ho
  clear hg hn ho
  go_enter Tryd.func6, Tryd.ntmps6
  go_wp2_with fail
  refine (HC.out _).mono ?_
  rintro e w' ⟨rfl, rfl⟩
  clear HC
  go_wp2_with fail
  generalize w.alloc (.cells #[.int .i64 given, .slice na ns.length nc, .slice oa os.length oc] 29) = w1 at *
  have hw1 : w.heap.size < w1.heap.size := blk_lt HP0.out
  go_loopw [4, 5, 6, 29] (fun _ _ _ i wr => ∃ k : Nat, k ≤ ns.length ∧ i = .int .i64 k ∧ Hid (Below w1.heap.size w1 wr) ∧ Hid (nodesTo given ns k = true)) (fun _ _ _ i _ => ns.length - (intOf i).toNat)
  case atStart => exact ⟨0, Nat.zero_le _, rfl, hide (Below.refl _ _), hide rfl⟩
  case round =>
    obtain ⟨k, hk, rfl, hb, hno⟩ := hrel
    by_cases hlt : k < ns.length
    · have hki : (k : Int) < (ns.length : Int) := by omega
      obtain ⟨b, off, ha, _, _, n0, n1, n2, n3⟩ := ((HN.out.below HB0.out).below hb.out).nodes hlt
      have HA := hide ha
      rw [HA.out]
      have p0 : wr.cell? ⟨w.heap.size, 0, none⟩ = some (.int .i64 given) := by rw [blk_cell (Below.blk hb.out HP0.out)]; rfl
      have p0a := fun o => cell_alloc p0 o
      have HT : Hid (rightN given ns.length k (ndAt ns k) = true → nodesTo given ns (k + 1) = true) := hide fun h => by simp only [nodesTo, h, hno.out]; rfl
      have HF : Hid (rightN given ns.length k (ndAt ns k) = false → (nodesTo given ns ns.length && outsTo ns.length os os.length) = false) := hide (by
        intro hr
        cases hq : nodesTo given ns ns.length with
        | false => rfl
        | true => rw [nodesTo_at hq k hlt] at hr; cases hr)
      clear ha
      generalize ndAt ns k = x at *
      obtain ⟨op, a, bb, nx⟩ := x
      simp only at n0 n1 n2 n3
      have hb1 : Hid (Below w1.heap.size w1 (wr.alloc (.cells #[.int .i64 op, .int .i64 a, .int .i64 bb, .int .i64 nx] 31))) := hide (Below.step hb.out (below_alloc _ _))
      by_cases hop : op = 1 ∨ op = 2 ∨ op = 3 ∨ op = 4 ∨ op = 5 ∨ op = 6 ∨ op = 7 ∨ op = 8
      · rcases hop with rfl | rfl | rfl | rfl | rfl | rfl | rfl | rfl
        · have HZ := hide (HT.out (by simp [rightN, inR]; try omega))
          go_wp2_with fail
          exact ⟨⟨k + 1, by omega, by go_num, hb1, HZ⟩, by simp [intOf]; omega⟩
        · have HZ := hide (HT.out (by simp [rightN, inR]; try omega))
          go_wp2_with fail
          exact ⟨⟨k + 1, by omega, by go_num, hb1, HZ⟩, by simp [intOf]; omega⟩
        · by_cases hc2 : 0 ≤ a
          · by_cases hc1 : a < given
            · have HZ := hide (HT.out (by simp [rightN, inR]; try omega))
              go_wp2_with fail
              exact ⟨⟨k + 1, by omega, by go_num, hb1, HZ⟩, by simp [intOf]; omega⟩
            · have hcb : decide (a < given) = false := decide_eq_false hc1
              have HZ := hide (HF.out (by simp [rightN, inR]; try omega))
              go_wp2_with fail
              go_ret
              exact ⟨ret_bool HZ.out.symm, Below.step HB0.out hb1.out⟩
          · have hcb : decide (0 ≤ a) = false := decide_eq_false hc2
            have HZ := hide (HF.out (by simp [rightN, inR]; try omega))
            go_wp2_with fail
            go_ret
            exact ⟨ret_bool HZ.out.symm, Below.step HB0.out hb1.out⟩
        · by_cases hin : 0 ≤ a ∧ a ≤ 1
          · obtain ⟨hi0, hi1⟩ := hin
            by_cases hc2 : 0 ≤ nx
            · by_cases hc1 : nx < (ns.length : Int)
              · have HZ := hide (HT.out (by simp [rightN, inR]; try omega))
                have HC := hide (in_is a 0 1 true (by simp [inC]; omega))
                go_wp2_with fail
                refine (HC.out _).mono ?_
                rintro e w' ⟨rfl, rfl⟩
                go_wp2_with fail
                exact ⟨⟨k + 1, by omega, by go_num, hb1, HZ⟩, by simp [intOf]; omega⟩
              · have hcb : decide (nx < (ns.length : Int)) = false := decide_eq_false hc1
                have HZ := hide (HF.out (by simp [rightN, inR]; try omega))
                have HC := hide (in_is a 0 1 true (by simp [inC]; omega))
                go_wp2_with fail
                refine (HC.out _).mono ?_
                rintro e w' ⟨rfl, rfl⟩
                go_wp2_with fail
                go_ret
                exact ⟨ret_bool HZ.out.symm, Below.step HB0.out hb1.out⟩
            · have hcb : decide (0 ≤ nx) = false := decide_eq_false hc2
              have HZ := hide (HF.out (by simp [rightN, inR]; try omega))
              have HC := hide (in_is a 0 1 true (by simp [inC]; omega))
              go_wp2_with fail
              refine (HC.out _).mono ?_
              rintro e w' ⟨rfl, rfl⟩
              go_wp2_with fail
              go_ret
              exact ⟨ret_bool HZ.out.symm, Below.step HB0.out hb1.out⟩
          · have HZ := hide (HF.out (by simp [rightN, inR]; try omega))
            have HC := hide (in_is a 0 1 false (by simp [inC]; omega))
            go_wp2_with fail
            refine (HC.out _).mono ?_
            rintro e w' ⟨rfl, rfl⟩
            go_wp2_with fail
            go_ret
            exact ⟨ret_bool HZ.out.symm, Below.step HB0.out hb1.out⟩
        · by_cases hc4 : 0 ≤ a
          · by_cases hc3 : a < (k : Int)
            · by_cases hc2 : 0 ≤ bb
              · by_cases hc1 : bb < (k : Int)
                · have HZ := hide (HT.out (by simp [rightN, inR]; try omega))
                  go_wp2_with fail
                  exact ⟨⟨k + 1, by omega, by go_num, hb1, HZ⟩, by simp [intOf]; omega⟩
                · have hcb : decide (bb < (k : Int)) = false := decide_eq_false hc1
                  have HZ := hide (HF.out (by simp [rightN, inR]; try omega))
                  go_wp2_with fail
                  go_ret
                  exact ⟨ret_bool HZ.out.symm, Below.step HB0.out hb1.out⟩
              · have hcb : decide (0 ≤ bb) = false := decide_eq_false hc2
                have HZ := hide (HF.out (by simp [rightN, inR]; try omega))
                go_wp2_with fail
                go_ret
                exact ⟨ret_bool HZ.out.symm, Below.step HB0.out hb1.out⟩
            · have hcb : decide (a < (k : Int)) = false := decide_eq_false hc3
              have HZ := hide (HF.out (by simp [rightN, inR]; try omega))
              go_wp2_with fail
              go_ret
              exact ⟨ret_bool HZ.out.symm, Below.step HB0.out hb1.out⟩
          · have hcb : decide (0 ≤ a) = false := decide_eq_false hc4
            have HZ := hide (HF.out (by simp [rightN, inR]; try omega))
            go_wp2_with fail
            go_ret
            exact ⟨ret_bool HZ.out.symm, Below.step HB0.out hb1.out⟩
        · by_cases hc4 : 0 ≤ a
          · by_cases hc3 : a < (k : Int)
            · by_cases hc2 : 0 ≤ bb
              · by_cases hc1 : bb < (k : Int)
                · have HZ := hide (HT.out (by simp [rightN, inR]; try omega))
                  go_wp2_with fail
                  exact ⟨⟨k + 1, by omega, by go_num, hb1, HZ⟩, by simp [intOf]; omega⟩
                · have hcb : decide (bb < (k : Int)) = false := decide_eq_false hc1
                  have HZ := hide (HF.out (by simp [rightN, inR]; try omega))
                  go_wp2_with fail
                  go_ret
                  exact ⟨ret_bool HZ.out.symm, Below.step HB0.out hb1.out⟩
              · have hcb : decide (0 ≤ bb) = false := decide_eq_false hc2
                have HZ := hide (HF.out (by simp [rightN, inR]; try omega))
                go_wp2_with fail
                go_ret
                exact ⟨ret_bool HZ.out.symm, Below.step HB0.out hb1.out⟩
            · have hcb : decide (a < (k : Int)) = false := decide_eq_false hc3
              have HZ := hide (HF.out (by simp [rightN, inR]; try omega))
              go_wp2_with fail
              go_ret
              exact ⟨ret_bool HZ.out.symm, Below.step HB0.out hb1.out⟩
          · have hcb : decide (0 ≤ a) = false := decide_eq_false hc4
            have HZ := hide (HF.out (by simp [rightN, inR]; try omega))
            go_wp2_with fail
            go_ret
            exact ⟨ret_bool HZ.out.symm, Below.step HB0.out hb1.out⟩
        · by_cases hc4 : 0 ≤ a
          · by_cases hc3 : a < (k : Int)
            · by_cases hc2 : 0 ≤ bb
              · by_cases hc1 : bb < (k : Int)
                · have HZ := hide (HT.out (by simp [rightN, inR]; try omega))
                  go_wp2_with fail
                  exact ⟨⟨k + 1, by omega, by go_num, hb1, HZ⟩, by simp [intOf]; omega⟩
                · have hcb : decide (bb < (k : Int)) = false := decide_eq_false hc1
                  have HZ := hide (HF.out (by simp [rightN, inR]; try omega))
                  go_wp2_with fail
                  go_ret
                  exact ⟨ret_bool HZ.out.symm, Below.step HB0.out hb1.out⟩
              · have hcb : decide (0 ≤ bb) = false := decide_eq_false hc2
                have HZ := hide (HF.out (by simp [rightN, inR]; try omega))
                go_wp2_with fail
                go_ret
                exact ⟨ret_bool HZ.out.symm, Below.step HB0.out hb1.out⟩
            · have hcb : decide (a < (k : Int)) = false := decide_eq_false hc3
              have HZ := hide (HF.out (by simp [rightN, inR]; try omega))
              go_wp2_with fail
              go_ret
              exact ⟨ret_bool HZ.out.symm, Below.step HB0.out hb1.out⟩
          · have hcb : decide (0 ≤ a) = false := decide_eq_false hc4
            have HZ := hide (HF.out (by simp [rightN, inR]; try omega))
            go_wp2_with fail
            go_ret
            exact ⟨ret_bool HZ.out.symm, Below.step HB0.out hb1.out⟩
        · by_cases hc2 : 0 ≤ a
          · by_cases hc1 : a < (k : Int)
            · have HZ := hide (HT.out (by simp [rightN, inR]; try omega))
              go_wp2_with fail
              exact ⟨⟨k + 1, by omega, by go_num, hb1, HZ⟩, by simp [intOf]; omega⟩
            · have hcb : decide (a < (k : Int)) = false := decide_eq_false hc1
              have HZ := hide (HF.out (by simp [rightN, inR]; try omega))
              go_wp2_with fail
              go_ret
              exact ⟨ret_bool HZ.out.symm, Below.step HB0.out hb1.out⟩
          · have hcb : decide (0 ≤ a) = false := decide_eq_false hc2
            have HZ := hide (HF.out (by simp [rightN, inR]; try omega))
            go_wp2_with fail
            go_ret
            exact ⟨ret_bool HZ.out.symm, Below.step HB0.out hb1.out⟩
      · have q1 : (op == 1) = false := beq_eq_false_iff_ne.2 (by omega)
        have q2 : (op == 2) = false := beq_eq_false_iff_ne.2 (by omega)
        have q3 : (op == 3) = false := beq_eq_false_iff_ne.2 (by omega)
        have q4 : (op == 4) = false := beq_eq_false_iff_ne.2 (by omega)
        have q5 : (op == 5) = false := beq_eq_false_iff_ne.2 (by omega)
        have q6 : (op == 6) = false := beq_eq_false_iff_ne.2 (by omega)
        have q7 : (op == 7) = false := beq_eq_false_iff_ne.2 (by omega)
        have q8 : (op == 8) = false := beq_eq_false_iff_ne.2 (by omega)
        have HZ := hide (HF.out (by
          have r1 : ¬ op = 1 := by omega
          have r2 : ¬ op = 2 := by omega
          have r3 : ¬ op = 3 := by omega
          have r4 : ¬ op = 4 := by omega
          have r5 : ¬ op = 5 := by omega
          have r6 : ¬ op = 6 := by omega
          have r7 : ¬ op = 7 := by omega
          have r8 : ¬ op = 8 := by omega
          simp [rightN, r1, r2, r3, r4, r5, r6, r7, r8]))
        clear hop
        go_wp2_with fail
        go_ret
        exact ⟨ret_bool HZ.out.symm, Below.step HB0.out hb1.out⟩
    · have HJ : Hid (nodesTo given ns ns.length = true) := hide (by have e : k = ns.length := by omega
                                                                    have := hno.out
                                                                    rwa [e] at this)
      have p2 : wr.cell? ⟨w.heap.size, 2, none⟩ = some (.slice oa os.length oc) := by rw [blk_cell (Below.blk hb.out HP0.out)]; rfl
      have HOr := hide ((HO.out.below HB0.out).below hb.out)
      have HBF := hide (Below.step HB0.out hb.out)
      go_wp2_with fail
      clear hno p2
      go_loop [8, 108] (fun _ i => ∃ k : Nat, k ≤ os.length ∧ i = .int .i64 k ∧ Hid (outsTo ns.length os k = true)) (fun _ i => os.length - (intOf i).toNat)
      case atStart => exact ⟨0, Nat.zero_le _, rfl, hide rfl⟩
      case round =>
        obtain ⟨q, hq, rfl, hno⟩ := hrel
        by_cases hlt2 : q < os.length
        · have hqi : (q : Int) < (os.length : Int) := by omega
          obtain ⟨b, off, ha, _, _, n0⟩ := HOr.out.ints hlt2
          have HA := hide ha
          rw [HA.out]
          have HT : Hid (inR (outAt os q) ns.length = true → outsTo ns.length os (q + 1) = true) := hide fun h => by simp only [outsTo, h, hno.out]; rfl
          have HF : Hid (inR (outAt os q) ns.length = false → (nodesTo given ns ns.length && outsTo ns.length os os.length) = false) := hide (by
            intro hr
            cases hq : outsTo ns.length os os.length with
            | false => exact Bool.and_false _
            | true => rw [outsTo_at hq q hlt2] at hr; cases hr)
          clear ha
          generalize outAt os q = ov at *
          by_cases h0 : 0 ≤ ov
          · by_cases h1 : ov < (ns.length : Int)
            · have HZ := hide (HT.out (by simp [inR]; omega))
              go_wp2_with fail
              exact ⟨⟨q + 1, by omega, by go_num, HZ⟩, by simp [intOf]; omega⟩
            · have HZ := hide (HF.out (by simp [inR]; omega))
              have h1b : (ns.length : Int) ≤ ov := by omega
              go_wp2_with fail
              go_ret
              exact ⟨ret_bool HZ.out.symm, HBF.out⟩
          · have HZ := hide (HF.out (by simp [inR]; omega))
            have h1b : ov < 0 := by omega
            go_wp2_with fail
            go_ret
            exact ⟨ret_bool HZ.out.symm, HBF.out⟩
        · have HT : Hid ((nodesTo given ns ns.length && outsTo ns.length os os.length) = true) := hide (by
            have e : q = os.length := by omega
            have := hno.out
            rw [e] at this
            rw [HJ.out, this]; rfl)
          go_wp2_with fail
          go_ret
          exact ⟨ret_bool HT.out.symm, HBF.out⟩

theorem rright_at {S T : Nat → Prop} (given : Int) (ns : List Nd) (os : List Int) (na oa : Option Addr) (nc oc : Nat) (w : World) (hn : Lies S w na (ndsC ns)) (ho : Lies T w oa (intsC os)) (h60 : ns.length ≤ 60) (h30 : os.length ≤ 30) :
    Calls Tryd.prog 6 #[.agg #[.int .i64 given, .slice na ns.length nc, .slice oa os.length oc]] w fun e w' => e = .returned (.bool (rightP given ns os)) ∧ Below w.heap.size w w' := by
  cases hg : inC given 0 20000 with
  | true =>
    have := rright_on given ns os na oa nc oc w hn ho (by omega) (by omega) hg
    have e : sizesR given ns os = true := by simp [inC] at hg; simp [sizesR]; omega
    simpa [rightP, e] using this
  | false =>
    have := rright_off given ns.length os.length na oa nc oc w (by omega) (by omega) hg
    have e : rightP given ns os = false := by
      cases hq : rightP given ns os with
      | false => rfl
      | true => have h := rightP_iff.1 hq; have h0 := h.g0; have h1 := h.g1; simp [inC] at hg; omega
    rw [e]; exact this
end Go.Proofs.YtoghcacigdeloaaDoor
