/-
  CONTRACTS of right, Right, Gates.
-/
import Derived.Test.YtlnmemeejgnbeaaGLeaf
set_option linter.unusedSimpArgs false
set_option linter.unusedVariables false
namespace Go.Proofs.Ytlnmemeejgnbeaa
open Go.RowKit

theorem right_any {s : NetP} {S : Nat → Prop} {w : World} {given : Int} {ns : List Nd} {os : List Int} (h : NetAt s S w given ns os) (i : Nat) (hi : i < ns.length) :
    Calls Try.prog 20 #[.pointer (some ⟨s.p, 0, none⟩), .int .i64 i] w fun e w' => e = .returned (.bool (rightN given ns.length i (ndAt ns i))) ∧ Below w.heap.size w w' := by
  obtain ⟨b, off, ha, _, _, n0, n1, n2, n3⟩ := h.nodes.nodes hi
  have c0 := h.c0
  have c1 := h.c1
  rw [ha] at c1
  have hii : (i : Int) < (ns.length : Int) := by omega
  generalize ndAt ns i = x at *
  obtain ⟨op, a, bb, nx⟩ := x
  simp only at n0 n1 n2 n3
  by_cases h1 : op = 1
  · subst h1; exact right_1 _ _ _ _ _ _ .nilIface _ _ _ _ _ hii c0 c1 n0 n1 n2 n3
  by_cases h2 : op = 2
  · subst h2; exact right_2 _ _ _ _ _ _ .nilIface _ _ _ _ _ hii c0 c1 n0 n1 n2 n3
  by_cases h3 : op = 3
  · subst h3; exact right_3 _ _ _ _ _ _ .nilIface _ _ _ _ _ hii c0 c1 n0 n1 n2 n3
  by_cases h4 : op = 4
  · subst h4
    cases hq : inR a 2 with
    | true => have := right_4t _ _ _ _ _ _ .nilIface _ _ _ _ _ hq hii c0 c1 n0 n1 n2 n3; simpa [rightN, hq] using this
    | false => have := right_4f _ _ _ _ _ _ .nilIface _ _ _ _ _ hq hii c0 c1 n0 n1 n2 n3; simpa [rightN, hq] using this
  by_cases h5 : op = 5
  · subst h5
    cases hq : inR a i with
    | true => have := right_5t _ _ _ _ _ _ .nilIface _ _ _ _ _ hq hii c0 c1 n0 n1 n2 n3; simpa [rightN, hq] using this
    | false => have := right_5f _ _ _ _ _ _ .nilIface _ _ _ _ _ hq hii c0 c1 n0 n1 n2 n3; simpa [rightN, hq] using this
  by_cases h6 : op = 6
  · subst h6
    cases hq : inR a i with
    | true => have := right_6t _ _ _ _ _ _ .nilIface _ _ _ _ _ hq hii c0 c1 n0 n1 n2 n3; simpa [rightN, hq] using this
    | false => have := right_6f _ _ _ _ _ _ .nilIface _ _ _ _ _ hq hii c0 c1 n0 n1 n2 n3; simpa [rightN, hq] using this
  by_cases h7 : op = 7
  · subst h7
    cases hq : inR a i with
    | true => have := right_7t _ _ _ _ _ _ .nilIface _ _ _ _ _ hq hii c0 c1 n0 n1 n2 n3; simpa [rightN, hq] using this
    | false => have := right_7f _ _ _ _ _ _ .nilIface _ _ _ _ _ hq hii c0 c1 n0 n1 n2 n3; simpa [rightN, hq] using this
  by_cases h8 : op = 8
  · subst h8; exact right_8 _ _ _ _ _ _ .nilIface _ _ _ _ _ hii c0 c1 n0 n1 n2 n3
  · have hn : rightN given ns.length i ⟨op, a, bb, nx⟩ = false := by simp [rightN, h1, h2, h3, h4, h5, h6, h7, h8]
    rw [hn]
    refine right_no _ _ _ _ _ _ .nilIface _ _ _ _ _ _ ?_ hii c0 c1 n0 n1 n2 n3
    intro k k1 k8
    rw [beq_eq_false_iff_ne]
    omega

set_option maxRecDepth 100000 in
set_option maxHeartbeats 3200000 in
theorem Right_off {s : NetP} {S : Nat → Prop} {w : World} {given : Int} {ns : List Nd} {os : List Int} (h : NetAt s S w given ns os) (hn : (ns.length : Int) ≤ 20000) (ho : (os.length : Int) ≤ 20000) (hg : given < 0 ∨ 20000 < given) :
    Calls Try.prog 9 #[.pointer (some ⟨s.p, 0, none⟩)] w fun e w' => e = .returned (.bool false) ∧ Below w.heap.size w w' := by
  have c0 := h.c0
  have c1 := h.c1
  have c2 := h.c2
  clear h
  rcases hg with hg | hg
  · go_enter Try.func9, Try.ntmps9
    go_wp2_with fail
    go_ret
    exact ⟨rfl, Below.refl _ _⟩
  · have hg2 : ¬ given < 0 := by omega
    go_enter Try.func9, Try.ntmps9
    go_wp2_with fail
    go_ret
    exact ⟨rfl, Below.refl _ _⟩

set_option maxRecDepth 100000 in
set_option maxHeartbeats 3200000 in
theorem Right_on {s : NetP} {S : Nat → Prop} {w : World} {given : Int} {ns : List Nd} {os : List Int} (h : NetAt s S w given ns os) (hn : (ns.length : Int) ≤ 20000) (ho : (os.length : Int) ≤ 20000) (hg0 : 0 ≤ given) (hg1 : given ≤ 20000) :
    Calls Try.prog 9 #[.pointer (some ⟨s.p, 0, none⟩)] w fun e w' => e = .returned (.bool (nodesTo given ns ns.length && outsTo ns.length os os.length)) ∧ Below w.heap.size w w' := by
  have c0 := h.c0
  have c1 := h.c1
  have c2 := h.c2
  have H := hide h
  clear h
  go_enter Try.func9, Try.ntmps9
  go_wp2_with fail
  go_loopw [3, 43] (fun _ i wr => ∃ k : Nat, k ≤ ns.length ∧ i = .int .i64 k ∧ Hid (Below w.heap.size w wr) ∧ Hid (nodesTo given ns k = true)) (fun _ i _ => ns.length - (intOf i).toNat)
  case atStart => exact ⟨0, Nat.zero_le _, rfl, hide (Below.refl _ _), hide rfl⟩
  case round =>
    obtain ⟨k, hk, rfl, hb, hno⟩ := hrel
    by_cases hlt : k < ns.length
    · have hki : (k : Int) < (ns.length : Int) := by omega
      have HC := hide (right_any (H.out.below hb.out) k hlt)
      cases hr : rightN given ns.length k (ndAt ns k) with
      | true =>
        rw [hr] at HC
        have HT : Hid (nodesTo given ns (k + 1) = true) := hide (by simp only [nodesTo, hr, hno.out]; rfl)
        clear hr
        go_wp2_with fail
        refine HC.out.mono ?_
        rintro e w4 ⟨rfl, hb4⟩
        have HB4 := hide (Below.step hb.out hb4)
        clear hb4
        go_wp2_with fail
        exact ⟨⟨k + 1, by omega, by go_num, HB4, HT⟩, by simp [intOf]; omega⟩
      | false =>
        rw [hr] at HC
        have HT : Hid ((nodesTo given ns ns.length && outsTo ns.length os os.length) = false) := hide (by
          cases hq : nodesTo given ns ns.length with
          | false => rfl
          | true => rw [nodesTo_at hq k hlt] at hr; cases hr)
        clear hr
        go_wp2_with fail
        refine HC.out.mono ?_
        rintro e w4 ⟨rfl, hb4⟩
        have HB4 := hide (Below.step hb.out hb4)
        clear hb4
        go_wp2_with fail
        go_ret
        exact ⟨ret_bool HT.out.symm, HB4.out⟩
    · have HJ : Hid (nodesTo given ns ns.length = true) := hide (by have e : k = ns.length := by omega
                                                                    have := hno.out
                                                                    rwa [e] at this)
      have HR := hide (H.out.below hb.out)
      have c0 := HR.out.c0
      have c1 := HR.out.c1
      have c2 := HR.out.c2
      go_wp2_with fail
      clear hno
      go_loop [5, 56] (fun _ i => ∃ k : Nat, k ≤ os.length ∧ i = .int .i64 k ∧ Hid (outsTo ns.length os k = true)) (fun _ i => os.length - (intOf i).toNat)
      case atStart => exact ⟨0, Nat.zero_le _, rfl, hide rfl⟩
      case round =>
        obtain ⟨q, hq, rfl, hno⟩ := hrel
        by_cases hlt2 : q < os.length
        · have hki : (q : Int) < (os.length : Int) := by omega
          obtain ⟨b, off, ha, _, _, n0⟩ := HR.out.outs.ints hlt2
          have HA := hide ha
          rw [ha] at c2
          rw [HA.out]
          clear ha
          cases hr : inR (outAt os q) ns.length with
          | true =>
            have HT : Hid (outsTo ns.length os (q + 1) = true) := hide (by simp only [outsTo, hr, hno.out]; rfl)
            have HC := hide (below_is _ _ _ hr wr)
            clear hr
            go_wp2_with fail
            refine HC.out.mono ?_
            rintro e w5 ⟨rfl, rfl⟩
            go_wp2_with fail
            exact ⟨⟨q + 1, by omega, by go_num, HT⟩, by simp [intOf]; omega⟩
          | false =>
            have HT : Hid ((nodesTo given ns ns.length && outsTo ns.length os os.length) = false) := hide (by
              cases hq : outsTo ns.length os os.length with
              | false => exact Bool.and_false _
              | true => rw [outsTo_at hq q hlt2] at hr; cases hr)
            have HC := hide (below_is _ _ _ hr wr)
            clear hr
            go_wp2_with fail
            refine HC.out.mono ?_
            rintro e w5 ⟨rfl, rfl⟩
            go_wp2_with fail
            go_ret
            exact ⟨ret_bool HT.out.symm, hb.out⟩
        · have HT : Hid ((nodesTo given ns ns.length && outsTo ns.length os os.length) = true) := hide (by
            have e : q = os.length := by omega
            have := hno.out
            rw [e] at this
            rw [HJ.out, this]; rfl)
          go_wp2_with fail
          go_ret
          exact ⟨ret_bool HT.out.symm, hb.out⟩

theorem Right_at {s : NetP} {S : Nat → Prop} {w : World} {given : Int} {ns : List Nd} {os : List Int} (h : NetAt s S w given ns os) (hn : ns.length ≤ 20000) (ho : os.length ≤ 20000) :
    Calls Try.prog 9 #[.pointer (some ⟨s.p, 0, none⟩)] w fun e w' => e = .returned (.bool (rightP given ns os)) ∧ Below w.heap.size w w' := by
  by_cases hg : 0 ≤ given ∧ given ≤ 20000
  · have := Right_on h (by omega) (by omega) hg.1 hg.2
    simpa [rightP, sizesR, hg, hn, ho] using this
  · have := Right_off h (by omega) (by omega) (by omega)
    have e : rightP given ns os = false := by
      cases hq : rightP given ns os with
      | false => rfl
      | true => have := rightP_iff.1 hq; exact absurd ⟨this.g0, this.g1⟩ hg
    rw [e]; exact this

set_option maxRecDepth 100000 in
set_option maxHeartbeats 3200000 in
theorem Gates_at {s : NetP} {S : Nat → Prop} {w : World} {given : Int} {ns : List Nd} {os : List Int} (h : NetAt s S w given ns os) (hn : (ns.length : Int) ≤ 20000) :
    Calls Try.prog 8 #[.pointer (some ⟨s.p, 0, none⟩)] w fun e w' => e = .returned (.int .i64 (gatesTo ns ns.length)) ∧ Below w.heap.size w w' := by
  have c1 := h.c1
  have H := hide h
  clear h
  go_enter Try.func8, Try.ntmps8
  go_wp2_with fail
  go_loopw [3, 5, 13] (fun g _ i wr => ∃ k : Nat, k ≤ ns.length ∧ g = .int .i64 (gatesTo ns k) ∧ i = .int .i64 k ∧ Hid (Below w.heap.size w wr)) (fun _ _ i _ => ns.length - (intOf i).toNat)
  case atStart => exact ⟨0, Nat.zero_le _, rfl, rfl, hide (Below.refl _ _)⟩
  case round =>
    obtain ⟨k, hk, rfl, rfl, hb⟩ := hrel
    by_cases hlt : k < ns.length
    · have hki : (k : Int) < (ns.length : Int) := by omega
      obtain ⟨b, off, ha, _, _, n0, n1, n2, n3⟩ := (H.out.nodes.below hb.out).nodes hlt
      have hgk := gatesTo_le ns k
      have HG : Hid (gatesTo ns (k + 1) = gatesTo ns k + (if isGate (ndAt ns k) then 1 else 0)) := hide rfl
      have HA := hide ha
      rw [HA.out]
      clear ha
      generalize ndAt ns k = x at *
      generalize gatesTo ns k = gk at *
      obtain ⟨op, a, bb, nx⟩ := x
      simp only at n0 n1 n2 n3
      have hb1 : Hid (Below w.heap.size w (wr.alloc (.cells #[.int .i64 op, .int .i64 a, .int .i64 bb, .int .i64 nx] 26))) := hide (Below.step hb.out (below_alloc _ _))
      by_cases hop : op = 5 ∨ op = 6 ∨ op = 7 ∨ op = 8
      · have HG1 : Hid (gatesTo ns (k + 1) = gk + 1) := hide (by rw [HG.out, if_pos (by rcases hop with rfl | rfl | rfl | rfl <;> rfl)])
        clear HG
        rcases hop with rfl | rfl | rfl | rfl
        all_goals
          go_wp2_with fail
          exact ⟨⟨k + 1, by omega, by rw [HG1.out]; go_num, by go_num, hb1⟩, by simp [intOf]; omega⟩
      · have HG1 : Hid (gatesTo ns (k + 1) = gk) := hide (by rw [HG.out, if_neg (by simp [isGate]; omega)]; rfl)
        have q5 : (op == 5) = false := beq_eq_false_iff_ne.2 (by omega)
        have q6 : (op == 6) = false := beq_eq_false_iff_ne.2 (by omega)
        have q7 : (op == 7) = false := beq_eq_false_iff_ne.2 (by omega)
        have q8 : (op == 8) = false := beq_eq_false_iff_ne.2 (by omega)
        clear HG hop
        go_wp2_with fail
        exact ⟨⟨k + 1, by omega, by rw [HG1.out], by go_num, hb1⟩, by simp [intOf]; omega⟩
    · have HJ : Hid (k = ns.length) := hide (by omega)
      go_wp2_with fail
      go_ret
      exact ⟨ret_int (by rw [HJ.out]), hb.out⟩
end Go.Proofs.Ytlnmemeejgnbeaa
