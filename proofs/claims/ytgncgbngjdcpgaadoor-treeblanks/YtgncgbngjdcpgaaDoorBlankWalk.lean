/-
  THE WALK of TreeBlanks.
-/
import Derived.Test.YtgncgbngjdcpgaaDoorBackWalk
import Derived.Test.YtgncgbngjdcpgaaDoorTurn
set_option linter.unusedSimpArgs false
set_option linter.unusedVariables false
namespace Go.Proofs.YtgncgbngjdcpgaaDoor
open Go.RowKit

def repT (j : Nat) : List UInt8 := if j = 0 then [32] else if j = 1 then [10] else if j = 2 then [9, 32] else [32, 32, 10]
def pk4 (a : Int) : Nat := (a % 4).toNat
theorem pk4_lt (a : Int) : pk4 a < 4 := by unfold pk4; omega
def repOf (xs : Nat → Int) (len n : Nat) : List UInt8 := repT (pk4 (xs (n % len)))
theorem repT_good (j : Nat) : repT j ≠ [] ∧ (∀ c ∈ repT j, isBl c = true) ∧ (repT j).length ≤ 3 := by
  unfold repT
  split
  · exact ⟨by simp, by simp [isBl], by simp⟩
  · split
    · exact ⟨by simp, by simp [isBl], by simp⟩
    · split
      · exact ⟨by simp, by simp [isBl], by simp⟩
      · exact ⟨by simp, by simp [isBl], by simp⟩
theorem repOf_reps (xs : Nat → Int) (len : Nat) : Reps (repOf xs len) := ⟨fun n => (repT_good _).1, fun n => (repT_good _).2.1, fun n => (repT_good _).2.2⟩
theorem index_rep (j : Nat) (h : j < 4) (w : World) : (Instr.index 37 (.agg #[.string ⟨#[32]⟩, .string ⟨#[10]⟩, .string ⟨#[9, 32]⟩, .string ⟨#[32, 32, 10]⟩]) (.int .i64 j)).run Tryd.prog w = .ok (.string ⟨(repT j).toArray⟩) w := by
  rcases (show j = 0 ∨ j = 1 ∨ j = 2 ∨ j = 3 by omega) with rfl | rfl | rfl | rfl <;> kernel_rfl

set_option maxRecDepth 100000 in
set_option maxHeartbeats 1600000 in
theorem pick_at (a : Int) (w : World) :
    Calls Tryd.prog 9 #[.int .i64 a, .int .i64 4] w fun e w' => e = .returned (.int .i64 (pk4 a : Nat)) ∧ w' = w := by
  go_enter Tryd.func9, Tryd.ntmps9
  go_wp2
  go_ret
  refine ⟨ret_int ?_, rfl⟩
  rw [IntKind.wrap_u64, tmod_of_emod]
  unfold pk4 wrap64
  omega

set_option maxRecDepth 100000 in
set_option maxHeartbeats 6400000 in
theorem blank_at (s : ByteArray) (w : World) (ao : Option Addr) (len cap : Nat) (b off : Nat) (xs : Nat → Int) (hao : 0 < len → ao = some ⟨b, off, none⟩) (hcap : len ≤ cap) (hcm : cap ≤ maxLen) (hxs : ∀ i, i < len → w.cell? ⟨b, off + i, none⟩ = some (.int .i64 (xs i))) (hv : Vars w) (ht : Tab w) (h14 : 6 ≤ w.heap.size) :
    Calls Tryd.prog 4 #[.string s, .slice ao len cap] w fun e w' => e = .returned (.bool true) ∧ Below w.heap.size w w' := by
  have HV := hide hv
  have HT := hide ht
  have HXS := hide hxs
  clear hv ht hxs
  by_cases hbig : 500 < s.size
  · have hbi : (500 : Int) < (s.size : Int) := by omega
    go_enter Tryd.func4, Tryd.ntmps4
    go_wp2_with fail
    go_ret
    exact ⟨rfl, Below.refl _ _⟩
  by_cases hbig2 : 40 < len
  · have hbi : (s.size : Int) ≤ 500 := by omega
    have hbi2 : (40 : Int) < (len : Int) := by omega
    go_enter Tryd.func4, Tryd.ntmps4
    go_wp2_with fail
    go_ret
    exact ⟨rfl, Below.refl _ _⟩
  · have hbi : (s.size : Int) ≤ 500 := by omega
    have hbi2 : (len : Int) ≤ 40 := by omega
    have hs5 : s.size ≤ 500 := by omega
    go_enter Tryd.func4, Tryd.ntmps4
    go_wp2_with fail
    refine (parsed_at w HV.out HT.out h14).mono ?_
    rintro e w1 ⟨rfl, hb1⟩
    have HB1 := hide hb1
    have HV1 := hide (HV.out.below hb1)
    have HT1 := hide (HT.out.below hb1 h14)
    have H141 := hide (Nat.le_trans h14 hb1.size)
    clear hb1
    go_wp2_with fail
    refine (parse_at s w1 (by omega) HV1.out H141.out).mono ?_
    rintro e w2 ⟨hb2, h2⟩
    have HB2 := hide (Below.step HB1.out hb2)
    have HV2 := hide (HV1.out.below hb2)
    have HT2 := hide (HT1.out.below hb2 H141.out)
    have H142 := hide (Nat.le_trans H141.out hb2.size)
    clear hb2
    cases hp : parse2 s with
    | out => rw [hp] at h2; exact h2.elim
    | bad er q =>
      rw [hp] at h2
      obtain ⟨A, rfl, hA⟩ := h2
      clear hA hp
      go_wp2_with fail
      go_ret
      exact ⟨rfl, Below.step HB2.out (below_alloc _ _)⟩
    | ok p k =>
      rw [hp] at h2
      obtain ⟨v, rfl, h2⟩ := h2
      obtain ⟨aa, ac, ba, bc, rfl, hd, hs⟩ := prRep_parts h2
      by_cases hl0 : len = 0
      · subst hl0
        clear hp h2 hd hs
        go_wp2_with fail
        go_ret
        exact ⟨rfl, Below.step HB2.out (below_alloc _ _)⟩
      obtain rfl := hao (by omega)
      obtain ⟨hg, hkl⟩ := parse_inv (by omega) hp
      obtain ⟨b', k', her, hback⟩ := round_turned hs5 hp (repOf_reps xs len)
      have hlen := print_len hg
      have HG := hide hg
      have HLN := hide (show (printT p).length ≤ 300000 by omega)
      have HE := hide her
      have HTE : Hid (printT (p.1, b') = printT p) := printT_er HE.out
      have HBK := hide hback
      have HTN := hide (show (turnB (repOf xs len) (printT p)).1.length ≤ 1000000 by
        have := turn_len (repOf_reps xs len) (printT p) [] 0
        unfold turnB
        simp only [List.length_nil] at this
        omega)
      have HO := hide (below_alloc w2 (.cells #[.slice aa p.1.length ac, .slice ba p.2.length bc] 26))
      have HC := hide (copied hd hs HO.out)
      have HL0 := hide hl0
      have hne0 : ((len : Int) == 0) = false := by simp; omega
      clear h2 hd hs hg hkl her hback hlen hp hl0
      have HV3 := hide (HV2.out.below HO.out)
      have HT3 := hide (HT2.out.below HO.out H142.out)
      have H143 := hide (Nat.le_trans H142.out HO.out.size)
      have HPR := hide (print_at p HG.out (by have := HLN.out; omega) _ (w2.alloc (.cells #[.slice aa p.1.length ac, .slice ba p.2.length bc] 26)) _ _ HC.out.1 HC.out.2 (fun c h => Nat.lt_of_lt_of_le h.2 HO.out.size) HV3.out HT3.out H143.out)
      go_wp2_with fail
      generalize (w2.alloc (.cells #[.slice aa p.1.length ac, .slice ba p.2.length bc] 26)) = w3 at *
      refine HPR.out.mono ?_
      rintro e w4 ⟨rfl, hb4⟩
      have HB4 := hide (Below.step HB2.out (Below.step HO.out hb4))
      have HV4 := hide (HV3.out.below hb4)
      have HT4 := hide (HT3.out.below hb4 H143.out)
      have H144 := hide (Nat.le_trans H143.out hb4.size)
      clear hb4
      have HTS : Hid ((⟨(printT p).toArray⟩ : ByteArray).size = (printT p).length) := str_sz _
      have HTL : Hid ((⟨(printT p).toArray⟩ : ByteArray).data.toList = printT p) := rfl
      have HCE := hide fun i hi => (HB4.out.cell (cell_lt (HXS.out i hi))).trans (HXS.out i hi)
      have HRE : Hid (∀ n, repOf xs len n = repT (pk4 (xs (n % len)))) := fun _ => rfl
      have HRP := hide (repOf_reps xs len)
      generalize repOf xs len = rep at *
      generalize printT p = q at *
      generalize (⟨q.toArray⟩ : ByteArray) = T at *
      have hT3 : T.size ≤ 300000 := by rw [HTS.out]; exact HLN.out
      go_wp2_with fail
      go_loop [8, 9, 10] (fun o n i => ∃ (j c : Nat) (t : List UInt8), j ≤ T.size ∧ i = .int .i64 j ∧ n = .int .i64 c ∧ o = .string ⟨t.toArray⟩ ∧ c ≤ j ∧ t.length ≤ 3 * j ∧ Hid (turnB rep (q.take j) = (t, c))) (fun _ _ i => T.size - (intOf i).toNat)
      case atStart => exact ⟨0, 0, [], Nat.zero_le _, rfl, rfl, rfl, Nat.le_refl _, Nat.le_refl _, hide rfl⟩
      case round =>
        obtain ⟨j, c, t, hj, rfl, rfl, rfl, hcj, htl, htb⟩ := hrel
        by_cases hlt : j < T.size
        · have hji : (j : Int) < (T.size : Int) := by omega
          have HQJ : Hid (j < q.length) := by show _ < _; rw [← HTS.out]; exact hlt
          have HTJ := hide (turn_take rep q j HQJ.out)
          have hx : T[j] = q[j]'HQJ.out := by
            have := HTL.out
            subst this
            exact (Array.getElem_toList _).symm
          generalize q[j]'HQJ.out = d at *
          by_cases hb : d = 32 ∨ d = 10
          · have HST : Hid (turnB rep (q.take (j + 1)) = (t ++ rep c, c + 1)) := by show _ = _; rw [HTJ.out, htb.out]; simp [stepB, hb]
            have hlp : 0 < len := by have := HL0.out; omega
            have hcl : c % len < len := Nat.mod_lt _ hlp
            have hrem : Int.tmod (c : Int) (len : Int) = ((c % len : Nat) : Int) := by rw [Int.tmod_eq_emod_of_nonneg (by omega)]; omega
            have hli : ((c % len : Nat) : Int) < (len : Int) := by omega
            have hne : ¬ (len : Int) = 0 := by omega
            have cj := HCE.out (c % len) hcl
            have HPK := hide (pick_at (xs (c % len)) w4)
            have hir := index_rep (pk4 (xs (c % len))) (pk4_lt _)
            have HRC := hide (HRE.out c)
            have HR3 := hide ((HRP.out).len c)
            rw [← HRC.out] at hir
            have hcat := cat_run t (rep c) (by have := HR3.out; omega)
            generalize c % len = m at *
            rcases hb with rfl | rfl
            · go_wp2_with fail
              refine HPK.out.mono ?_
              rintro e w5 ⟨rfl, rfl⟩
              go_wp2_with fail
              refine ⟨⟨j + 1, c + 1, t ++ rep c, by omega, by go_num, by go_num, rfl, by omega, by have := HR3.out; simp only [List.length_append]; omega, HST⟩, by simp [intOf]; omega⟩
            · go_wp2_with fail
              refine HPK.out.mono ?_
              rintro e w5 ⟨rfl, rfl⟩
              go_wp2_with fail
              refine ⟨⟨j + 1, c + 1, t ++ rep c, by omega, by go_num, by go_num, rfl, by omega, by have := HR3.out; simp only [List.length_append]; omega, HST⟩, by simp [intOf]; omega⟩
          · have HST : Hid (turnB rep (q.take (j + 1)) = (t ++ [d], c)) := by show _ = _; rw [HTJ.out, htb.out]; simp [stepB, hb]
            have hd1 : ((d.toNat : Int) == 32) = false := by
              simp only [beq_eq_false_iff_ne, ne_eq]
              intro e
              exact hb (.inl (UInt8.toNat_inj.1 (by show d.toNat = 32; omega)))
            have hd2 : ((d.toNat : Int) == 10) = false := by
              simp only [beq_eq_false_iff_ne, ne_eq]
              intro e
              exact hb (.inr (UInt8.toNat_inj.1 (by show d.toNat = 10; omega)))
            have hex : T.extract j (j + 1) = ⟨#[d]⟩ := by
              have h1 : T.data.toList.drop j = [d] ++ T.data.toList.drop (j + 1) := by
                rw [List.drop_eq_getElem_cons (by rw [Array.length_toList]; exact hlt)]
                rw [← hx]
                simp
                rfl
              have := extract_eq T j [d] _ h1
              simpa using this
            have hcat := cat_run t [d] (by simp; omega)
            clear hb
            go_wp2_with fail
            refine ⟨⟨j + 1, c, t ++ [d], by omega, by go_num, rfl, by simp, by omega, by simp only [List.length_append, List.length_cons, List.length_nil]; omega, HST⟩, by simp [intOf]; omega⟩
        · have HJ : Hid (j = T.size) := (by omega : j = T.size)
          have HTT : Hid ((turnB rep q).1 = t) := by
            show _ = _
            have := htb.out
            rw [HJ.out, HTS.out, List.take_length] at this
            rw [this]
          have HPA := hide (HBK.out ▸ parse_at ⟨(turnB rep q).1.toArray⟩ w4 (by rw [str_sz]; exact HTN.out) HV4.out H144.out)
          rw [HTT.out] at HPA
          have HPI := hide ((parse_inv (by rw [str_sz]; exact HTN.out) HBK.out).1)
          have hjf : decide ((j : Int) < (T.size : Int)) = false := by simp; omega
          go_wp2_with fail
          refine HPA.out.mono ?_
          rintro e w5 ⟨hb5, h5⟩
          obtain ⟨v, rfl, h5⟩ := h5
          obtain ⟨ca, cc, da, dc, rfl, hd, hs⟩ := prRep_parts h5
          simp only at hd hs
          have HB5 := hide (Below.step HB4.out hb5)
          have HV5 := hide (HV4.out.below hb5)
          have HT5 := hide (HT4.out.below hb5 H144.out)
          have H145 := hide (Nat.le_trans H144.out hb5.size)
          have HO6 := hide (below_alloc w5 (.cells #[.slice ca p.1.length cc, .slice da b'.length dc] 26))
          have HC6 := hide (copied (p := (p.1, b')) hd hs HO6.out)
          clear hb5 h5 hd hs
          have HPR2 := hide (print_at (p.1, b') HPI.out (by rw [HTE.out]; have := HLN.out; omega) _ (w5.alloc (.cells #[.slice ca p.1.length cc, .slice da b'.length dc] 26)) _ _ HC6.out.1 HC6.out.2 (fun c h => Nat.lt_of_lt_of_le h.2 HO6.out.size) (HV5.out.below HO6.out) (HT5.out.below HO6.out H145.out) (Nat.le_trans H145.out HO6.out.size))
          rw [HTE.out] at HPR2
          go_wp2_with fail
          refine HPR2.out.mono ?_
          rintro e w7 ⟨rfl, hb7⟩
          have HB7 := hide (Below.step (Below.step HB5.out HO6.out) hb7)
          clear hb7
          go_wp2_with fail
          go_ret
          refine ⟨?_, HB7.out⟩
          show Ending.returned (.bool (q == T.toList)) = _
          rw [ByteArray.toList_eq, HTL.out]
          simp
end Go.Proofs.YtgncgbngjdcpgaaDoor
