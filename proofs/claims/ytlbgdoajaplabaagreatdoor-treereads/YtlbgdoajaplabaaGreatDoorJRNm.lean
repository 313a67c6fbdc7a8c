/-
  CONTRACTS of the reference's Word and Name.
  CONTRACT of tree.Name.
  PLAIN: both Names are one.
-/
import Derived.Test.YtlbgdoajaplabaaGreatDoorRTok
import Derived.Test.YtlbgdoajaplabaaGreatDoorRTxt
import Derived.Test.YtlbgdoajaplabaaGreatDoorJPast
set_option linter.unusedSimpArgs false
set_option linter.unusedVariables false
namespace Go.Proofs.YtlbgdoajaplabaaGreatDoor
open Go.RowKit

def wordB : List UInt8 → Bool
  | [] => false
  | c :: r => lowB c && r.all (fun c => lowB c || digB c)
theorem wordB_true {l : List UInt8} (hne : l ≠ []) (h : ∀ t (ht : t < l.length), lowB l[t] = true ∨ (t ≠ 0 ∧ digB l[t] = true)) : wordB l = true := by
  cases l with
  | nil => exact absurd rfl hne
  | cons c r =>
    have h0 : lowB c = true := by
      rcases h 0 (by simp) with h | h
      · exact h
      · exact absurd rfl h.1
    simp only [wordB, Bool.and_eq_true, List.all_eq_true]
    refine ⟨h0, fun d hd => ?_⟩
    obtain ⟨i, hi, rfl⟩ := List.getElem_of_mem hd
    rcases h (i + 1) (by simp; omega) with h | h
    · have h' : lowB r[i] = true := h
      rw [h']; rfl
    · have h' : digB r[i] = true := h.2
      rw [h', Bool.or_true]
theorem wordB_false {l : List UInt8} (t : Nat) (ht : t < l.length) (h1 : lowB l[t] = false) (h2 : t = 0 ∨ digB l[t] = false) : wordB l = false := by
  cases l with
  | nil => rfl
  | cons c r =>
    cases t with
    | zero =>
      have h1' : lowB c = false := h1
      simp only [wordB, h1', Bool.false_and]
    | succ i =>
      have hi : i < r.length := by simpa using ht
      have h1' : lowB r[i] = false := h1
      have h2' : digB r[i] = false := by
        rcases h2 with h | h
        · omega
        · exact h
      rw [Bool.eq_false_iff]
      intro hb
      simp only [wordB, Bool.and_eq_true, List.all_eq_true] at hb
      have := hb.2 r[i] (List.getElem_mem hi)
      rw [h1', h2'] at this
      cases this

set_option maxRecDepth 100000 in
set_option maxHeartbeats 3200000 in
theorem rword_at (s : ByteArray) (hs : s.size ≤ 1000000) (w : World) :
    Calls Tryz.prog 27 #[.string s] w fun e w' => e = .returned (.bool (wordB s.data.toList)) ∧ w' = w := by
  have hsz : s.data.toList.length = s.size := Array.length_toList
  have HSZ := hide hsz
  clear hsz
  go_enter Tryz.func27, Tryz.ntmps27
  go_wp2_with fail
  go_loop [3, 6] (fun _ i => ∃ j : Nat, j ≤ s.size ∧ i = .int .i64 j ∧ Hid (∀ t (ht : t < s.data.toList.length), t < j → lowB s.data.toList[t] = true ∨ (t ≠ 0 ∧ digB s.data.toList[t] = true))) (fun _ i => s.size - (intOf i).toNat)
  case atStart => exact ⟨0, Nat.zero_le _, rfl, (fun t ht h => by omega : ∀ t (ht : t < s.data.toList.length), t < 0 → lowB s.data.toList[t] = true ∨ (t ≠ 0 ∧ digB s.data.toList[t] = true))⟩
  case round =>
    obtain ⟨j, hj, rfl, hall⟩ := hrel
    by_cases hjt : j < s.size
    · have hj1 : (j : Int) < (s.size : Int) := by omega
      have HJL : Hid (j < s.data.toList.length) := hide (by rw [HSZ.out]; exact hjt)
      have HCJ : Hid (s.data.toList[j]'HJL.out = s[j]'hjt) := hide (Array.getElem_toList _)
      go_wp2_with fail
      refine (rlow_at (s[j]'hjt) w).mono ?_
      rintro e w2' ⟨rfl, rfl⟩
      cases hlj : lowB (s[j]'hjt) with
      | true =>
        have HON : Hid (lowB (s.data.toList[j]'HJL.out) = true) := hide (by rw [HCJ.out]; exact hlj)
        clear hlj
        go_wp2_with fail
        refine ⟨⟨j + 1, by omega, by go_num, (fun t ht h => ?_ : ∀ t (ht : t < s.data.toList.length), t < j + 1 → lowB s.data.toList[t] = true ∨ (t ≠ 0 ∧ digB s.data.toList[t] = true))⟩, by simp [intOf]; omega⟩
        by_cases htj : t = j
        · subst htj; exact .inl HON.out
        · exact hall.out t ht (by omega)
      | false =>
        have HON : Hid (lowB (s.data.toList[j]'HJL.out) = false) := hide (by rw [HCJ.out]; exact hlj)
        clear hlj
        by_cases hj0 : j = 0
        · have HW : Hid (wordB s.data.toList = false) := hide (wordB_false j HJL.out HON.out (.inl hj0))
          have hji : ((j : Int) == 0) = true := by simp; omega
          go_wp2_with fail
          go_ret
          rw [HW.out]
          exact ⟨rfl, rfl⟩
        · have hji : ((j : Int) == 0) = false := by simp; omega
          go_wp2_with fail
          refine (rdig_at (s[j]'hjt) _).mono ?_
          rintro e w3' ⟨rfl, rfl⟩
          cases hdj : digB (s[j]'hjt) with
          | true =>
            have HDN : Hid (digB (s.data.toList[j]'HJL.out) = true) := hide (by rw [HCJ.out]; exact hdj)
            clear hdj
            go_wp2_with fail
            refine ⟨⟨j + 1, by omega, by go_num, (fun t ht h => ?_ : ∀ t (ht : t < s.data.toList.length), t < j + 1 → lowB s.data.toList[t] = true ∨ (t ≠ 0 ∧ digB s.data.toList[t] = true))⟩, by simp [intOf]; omega⟩
            by_cases htj : t = j
            · subst htj; exact .inr ⟨hj0, HDN.out⟩
            · exact hall.out t ht (by omega)
          | false =>
            have HDN : Hid (digB (s.data.toList[j]'HJL.out) = false) := hide (by rw [HCJ.out]; exact hdj)
            have HW : Hid (wordB s.data.toList = false) := hide (wordB_false j HJL.out HON.out (.inr HDN.out))
            clear hdj
            go_wp2_with fail
            go_ret
            rw [HW.out]
            exact ⟨rfl, rfl⟩
    · have hj1 : ¬ (j : Int) < (s.size : Int) := by omega
      by_cases h0 : s = ⟨#[]⟩
      · subst h0
        go_wp2_with fail
        go_ret
        exact ⟨rfl, rfl⟩
      · have HW : Hid (wordB s.data.toList = true) := hide (wordB_true (fun e => h0 (ba_ext (by rw [e]))) fun t ht => hall.out t ht (by have := HSZ.out; omega))
        have hne : s.toList.isEmpty = false := by
          rw [ByteArray.toList_eq]
          cases h : s.data.toList with
          | nil => exact absurd (ba_ext (by rw [h])) h0
          | cons c r => rfl
        go_wp2_with fail
        go_ret
        rw [HW.out]
        exact ⟨rfl, rfl⟩

theorem low_blank {c : UInt8} (h : lowB c = true ∨ digB c = true) : c ≠ 32 := by
  rintro rfl
  rcases h with h | h
  · exact absurd h (by decide)
  · exact absurd h (by decide)
theorem word_blank {l : List UInt8} (h : wordB l = true) : ∀ c ∈ l, c ≠ 32 := by
  cases l with
  | nil => intro c hc; cases hc
  | cons d r =>
    simp only [wordB, Bool.and_eq_true, List.all_eq_true, Bool.or_eq_true] at h
    intro c hc
    rcases List.mem_cons.1 hc with rfl | hc
    · exact low_blank (.inl h.1)
    · exact low_blank (h.2 c hc)
/-- what may be a name -/
def nameB (s : ByteArray) : Bool := wordB s.data.toList && decide (s.size ≤ 12) && !keptL.contains s.toList

set_option maxRecDepth 100000 in
set_option maxHeartbeats 3200000 in
theorem rNameF_at (s : ByteArray) (hs : s.size ≤ 1000000) (w : World) (hv : RVars w) :
    Calls Tryz.prog 10 #[.string s] w fun e w' => e = .returned (.bool (nameB s)) ∧ w' = w := by
  have HV := hide hv
  have HW := hide (rword_at s hs w)
  clear hv
  cases hq : wordB s.data.toList with
  | false =>
    have HN : Hid (nameB s = false) := hide (by simp [nameB, hq])
    rw [hq] at HW
    clear hq
    go_enter Tryz.func10, Tryz.ntmps10
    go_wp2_with fail
    refine HW.out.mono ?_
    rintro e w1 ⟨rfl, rfl⟩
    go_wp2_with fail
    go_ret
    rw [HN.out]
    exact ⟨rfl, rfl⟩
  | true =>
    have HK := hide (rkept_at s (word_blank hq) w HV.out.max)
    by_cases h12 : s.size ≤ 12
    · have hi : (s.size : Int) ≤ 12 := by omega
      have HN : Hid (nameB s = !keptL.contains s.toList) := hide (by simp [nameB, hq, h12])
      rw [hq] at HW
      clear hq
      have hz1 : (⟨#[32]⟩ : ByteArray).size = 1 := rfl
      have k1 : ∀ w, (Op.stringOp .add ⟨#[32]⟩ s).run Tryz.prog w = .ok (.string (⟨#[32]⟩ ++ s)) w := fun w => cat_at 100 (by rw [hz1]; omega) (by omega) w
      have k2 : ∀ w, (Op.stringOp .add (⟨#[32]⟩ ++ s) ⟨#[32]⟩).run Tryz.prog w = .ok (.string (⟨#[32]⟩ ++ s ++ ⟨#[32]⟩)) w := fun w => cat_at 100 (by rw [ByteArray.size_append, hz1]; omega) (by omega) w
      clear hz1
      go_enter Tryz.func10, Tryz.ntmps10
      go_wp2_with fail
      refine HW.out.mono ?_
      rintro e w1 ⟨rfl, rfl⟩
      go_wp2_with fail
      refine (HK.out _ rfl).mono ?_
      rintro e w2 ⟨rfl, rfl⟩
      cases hc : keptL.contains s.toList with
      | true =>
        rw [hc] at HN
        clear hc
        go_wp2_with fail
        go_ret
        rw [HN.out]
        exact ⟨rfl, rfl⟩
      | false =>
        rw [hc] at HN
        clear hc
        go_wp2_with fail
        go_ret
        rw [HN.out]
        exact ⟨rfl, rfl⟩
    · have hi : ¬ (s.size : Int) ≤ 12 := by omega
      have HN : Hid (nameB s = false) := hide (by simp [nameB, h12])
      rw [hq] at HW
      clear hq
      go_enter Tryz.func10, Tryz.ntmps10
      go_wp2_with fail
      refine HW.out.mono ?_
      rintro e w1 ⟨rfl, rfl⟩
      go_wp2_with fail
      go_ret
      rw [HN.out]
      exact ⟨rfl, rfl⟩
end Go.Proofs.YtlbgdoajaplabaaGreatDoor
set_option linter.unusedSimpArgs false
set_option linter.unusedVariables false
namespace Go.Proofs.YtlbgdoajaplabaaGreatDoor
open Go.RowKit

def tnameT (t : Tok) (s : ByteArray) : Bool := ((t.kind : Int) == 1 && !keptL.contains t.text.toList) && decide (t.text.size = s.size) && decide (s.size ≤ 12)

set_option maxRecDepth 100000 in
set_option maxHeartbeats 3200000 in
theorem tname_at (s : ByteArray) (hs : s.size ≤ 1000000) (w : World) (hv : Vars w) :
    Calls Tryz.prog 9 #[.string s] w fun e w' => e = .returned (.bool (tnameT (tokenAt s 0) s)) ∧ Below w.heap.size w w' := by
  have HT := hide (tokenAt_at s 0 w (Nat.zero_le _) hs hv)
  have HV := hide hv
  clear hv
  generalize tokenAt s 0 = tok at *
  obtain ⟨k, tx, p⟩ := tok
  have hc0 : Hid (Calls Tryz.prog 25 #[.string s, .int .i64 0] w fun e w' => e = .returned (.agg #[.int .i64 k, .string tx, .int .i64 p]) ∧ Below w.heap.size w w') := HT
  clear HT
  go_enter Tryz.func9, Tryz.ntmps9
  go_wp2_with fail
  refine hc0.out.mono ?_
  rintro e w1 ⟨rfl, h1⟩
  have H1 := hide h1
  have HA := hide (below_alloc w1 (.cells #[.int .i64 k, .string tx, .int .i64 p] 71))
  have HN := hide (blk_new w1 (.cells #[.int .i64 k, .string tx, .int .i64 p] 71))
  have HI := hide (isName_at k tx p (w1.alloc (.cells #[.int .i64 k, .string tx, .int .i64 p] 71)) ((HV.out.below h1).below HA.out))
  clear h1
  go_wp2_with fail
  refine HI.out.mono ?_
  rintro e w2 ⟨rfl, h2⟩
  have HB2 := hide (Below.step (Below.step H1.out HA.out) h2)
  have c1 : w2.cell? ⟨w1.heap.size, 1, none⟩ = some (.string tx) := by rw [blk_cell (Below.blk h2 HN.out)]; rfl
  clear h2
  cases hq : ((k : Int) == 1 && !keptL.contains tx.toList) with
  | false =>
    have HR : Hid (tnameT ⟨k, tx, p⟩ s = false) := hide (by simp only [tnameT, hq, Bool.false_and])
    clear hq
    go_wp2_with fail
    go_ret
    rw [HR.out]
    exact ⟨rfl, HB2.out⟩
  | true =>
    by_cases h3 : tx.size = s.size
    · by_cases h4 : s.size ≤ 12
      · have HR : Hid (tnameT ⟨k, tx, p⟩ s = true) := hide (by simp only [tnameT, hq, h3, h4, decide_true, Bool.and_true])
        have h3i : ((tx.size : Int) == (s.size : Int)) = true := by rw [h3]; simp
        have h4i : (s.size : Int) ≤ 12 := by omega
        clear hq
        go_wp2_with fail
        go_ret
        rw [HR.out]
        exact ⟨rfl, HB2.out⟩
      · have HR : Hid (tnameT ⟨k, tx, p⟩ s = false) := hide (by simp only [tnameT, h4, decide_false, Bool.and_false])
        have h3i : ((tx.size : Int) == (s.size : Int)) = true := by rw [h3]; simp
        have h4i : ¬ (s.size : Int) ≤ 12 := by omega
        clear hq
        go_wp2_with fail
        go_ret
        rw [HR.out]
        refine ⟨ret_bool ?_, HB2.out⟩
        rw [decide_eq_false_iff_not]
        omega
    · have HR : Hid (tnameT ⟨k, tx, p⟩ s = false) := hide (by simp only [tnameT, h3, decide_false, Bool.and_false, Bool.false_and])
      have h3i : ((tx.size : Int) == (s.size : Int)) = false := by simp; omega
      clear hq
      go_wp2_with fail
      go_ret
      rw [HR.out]
      exact ⟨rfl, HB2.out⟩
end Go.Proofs.YtlbgdoajaplabaaGreatDoor
set_option linter.unusedSimpArgs false
set_option linter.unusedVariables false
namespace Go.Proofs.YtlbgdoajaplabaaGreatDoor

theorem all_take (p : UInt8 → Bool) : ∀ l : List UInt8, (l.takeWhile p).length = l.length ↔ l.all p = true
  | [] => by simp
  | c :: r => by
    by_cases h : p c = true
    · have := all_take p r
      simp [List.takeWhile_cons, h, this]
    · have hf : p c = false := by simpa using h
      simp [List.takeWhile_cons, hf]
theorem dig_of {c : UInt8} (h : isDg c = false) : digB c = false := by rw [← dig_is]; exact h
theorem low_dg {c : UInt8} (h : isDg c = true) : lowB c = false := by
  rw [dig_is] at h
  simp only [digB, Bool.and_eq_true, decide_eq_true_eq] at h
  simp only [lowB, Bool.or_eq_false_iff, Bool.and_eq_false_iff, decide_eq_false_iff_not, beq_eq_false_iff_ne]
  omega
theorem tname_eq (s : ByteArray) : tnameT (tokenAt s 0) s = nameB s := by
  have hsz : s.data.toList.length = s.size := Array.length_toList
  have hp : ∀ p, past p s.data.toList 0 = (s.data.toList.takeWhile p).length := fun p => by simp [past]
  cases hl : s.data.toList with
  | nil =>
    have hw : wordB s.data.toList = false := by rw [hl]; rfl
    have hk : (tokenAt s 0).kind ≠ 1 := by
      have e1 : past isDg s.data.toList 0 = 0 := by rw [hp, hl]; rfl
      have e2 : past isLd s.data.toList 0 = 0 := by rw [hp, hl]; rfl
      simp only [tokenAt, e1, e2, Nat.lt_irrefl, if_false]
      split <;> simp
    have hk' : ((((tokenAt s 0).kind : Nat) : Int) == 1) = false := by simp; omega
    simp only [tnameT, nameB, hw, hk', Bool.false_and]
  | cons c r =>
    by_cases h1 : isDg c = true
    · have hlow : lowB c = false := low_dg h1
      have hw : wordB s.data.toList = false := by rw [hl]; simp only [wordB, hlow, Bool.false_and]
      have hk : (tokenAt s 0).kind = 2 := by
        have e1 : 0 < past isDg s.data.toList 0 := by rw [hp, hl]; simp [List.takeWhile_cons, h1]
        simp only [tokenAt, e1, if_true]
      have hk' : ((((tokenAt s 0).kind : Nat) : Int) == 1) = false := by rw [hk]; rfl
      simp only [tnameT, nameB, hw, hk', Bool.false_and]
    · have h1f : isDg c = false := by simpa using h1
      have hlow : lowB c = isLd c := by rw [ld_is, dig_of h1f, Bool.or_false]
      by_cases h2 : isLd c = true
      · have ht : tokenAt s 0 = ⟨1, s.extract 0 ((s.data.toList.takeWhile isLd).length), 0⟩ := by
          have e1 : past isDg s.data.toList 0 = 0 := by rw [hp, hl]; simp [List.takeWhile_cons, h1f]
          have e2 : 0 < past isLd s.data.toList 0 := by rw [hp, hl]; simp [List.takeWhile_cons, h2]
          unfold tokenAt
          rw [if_neg (by rw [e1]; omega), if_pos e2, hp]
        have hle : (s.data.toList.takeWhile isLd).length ≤ s.size := by rw [← hsz]; exact (List.takeWhile_sublist _).length_le
        have hall := all_take isLd s.data.toList
        have hwd : wordB s.data.toList = s.data.toList.all isLd := by
          rw [hl]
          simp only [wordB, List.all_cons, hlow]
          congr 1
          congr 1
          funext d
          exact (ld_is d).symm
        rw [ht]
        simp only [tnameT, nameB, hwd]
        generalize (s.data.toList.takeWhile isLd).length = n at *
        have hx : (s.extract 0 n).size = n := by simp; omega
        rw [hx]
        by_cases h3 : n = s.size
        · have h3a : s.data.toList.all isLd = true := hall.1 (by omega)
          have hs : s.extract 0 n = s := by rw [h3]; simp
          rw [h3a, hs]
          simp [h3, Bool.and_comm]
        · have h3a : s.data.toList.all isLd = false := by
            rw [Bool.eq_false_iff]
            intro h
            exact h3 (by have := hall.2 h; omega)
          rw [h3a]
          simp [h3]
      · have h2f : isLd c = false := by simpa using h2
        have hw : wordB s.data.toList = false := by rw [hl]; simp only [wordB, hlow, h2f, Bool.false_and]
        have hk : (tokenAt s 0).kind ≠ 1 := by
          have e1 : past isDg s.data.toList 0 = 0 := by rw [hp, hl]; simp [List.takeWhile_cons, h1f]
          have e2 : past isLd s.data.toList 0 = 0 := by rw [hp, hl]; simp [List.takeWhile_cons, h2f]
          simp only [tokenAt, e1, e2, Nat.lt_irrefl, if_false]
          split <;> simp
        have hk' : ((((tokenAt s 0).kind : Nat) : Int) == 1) = false := by simp; omega
        simp only [tnameT, nameB, hw, hk', Bool.false_and]
end Go.Proofs.YtlbgdoajaplabaaGreatDoor
