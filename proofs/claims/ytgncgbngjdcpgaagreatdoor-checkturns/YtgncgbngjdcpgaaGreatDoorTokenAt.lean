/-
  CONTRACT of tokenAt: the token that stands at a place.
-/
import Derived.Test.YtgncgbngjdcpgaaGreatDoorPast
import Derived.Test.YtgncgbngjdcpgaaGreatDoorWords
namespace Go.Proofs.YtgncgbngjdcpgaaGreatDoor
open Go.RowKit

abbrev DGL : List UInt8 := [48, 49, 50, 51, 52, 53, 54, 55, 56, 57]
abbrev LDL : List UInt8 := [97, 98, 99, 100, 101, 102, 103, 104, 105, 106, 107, 108, 109, 110, 111, 112, 113, 114, 115, 116, 117, 118, 119, 120, 121, 122, 95, 48, 49, 50, 51, 52, 53, 54, 55, 56, 57]
theorem past_dg (l : List UInt8) (i : Nat) : past (fun c => DGL.contains c) l i = past isDg l i := rfl
theorem past_ld (l : List UInt8) (i : Nat) : past (fun c => LDL.contains c) l i = past isLd l i := rfl

theorem cell_new2 (w : World) (a b : Obj) (v : Value) (t : TypeId) : (((w.alloc a).alloc b).alloc (.cells #[v] t)).cell? ⟨w.heap.size + 1 + 1, 0, none⟩ = some v := by
  have h := blk_cell (blk_new ((w.alloc a).alloc b) (.cells #[v] t)) 0
  simp only [World.size_alloc] at h
  exact h
theorem extract_end (s : ByteArray) (i : Nat) : (s.extract i s.size).data.toList = s.data.toList.drop i := by
  rw [ByteArray.data_extract, Array.toList_extract]
  show List.take (s.data.size - i) (List.drop i s.data.toList) = _
  apply List.take_of_length_le
  simp
abbrev tokVal (t : Tok) : Value := .agg #[.int .i64 t.kind, .string t.text, .int .i64 t.pos]

theorem index_marks (j : Nat) (h : j < 15) (w : World) : (Instr.index 156 (.agg (strs marksL)) (.int .i64 j)).run Tryz.prog w = .ok (.string ⟨((marksL[j]?).getD []).toArray⟩) w := by
  have hl : marksL.length = 15 := rfl
  have e := strs_get marksL j (by omega)
  simp [Instr.index, go_sem, part, e, hl, h]
theorem find_none (l : List (List UInt8)) (p : List UInt8 → Bool) (h : ∀ t, t < l.length → p ((l[t]?).getD []) = false) : l.find? p = none := by
  rw [List.find?_eq_none]
  intro x hx
  obtain ⟨t, ht, e⟩ := List.getElem_of_mem hx
  have := h t ht
  rw [List.getElem?_eq_getElem ht, Option.getD_some, e] at this
  simp [this]
theorem find_some (l : List (List UInt8)) (p : List UInt8 → Bool) (j : Nat) (hj : j < l.length) (h : ∀ t, t < j → p ((l[t]?).getD []) = false) (hp : p ((l[j]?).getD []) = true) : l.find? p = some ((l[j]?).getD []) := by
  rw [List.getElem?_eq_getElem hj, Option.getD_some] at hp ⊢
  rw [List.find?_eq_some_iff_getElem]
  refine ⟨hp, j, hj, rfl, fun t ht => ?_⟩
  have := h t ht
  rw [List.getElem?_eq_getElem (by omega), Option.getD_some] at this
  simp [this]

set_option maxRecDepth 100000 in
set_option maxHeartbeats 6400000 in
theorem tokenAt_at (s : ByteArray) (i : Nat) (w : World) (hi : i ≤ s.size) (hs : s.size ≤ 1000000) (hv : Vars w) :
    Calls Tryz.prog 48 #[.string s, .int .i64 i] w fun e w' => e = .returned (tokVal (tokenAt s i)) ∧ Below w.heap.size w w' := by
  have HZ := hide (Array.length_toList (xs := s.data))
  have HP1 := hide (past_le isDg s.data.toList i (by rw [Array.length_toList]; exact hi))
  have HP2 := hide (past_le isLd s.data.toList i (by rw [Array.length_toList]; exact hi))
  have HE1 : Hid (i < past isDg s.data.toList i → tokenAt s i = ⟨2, s.extract i (past isDg s.data.toList i), i⟩) := fun h => by simp only [tokenAt, if_pos h]
  have HE2 : Hid (¬ i < past isDg s.data.toList i → i < past isLd s.data.toList i → tokenAt s i = ⟨1, s.extract i (past isLd s.data.toList i), i⟩) := fun h h2 => by simp only [tokenAt, if_neg h, if_pos h2]
  have HE3 : Hid (¬ i < past isDg s.data.toList i → ¬ i < past isLd s.data.toList i → ∀ m, marksL.find? (fun m => m.isPrefixOf (s.data.toList.drop i)) = some m → tokenAt s i = ⟨3, ⟨m.toArray⟩, i⟩) := fun h h2 m hm => by simp only [tokenAt, if_neg h, if_neg h2, hm]
  have HE4 : Hid (¬ i < past isDg s.data.toList i → ¬ i < past isLd s.data.toList i → marksL.find? (fun m => m.isPrefixOf (s.data.toList.drop i)) = none → tokenAt s i = ⟨0, ⟨#[]⟩, i⟩) := fun h h2 hm => by simp only [tokenAt, if_neg h, if_neg h2, hm]
  have HC1 : Hid (∀ (B : Nat) (w : World), w.cell? ⟨B, 0, none⟩ = some (.string ⟨DGL.toArray⟩) → Calls Tryz.prog 85 #[.string s, .int .i64 i, .func (.func 123) #[] #[.pointer (some ⟨B, 0, none⟩)]] w fun e w' => e = .returned (.int .i64 (past isDg s.data.toList i)) ∧ w' = w) := fun B w hB => past_at DGL B s i w hi hs hB
  have HC2 : Hid (∀ (B : Nat) (w : World), w.cell? ⟨B, 0, none⟩ = some (.string ⟨LDL.toArray⟩) → Calls Tryz.prog 85 #[.string s, .int .i64 i, .func (.func 123) #[] #[.pointer (some ⟨B, 0, none⟩)]] w fun e w' => e = .returned (.int .i64 (past isLd s.data.toList i)) ∧ w' = w) := fun B w hB => past_at LDL B s i w hi hs hB
  have HV := hide hv
  clear hv
  generalize past isDg s.data.toList i = p1 at *
  generalize past isLd s.data.toList i = p2 at *
  have hp1 : p1 ≤ s.size := by have := HP1.out.2; rw [HZ.out] at this; exact this
  have hp1i : i ≤ p1 := HP1.out.1
  have hp2 : p2 ≤ s.size := by have := HP2.out.2; rw [HZ.out] at this; exact this
  have hp2i : i ≤ p2 := HP2.out.1
  generalize htk : tokenAt s i = t at *
  clear htk
  by_cases h1 : i < p1
  · obtain rfl := HE1.out h1
    have h1' : (i : Int) < (p1 : Int) := by omega
    go_enter Tryz.func48, Tryz.ntmps48
    go_wp2_with fail
    refine (oneOf_at DGL _).mono ?_
    rintro e w1 ⟨rfl, rfl⟩
    go_wp2_with fail
    refine (HC1.out (w.heap.size + 1) _ (by simp)).mono ?_
    rintro e w1 ⟨rfl, rfl⟩
    go_wp2_with fail
    refine bodyPost_ret (v := .agg #[.int .i64 2, .string (s.extract i p1), .int .i64 i]) (by simp [results, Tryz.results48, go_sem]) rfl ⟨rfl, ?_⟩
    exact (below_alloc w _).alloc (by simp) _
  · have h1' : ¬ (i : Int) < (p1 : Int) := by omega
    by_cases h2 : i < p2
    · obtain rfl := HE2.out h1 h2
      have h2' : (i : Int) < (p2 : Int) := by omega
      go_enter Tryz.func48, Tryz.ntmps48
      go_wp2_with fail
      refine (oneOf_at DGL _).mono ?_
      rintro e w1 ⟨rfl, rfl⟩
      go_wp2_with fail
      refine (HC1.out (w.heap.size + 1) _ (by simp)).mono ?_
      rintro e w1 ⟨rfl, rfl⟩
      go_wp2_with fail
      refine (oneOf_at LDL _).mono ?_
      rintro e w1 ⟨rfl, rfl⟩
      go_wp2_with fail
      refine Calls.mono (HC2.out (w.heap.size + 1 + 1) _ ?hc) ?_
      case hc => exact cell_new2 w _ _ _ _
      rintro e w1 ⟨rfl, rfl⟩
      go_wp2_with fail
      refine bodyPost_ret (v := .agg #[.int .i64 1, .string (s.extract i p2), .int .i64 i]) (by simp [results, Tryz.results48, go_sem]) rfl ⟨rfl, ?_⟩
      exact ((below_alloc w _).alloc (by simp) _).alloc (by simp; omega) _
    · have h2' : ¬ (i : Int) < (p2 : Int) := by omega
      go_enter Tryz.func48, Tryz.ntmps48
      go_wp2_with fail
      refine (oneOf_at DGL _).mono ?_
      rintro e w1 ⟨rfl, rfl⟩
      go_wp2_with fail
      refine (HC1.out (w.heap.size + 1) _ (by simp)).mono ?_
      rintro e w1 ⟨rfl, rfl⟩
      go_wp2_with fail
      refine (oneOf_at LDL _).mono ?_
      rintro e w1 ⟨rfl, rfl⟩
      go_wp2_with fail
      refine Calls.mono (HC2.out (w.heap.size + 1 + 1) _ ?hc) ?_
      case hc => exact cell_new2 w _ _ _ _
      rintro e w1 ⟨rfl, rfl⟩
      have HB3 : Hid (Below w.heap.size w (((w.alloc (.cells #[.int .i64 0, .string ⟨#[]⟩, .int .i64 0] 102)).alloc (.cells #[.string ⟨DGL.toArray⟩] 9)).alloc (.cells #[.string ⟨LDL.toArray⟩] 9))) := ((below_alloc w _).alloc (by simp) _).alloc (by simp; omega) _
      have HG := hide (HV.out.below HB3.out).marks
      have HZM := hide (show (Tryz.prog.info? 156).map (·.size) = some (strs marksL).size by kernel_rfl)
      have HI := hide index_marks
      have HL := hide (show marksL.length = 15 from rfl)
      have HX3 := hide (HE3.out h1 h2)
      have HX4 := hide (HE4.out h1 h2)
      have HFN := hide (find_none marksL fun m => m.isPrefixOf (s.data.toList.drop i))
      have HFS := hide (find_some marksL fun m => m.isPrefixOf (s.data.toList.drop i))
      have HHP := hide fun (m : List UInt8) (w : World) => Tryz.strings_HasPrefix (s.extract i s.size) ⟨m.toArray⟩ w
      have HXT := hide (extract_end s i)
      generalize strs marksL = KA at *
      generalize marksL = kl at *
      clear HE1 HE2 HE3 HE4 HC1 HC2
      go_wp2_with (refine wpList_load_row rfl 156 (.global 1) rfl 1 rfl _ _ _ _ HG.out Tryz.underlying156 rfl HZM.out ?_)
      go_loop [8, 36] (fun _ a => ∃ j : Nat, j ≤ 15 ∧ a = .int .i64 j ∧ Hid (∀ t, t < j → ((kl[t]?).getD []).isPrefixOf (s.data.toList.drop i) = false)) (fun _ a => 15 - (intOf a).toNat)
      case atStart => exact ⟨0, Nat.zero_le _, rfl, (fun t ht => by omega : ∀ t, t < 0 → ((kl[t]?).getD []).isPrefixOf (s.data.toList.drop i) = false)⟩
      case round =>
        obtain ⟨j, hj, rfl, hsame⟩ := hrel
        by_cases hlt : j < 15
        · have hix := HI.out j hlt
          have hj1 : (j : Int) < 15 := by omega
          generalize hx : (kl[j]?).getD [] = x at *
          have HX : Hid ((kl[j]?).getD [] = x) := hx
          clear hx
          go_wp2_with fail
          refine (HHP.out x _).mono ?_
          rintro e w1 ⟨rfl, rfl⟩
          rw [show Lib.hasPrefix (s.extract i s.size).data.toList (⟨x.toArray⟩ : ByteArray).data.toList = x.isPrefixOf (s.data.toList.drop i) by rw [HXT.out]; rfl]
          cases hp : x.isPrefixOf (s.data.toList.drop i) with
          | true =>
            obtain rfl := HX3.out x (by rw [HFS.out j (by rw [HL.out]; exact hlt) hsame.out (by rw [HX.out]; exact hp), HX.out])
            go_wp2_with fail
            refine bodyPost_ret (v := .agg #[.int .i64 3, .string ⟨x.toArray⟩, .int .i64 i]) (by simp [results, Tryz.results48, go_sem]) rfl ⟨rfl, ?_⟩
            exact ((below_alloc w _).alloc (by simp) _).alloc (by simp; omega) _
          | false =>
            go_wp2_with fail
            refine ⟨⟨j + 1, by omega, by go_num, (fun t ht => ?_ : ∀ t, t < j + 1 → ((kl[t]?).getD []).isPrefixOf (s.data.toList.drop i) = false)⟩, by simp [intOf]; omega⟩
            rcases Nat.lt_or_ge t j with h3 | h3
            · exact hsame.out t h3
            · rw [show t = j by omega, HX.out]; exact hp
        · have HJ : Hid (j = 15) := (by omega : j = 15)
          obtain rfl := HX4.out (HFN.out (by rw [HL.out, ← HJ.out]; exact hsame.out))
          go_wp2_with fail
          refine bodyPost_ret (v := .agg #[.int .i64 0, .string ⟨#[]⟩, .int .i64 i]) (by simp [results, Tryz.results48, go_sem]) rfl ⟨rfl, ?_⟩
          exact ((below_alloc w _).alloc (by simp) _).alloc (by simp; omega) _
end Go.Proofs.YtgncgbngjdcpgaaGreatDoor
