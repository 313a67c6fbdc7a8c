/-
  CONTRACTS of oneOf and past: looks at letters.
  CONTRACT of tokenAt: the token that stands at a place.
  PLAIN: what a token is like, and that there is always an answer.
  CONTRACT of tokens: the tokens of a text, and its end behind them.
-/
import Derived.Test.YtiimnnancblbkaaDoorJMem
import Derived.Test.YtiimnnancblbkaaDoorShelf
import Derived.Test.YtiimnnancblbkaaDoorJWords
import Derived.Deep.RegionHeld3
import Derived.Test.YtiimnnancblbkaaDoorDecls
namespace Go.Proofs.YtiimnnancblbkaaDoor
open Go.RowKit

theorem mem_index (l : List UInt8) (c : UInt8) : decide (0 ≤ Lib.indexByte l c) = l.contains c := by
  induction l with
  | nil => simp [Lib.indexByte]
  | cons a t ih =>
    unfold Lib.indexByte
    by_cases h : a = c
    · subst h; simp
    · rw [List.contains_cons]
      have h1 : (c == a) = false := by simp; exact fun e => h e.symm
      rw [h1, Bool.false_or, ← ih]
      by_cases h2 : Lib.indexByte t c = -1
      · simp [h, h2]
      · have := Lib.indexByte_ge t c
        simp [h, h2]; omega

set_option maxRecDepth 100000 in
set_option maxHeartbeats 3200000 in
theorem look_at (l : List UInt8) (B : Nat) (c : UInt8) (w : World) (hB : w.cell? ⟨B, 0, none⟩ = some (.string ⟨l.toArray⟩)) :
    Calls Tryd.prog 66 #[.int .u8 c.toNat, .pointer (some ⟨B, 0, none⟩)] w fun e w' => e = .returned (.bool (l.contains c)) ∧ w' = w := by
  have HI := hide (Tryd.strings_IndexByte ⟨l.toArray⟩ (c.toNat : Int) w)
  have HM := hide (mem_index l c)
  generalize hr : l.contains c = r at *
  clear hr
  go_enter Tryd.func66, Tryd.ntmps66
  go_wp2_with fail
  refine HI.out.mono ?_
  rintro e w' ⟨rfl, rfl⟩
  have hcc : ((c.toNat : Int).toNat.toUInt8) = c := by simp
  rw [hcc]
  generalize hx : Lib.indexByte l c = x at *
  go_wp2_with fail
  go_ret
  exact ⟨ret_bool HM.out, rfl⟩

theorem past_end (p : UInt8 → Bool) (l : List UInt8) (i j : Nat) (hij : i ≤ j) (hj : j ≤ l.length) (h1 : ∀ t (ht : t < l.length), i ≤ t → t < j → p l[t] = true) (h2 : ∀ ht : j < l.length, p l[j] = false) : past p l i = j := by
  unfold past
  obtain ⟨d, rfl⟩ : ∃ d, j = i + d := ⟨j - i, by omega⟩
  congr 1
  have hl : (l.drop i).takeWhile p = (l.drop i).take d := by
    have hd : d ≤ (l.drop i).length := by simp; omega
    have g1 : ∀ t (ht : t < (l.drop i).length), t < d → p (l.drop i)[t] = true := fun t ht htd => by
      rw [List.getElem_drop]; exact h1 (i + t) (by simp at ht; omega) (by omega) (by omega)
    have g2 : ∀ ht : d < (l.drop i).length, p (l.drop i)[d] = false := fun ht => by
      rw [List.getElem_drop]; exact h2 (by simp at ht; omega)
    generalize l.drop i = m at *
    clear h1 h2 hij hj
    induction d generalizing m with
    | zero =>
      cases m with
      | nil => rfl
      | cons a t => have := g2 (by simp); simp at this; simp [List.takeWhile, this]
    | succ d ih =>
      cases m with
      | nil => simp at hd
      | cons a t =>
        have ha := g1 0 (by simp) (by omega)
        simp at ha
        simp only [List.takeWhile, ha, List.take_succ_cons]
        congr 1
        exact ih t (by simpa using hd) (fun u hu hud => by have := g1 (u + 1) (by simpa using hu) (by omega); simpa using this) (fun hu => by have := g2 (by simpa using hu); simpa using this)
  rw [hl]; simp; omega

theorem past_le (p : UInt8 → Bool) (l : List UInt8) (i : Nat) (h : i ≤ l.length) : i ≤ past p l i ∧ past p l i ≤ l.length := by
  unfold past
  have : ((l.drop i).takeWhile p).length ≤ (l.drop i).length := (List.takeWhile_sublist _).length_le
  simp at this
  omega

set_option maxRecDepth 100000 in
set_option maxHeartbeats 3200000 in
theorem past_at (l : List UInt8) (B : Nat) (s : ByteArray) (i : Nat) (w : World) (hi : i ≤ s.size) (hs : s.size ≤ 1000000) (hB : w.cell? ⟨B, 0, none⟩ = some (.string ⟨l.toArray⟩)) :
    Calls Tryd.prog 48 #[.string s, .int .i64 i, .func (.func 66) #[] #[.pointer (some ⟨B, 0, none⟩)]] w fun e w' => e = .returned (.int .i64 (past (fun c => l.contains c) s.data.toList i)) ∧ w' = w := by
  have HE := hide (past_end (fun c => l.contains c) s.data.toList i)
  have HLO := hide fun c => look_at l B c w hB
  have hsz : s.data.toList.length = s.size := Array.length_toList
  have HSZ := hide hsz
  clear hB hsz
  generalize hr : past (fun c => l.contains c) s.data.toList i = r at *
  clear hr
  go_enter Tryd.func48, Tryd.ntmps48
  go_wp2_with fail
  go_loop [1] (fun a => ∃ j : Nat, i ≤ j ∧ j ≤ s.size ∧ a = .int .i64 j ∧ Hid (∀ t (ht : t < s.data.toList.length), i ≤ t → t < j → l.contains s.data.toList[t] = true)) (fun a => s.size - (intOf a).toNat)
  case atStart => exact ⟨i, Nat.le_refl _, hi, rfl, (fun t ht h1 h2 => by omega : ∀ t (ht : t < s.data.toList.length), i ≤ t → t < i → l.contains s.data.toList[t] = true)⟩
  case round =>
    obtain ⟨j, hij, hj, rfl, hall⟩ := hrel
    by_cases hlt : j < s.size
    · have hj1 : (j : Int) < (s.size : Int) := by omega
      have HJL : Hid (j < s.data.toList.length) := by show j < _; rw [HSZ.out]; exact hlt
      have HC : Hid (s.data.toList[j]'HJL.out = s[j]) := Array.getElem_toList _
      go_wp2_with fail
      refine (HLO.out s[j]).mono ?_
      rintro e w' ⟨rfl, rfl⟩
      cases hcn : l.contains s[j] with
      | true =>
        have HCN : Hid (l.contains (s.data.toList[j]'HJL.out) = true) := by show l.contains _ = true; rw [HC.out]; exact hcn
        clear hcn
        go_wp2_with fail
        refine ⟨⟨j + 1, by omega, by omega, by go_num, (fun t ht h1 h2 => ?_ : ∀ t (ht : t < s.data.toList.length), i ≤ t → t < j + 1 → l.contains s.data.toList[t] = true)⟩, by simp [intOf]; omega⟩
        rcases Nat.lt_or_ge t j with h3 | h3
        · exact hall.out t ht h1 h3
        · have : t = j := by omega
          subst this
          exact HCN.out
      | false =>
        have HCN : Hid (l.contains (s.data.toList[j]'HJL.out) = false) := by show l.contains _ = false; rw [HC.out]; exact hcn
        clear hcn
        go_wp2_with fail
        go_ret
        exact ⟨ret_int (by rw [HE.out j hij (by rw [HSZ.out]; exact hj) hall.out (fun _ => HCN.out)]), rfl⟩
    · have hj2 : decide ((j : Int) < (s.size : Int)) = false := by simp; omega
      go_wp2_with fail
      go_ret
      exact ⟨ret_int (by rw [HE.out j hij (by rw [HSZ.out]; exact hj) hall.out (fun ht => absurd (by rw [HSZ.out] at ht; exact ht) hlt)]), rfl⟩

set_option maxRecDepth 100000 in
set_option maxHeartbeats 3200000 in
theorem oneOf_at (l : List UInt8) (w : World) :
    Calls Tryd.prog 49 #[.string ⟨l.toArray⟩] w fun e w' => e = .returned (.func (.func 66) #[] #[.pointer (some ⟨w.heap.size, 0, none⟩)]) ∧ w' = w.alloc (.cells #[.string ⟨l.toArray⟩] 9) := by
  have hmf : ∀ (fn : Fn) (first cap : Array Value) (w : World), (Instr.makeFunc fn first cap).run Tryd.prog w = .ok (.func fn first cap) w := fun _ _ _ _ => rfl
  go_enter Tryd.func49, Tryd.ntmps49
  go_wp2_with fail
  go_ret
  exact ⟨rfl, rfl⟩
end Go.Proofs.YtiimnnancblbkaaDoor
namespace Go.Proofs.YtiimnnancblbkaaDoor
open Go.RowKit

abbrev DGL : List UInt8 := [48, 49, 50, 51, 52, 53, 54, 55, 56, 57]
abbrev LDL : List UInt8 := [97, 98, 99, 100, 101, 102, 103, 104, 105, 106, 107, 108, 109, 110, 111, 112, 113, 114, 115, 116, 117, 118, 119, 120, 121, 122, 95, 48, 49, 50, 51, 52, 53, 54, 55, 56, 57]
theorem past_dg (l : List UInt8) (i : Nat) : past (fun c => DGL.contains c) l i = past isDg l i := rfl
theorem past_ld (l : List UInt8) (i : Nat) : past (fun c => LDL.contains c) l i = past isLd l i := rfl

theorem cell_new2 (w : World) (a b : Obj) (v : Value) (t : TypeId) : (((w.alloc a).alloc b).alloc (.cells #[v] t)).cell? ⟨w.heap.size + 1 + 1, 0, none⟩ = some v := by
  have h := blk_cell (blk_new ((w.alloc a).alloc b) (.cells #[v] t)) 0
  simp only [World.size_alloc] at h
  exact h
theorem extract_end (s : ByteArray) (i : Nat) : (s.extract i s.size).data.toList = s.data.toList.drop i := by
  rw [ByteArray.data_extract, Array.toList_extract]
  show List.take (s.data.size - i) (List.drop i s.data.toList) = _
  apply List.take_of_length_le
  simp
abbrev tokVal (t : Tok) : Value := .agg #[.int .i64 t.kind, .string t.text, .int .i64 t.pos]

theorem index_marks (j : Nat) (h : j < 15) (w : World) : (Instr.index 122 (.agg (strs marksL)) (.int .i64 j)).run Tryd.prog w = .ok (.string ⟨((marksL[j]?).getD []).toArray⟩) w := by
  have hl : marksL.length = 15 := rfl
  have e := strs_get marksL j (by omega)
  simp [Instr.index, go_sem, part, e, hl, h]
theorem find_none (l : List (List UInt8)) (p : List UInt8 → Bool) (h : ∀ t, t < l.length → p ((l[t]?).getD []) = false) : l.find? p = none := by
  rw [List.find?_eq_none]
  intro x hx
  obtain ⟨t, ht, e⟩ := List.getElem_of_mem hx
  have := h t ht
  rw [List.getElem?_eq_getElem ht, Option.getD_some, e] at this
  simp [this]
theorem find_some (l : List (List UInt8)) (p : List UInt8 → Bool) (j : Nat) (hj : j < l.length) (h : ∀ t, t < j → p ((l[t]?).getD []) = false) (hp : p ((l[j]?).getD []) = true) : l.find? p = some ((l[j]?).getD []) := by
  rw [List.getElem?_eq_getElem hj, Option.getD_some] at hp ⊢
  rw [List.find?_eq_some_iff_getElem]
  refine ⟨hp, j, hj, rfl, fun t ht => ?_⟩
  have := h t ht
  rw [List.getElem?_eq_getElem (by omega), Option.getD_some] at this
  simp [this]

set_option maxRecDepth 100000 in
set_option maxHeartbeats 6400000 in
theorem tokenAt_at (s : ByteArray) (i : Nat) (w : World) (hi : i ≤ s.size) (hs : s.size ≤ 1000000) (hv : Vars w) :
    Calls Tryd.prog 50 #[.string s, .int .i64 i] w fun e w' => e = .returned (tokVal (tokenAt s i)) ∧ Below w.heap.size w w' := by
  have HZ := hide (Array.length_toList (xs := s.data))
  have HP1 := hide (past_le isDg s.data.toList i (by rw [Array.length_toList]; exact hi))
  have HP2 := hide (past_le isLd s.data.toList i (by rw [Array.length_toList]; exact hi))
  have HE1 : Hid (i < past isDg s.data.toList i → tokenAt s i = ⟨2, s.extract i (past isDg s.data.toList i), i⟩) := fun h => by simp only [tokenAt, if_pos h]
  have HE2 : Hid (¬ i < past isDg s.data.toList i → i < past isLd s.data.toList i → tokenAt s i = ⟨1, s.extract i (past isLd s.data.toList i), i⟩) := fun h h2 => by simp only [tokenAt, if_neg h, if_pos h2]
  have HE3 : Hid (¬ i < past isDg s.data.toList i → ¬ i < past isLd s.data.toList i → ∀ m, marksL.find? (fun m => m.isPrefixOf (s.data.toList.drop i)) = some m → tokenAt s i = ⟨3, ⟨m.toArray⟩, i⟩) := fun h h2 m hm => by simp only [tokenAt, if_neg h, if_neg h2, hm]
  have HE4 : Hid (¬ i < past isDg s.data.toList i → ¬ i < past isLd s.data.toList i → marksL.find? (fun m => m.isPrefixOf (s.data.toList.drop i)) = none → tokenAt s i = ⟨0, ⟨#[]⟩, i⟩) := fun h h2 hm => by simp only [tokenAt, if_neg h, if_neg h2, hm]
  have HC1 : Hid (∀ (B : Nat) (w : World), w.cell? ⟨B, 0, none⟩ = some (.string ⟨DGL.toArray⟩) → Calls Tryd.prog 48 #[.string s, .int .i64 i, .func (.func 66) #[] #[.pointer (some ⟨B, 0, none⟩)]] w fun e w' => e = .returned (.int .i64 (past isDg s.data.toList i)) ∧ w' = w) := fun B w hB => past_at DGL B s i w hi hs hB
  have HC2 : Hid (∀ (B : Nat) (w : World), w.cell? ⟨B, 0, none⟩ = some (.string ⟨LDL.toArray⟩) → Calls Tryd.prog 48 #[.string s, .int .i64 i, .func (.func 66) #[] #[.pointer (some ⟨B, 0, none⟩)]] w fun e w' => e = .returned (.int .i64 (past isLd s.data.toList i)) ∧ w' = w) := fun B w hB => past_at LDL B s i w hi hs hB
  have HV := hide hv
  clear hv
  generalize past isDg s.data.toList i = p1 at *
  generalize past isLd s.data.toList i = p2 at *
  have hp1 : p1 ≤ s.size := by have := HP1.out.2; rw [HZ.out] at this; exact this
  have hp1i : i ≤ p1 := HP1.out.1
  have hp2 : p2 ≤ s.size := by have := HP2.out.2; rw [HZ.out] at this; exact this
  have hp2i : i ≤ p2 := HP2.out.1
  generalize htk : tokenAt s i = t at *
  clear htk
  by_cases h1 : i < p1
  · obtain rfl := HE1.out h1
    have h1' : (i : Int) < (p1 : Int) := by omega
    go_enter Tryd.func50, Tryd.ntmps50
    go_wp2_with fail
    refine (oneOf_at DGL _).mono ?_
    rintro e w1 ⟨rfl, rfl⟩
    go_wp2_with fail
    refine (HC1.out (w.heap.size + 1) _ (by simp)).mono ?_
    rintro e w1 ⟨rfl, rfl⟩
    go_wp2_with fail
    refine bodyPost_ret (v := .agg #[.int .i64 2, .string (s.extract i p1), .int .i64 i]) (by simp [results, Tryd.results50, go_sem]) rfl ⟨rfl, ?_⟩
    exact (below_alloc w _).alloc (by simp) _
  · have h1' : ¬ (i : Int) < (p1 : Int) := by omega
    by_cases h2 : i < p2
    · obtain rfl := HE2.out h1 h2
      have h2' : (i : Int) < (p2 : Int) := by omega
      go_enter Tryd.func50, Tryd.ntmps50
      go_wp2_with fail
      refine (oneOf_at DGL _).mono ?_
      rintro e w1 ⟨rfl, rfl⟩
      go_wp2_with fail
      refine (HC1.out (w.heap.size + 1) _ (by simp)).mono ?_
      rintro e w1 ⟨rfl, rfl⟩
      go_wp2_with fail
      refine (oneOf_at LDL _).mono ?_
      rintro e w1 ⟨rfl, rfl⟩
      go_wp2_with fail
      refine Calls.mono (HC2.out (w.heap.size + 1 + 1) _ ?hc) ?_
      case hc => exact cell_new2 w _ _ _ _
      rintro e w1 ⟨rfl, rfl⟩
      go_wp2_with fail
      refine bodyPost_ret (v := .agg #[.int .i64 1, .string (s.extract i p2), .int .i64 i]) (by simp [results, Tryd.results50, go_sem]) rfl ⟨rfl, ?_⟩
      exact ((below_alloc w _).alloc (by simp) _).alloc (by simp; omega) _
    · have h2' : ¬ (i : Int) < (p2 : Int) := by omega
      go_enter Tryd.func50, Tryd.ntmps50
      go_wp2_with fail
      refine (oneOf_at DGL _).mono ?_
      rintro e w1 ⟨rfl, rfl⟩
      go_wp2_with fail
      refine (HC1.out (w.heap.size + 1) _ (by simp)).mono ?_
      rintro e w1 ⟨rfl, rfl⟩
      go_wp2_with fail
      refine (oneOf_at LDL _).mono ?_
      rintro e w1 ⟨rfl, rfl⟩
      go_wp2_with fail
      refine Calls.mono (HC2.out (w.heap.size + 1 + 1) _ ?hc) ?_
      case hc => exact cell_new2 w _ _ _ _
      rintro e w1 ⟨rfl, rfl⟩
      have HB3 : Hid (Below w.heap.size w (((w.alloc (.cells #[.int .i64 0, .string ⟨#[]⟩, .int .i64 0] 85)).alloc (.cells #[.string ⟨DGL.toArray⟩] 9)).alloc (.cells #[.string ⟨LDL.toArray⟩] 9))) := ((below_alloc w _).alloc (by simp) _).alloc (by simp; omega) _
      have HG := hide (HV.out.below HB3.out).marks
      have HZM := hide (show (Tryd.prog.info? 122).map (·.size) = some (strs marksL).size by kernel_rfl)
      have HI := hide index_marks
      have HL := hide (show marksL.length = 15 from rfl)
      have HX3 := hide (HE3.out h1 h2)
      have HX4 := hide (HE4.out h1 h2)
      have HFN := hide (find_none marksL fun m => m.isPrefixOf (s.data.toList.drop i))
      have HFS := hide (find_some marksL fun m => m.isPrefixOf (s.data.toList.drop i))
      have HHP := hide fun (m : List UInt8) (w : World) => Tryd.strings_HasPrefix (s.extract i s.size) ⟨m.toArray⟩ w
      have HXT := hide (extract_end s i)
      generalize strs marksL = KA at *
      generalize marksL = kl at *
      clear HE1 HE2 HE3 HE4 HC1 HC2
      go_wp2_with (refine wpList_load_row rfl 122 (.global 0) rfl 0 rfl _ _ _ _ HG.out Tryd.underlying122 rfl HZM.out ?_)
      go_loop [8, 36] (fun _ a => ∃ j : Nat, j ≤ 15 ∧ a = .int .i64 j ∧ Hid (∀ t, t < j → ((kl[t]?).getD []).isPrefixOf (s.data.toList.drop i) = false)) (fun _ a => 15 - (intOf a).toNat)
      case atStart => exact ⟨0, Nat.zero_le _, rfl, (fun t ht => by omega : ∀ t, t < 0 → ((kl[t]?).getD []).isPrefixOf (s.data.toList.drop i) = false)⟩
      case round =>
        obtain ⟨j, hj, rfl, hsame⟩ := hrel
        by_cases hlt : j < 15
        · have hix := HI.out j hlt
          have hj1 : (j : Int) < 15 := by omega
          generalize hx : (kl[j]?).getD [] = x at *
          have HX : Hid ((kl[j]?).getD [] = x) := hx
          clear hx
          go_wp2_with fail
          refine (HHP.out x _).mono ?_
          rintro e w1 ⟨rfl, rfl⟩
          rw [show Lib.hasPrefix (s.extract i s.size).data.toList (⟨x.toArray⟩ : ByteArray).data.toList = x.isPrefixOf (s.data.toList.drop i) by rw [HXT.out]; rfl]
          cases hp : x.isPrefixOf (s.data.toList.drop i) with
          | true =>
            obtain rfl := HX3.out x (by rw [HFS.out j (by rw [HL.out]; exact hlt) hsame.out (by rw [HX.out]; exact hp), HX.out])
            go_wp2_with fail
            refine bodyPost_ret (v := .agg #[.int .i64 3, .string ⟨x.toArray⟩, .int .i64 i]) (by simp [results, Tryd.results50, go_sem]) rfl ⟨rfl, ?_⟩
            exact ((below_alloc w _).alloc (by simp) _).alloc (by simp; omega) _
          | false =>
            go_wp2_with fail
            refine ⟨⟨j + 1, by omega, by go_num, (fun t ht => ?_ : ∀ t, t < j + 1 → ((kl[t]?).getD []).isPrefixOf (s.data.toList.drop i) = false)⟩, by simp [intOf]; omega⟩
            rcases Nat.lt_or_ge t j with h3 | h3
            · exact hsame.out t h3
            · rw [show t = j by omega, HX.out]; exact hp
        · have HJ : Hid (j = 15) := (by omega : j = 15)
          obtain rfl := HX4.out (HFN.out (by rw [HL.out, ← HJ.out]; exact hsame.out))
          go_wp2_with fail
          refine bodyPost_ret (v := .agg #[.int .i64 0, .string ⟨#[]⟩, .int .i64 i]) (by simp [results, Tryd.results50, go_sem]) rfl ⟨rfl, ?_⟩
          exact ((below_alloc w _).alloc (by simp) _).alloc (by simp; omega) _
end Go.Proofs.YtiimnnancblbkaaDoor
namespace Go.Proofs.YtiimnnancblbkaaDoor
open Go.RowKit

structure Good (t : Tok) : Prop where
  kind : t.kind ≠ 0
  small : t.text.size ≤ 1000000
  digits : t.kind = 2 → ∀ c ∈ t.text.data.toList, 48 ≤ c.toNat ∧ c.toNat ≤ 57

theorem past_all (p : UInt8 → Bool) (l : List UInt8) (i j : Nat) (hij : i ≤ j) (hj : j < past p l i) (hl : j < l.length) : p l[j] = true := by
  unfold past at hj
  have h1 : j - i < ((l.drop i).takeWhile p).length := by omega
  have h2 := List.all_takeWhile (p := p) (l := l.drop i)
  rw [List.all_eq_true] at h2
  have h3 := h2 _ (List.getElem_mem h1)
  have h4 : ((l.drop i).takeWhile p)[j - i] = l[j] := by
    have := (List.takeWhile_prefix p (l := l.drop i)).getElem h1
    rw [this, List.getElem_drop]
    congr 1; omega
  rw [h4] at h3
  exact h3
theorem isDg_range (c : UInt8) (h : isDg c = true) : 48 ≤ c.toNat ∧ c.toNat ≤ 57 := by
  unfold isDg at h
  simp only [List.contains_cons, List.contains_nil, Bool.or_false, Bool.or_eq_true, beq_iff_eq] at h
  rcases h with h | h | h | h | h | h | h | h | h | h <;> subst h <;> decide
theorem mem_extract {s : ByteArray} {i j : Nat} {c : UInt8} (h : c ∈ (s.extract i j).data.toList) : ∃ t, ∃ ht : t < s.data.toList.length, i ≤ t ∧ t < j ∧ s.data.toList[t] = c := by
  rw [Lib.extract_data] at h
  obtain ⟨n, hn, e⟩ := List.getElem_of_mem h
  rw [List.getElem_take, List.getElem_drop] at e
  simp at hn
  exact ⟨i + n, by simp; omega, by omega, by omega, e⟩
theorem size_extract' (s : ByteArray) (i j : Nat) (hj : j ≤ s.size) : (s.extract i j).size = j - i := by
  rw [ByteArray.size_extract]; omega
theorem marks_size : ∀ m ∈ marksL, 0 < m.length := by decide

theorem tokenAt_good (s : ByteArray) (i : Nat) (hi : i ≤ s.size) (hs : s.size ≤ 1000000) (hk : (tokenAt s i).kind ≠ 0) : Good (tokenAt s i) ∧ 0 < (tokenAt s i).text.size ∧ i + (tokenAt s i).text.size ≤ s.size := by
  have hl : i ≤ s.data.toList.length := by rw [Array.length_toList]; exact hi
  have p1 := past_le isDg s.data.toList i hl
  have p2 := past_le isLd s.data.toList i hl
  rw [Array.length_toList] at p1 p2
  have hz : s.data.size = s.size := rfl
  rw [hz] at p1 p2
  by_cases h1 : i < past isDg s.data.toList i
  · have e : tokenAt s i = ⟨2, s.extract i (past isDg s.data.toList i), i⟩ := by simp only [tokenAt, if_pos h1]
    rw [e]
    have hsz := size_extract' s i _ p1.2
    refine ⟨⟨by simp, by simp only; omega, fun _ c hc => ?_⟩, by simp only; omega, by simp only; omega⟩
    obtain ⟨t, ht, h3, h4, h5⟩ := mem_extract hc
    have := past_all isDg s.data.toList i t h3 h4 ht
    rw [h5] at this
    exact isDg_range c this
  · by_cases h2 : i < past isLd s.data.toList i
    · have e : tokenAt s i = ⟨1, s.extract i (past isLd s.data.toList i), i⟩ := by simp only [tokenAt, if_neg h1, if_pos h2]
      rw [e]
      have hsz := size_extract' s i _ p2.2
      exact ⟨⟨by simp, by simp only; omega, fun h => by simp at h⟩, by simp only; omega, by simp only; omega⟩
    · cases hm : marksL.find? (fun m => m.isPrefixOf (s.data.toList.drop i)) with
      | none =>
        have e : tokenAt s i = ⟨0, ⟨#[]⟩, i⟩ := by simp only [tokenAt, if_neg h1, if_neg h2, hm]
        rw [e] at hk
        exact absurd rfl hk
      | some m =>
        have e : tokenAt s i = ⟨3, ⟨m.toArray⟩, i⟩ := by simp only [tokenAt, if_neg h1, if_neg h2, hm]
        rw [e]
        have hpre := List.find?_some hm
        have hmem := marks_size m (List.mem_of_find?_eq_some hm)
        have hle : m.length ≤ (s.data.toList.drop i).length := (List.isPrefixOf_iff_prefix.1 hpre).length_le
        simp at hle
        have hz2 : (⟨m.toArray⟩ : ByteArray).size = m.length := by simp [ByteArray.size]
        refine ⟨⟨by simp, by simp only; omega, fun h => by simp at h⟩, by simp only; omega, by simp only; omega⟩

theorem toks_out (s : ByteArray) (hs : s.size ≤ 1000000) : ∀ (f i : Nat) (acc : List Tok), i ≤ s.size → s.size - i < f → toks s f i acc ≠ .out
  | 0, _, _, _, h => by omega
  | f + 1, i, acc, hi, hf => by
    unfold toks
    split
    · split
      · intro h; cases h
      · split
        · intro h; cases h
        · rename_i h1 h2 h3
          have hg := tokenAt_good s i hi hs h2
          have hp := past_le isBl s.data.toList (i + (tokenAt s i).text.size) (by rw [Array.length_toList]; exact hg.2.2)
          rw [Array.length_toList] at hp
          have hz : s.data.size = s.size := rfl
          exact toks_out s hs f _ _ (by omega) (by omega)
    · intro h; cases h

theorem fit_of (acc : List Tok) (n : Nat) (h : ∀ t ∈ acc, Good t) (hl : acc.length ≤ 800) : Fit (acc ++ [⟨0, ⟨#[]⟩, n⟩]) := by
  have hin : ∀ i, i < acc.length → tk (acc ++ [⟨0, ⟨#[]⟩, n⟩]) i ∈ acc := fun i hi => by
    unfold tk
    rw [List.getElem?_append_left hi, List.getElem?_eq_getElem hi, Option.getD_some]
    exact List.getElem_mem hi
  have hend : tk (acc ++ [⟨0, ⟨#[]⟩, n⟩]) acc.length = ⟨0, ⟨#[]⟩, n⟩ := by unfold tk; simp
  have split : ∀ i, i < (acc ++ [(⟨0, ⟨#[]⟩, n⟩ : Tok)]).length → i < acc.length ∨ i = acc.length := fun i hi => by simp at hi; omega
  refine ⟨fun i hi hk => ?_, fun i hi hk => ?_, by simp; omega, fun i hi => ?_, fun i hi hk => ?_⟩
  · rcases split i hi with h1 | h1
    · simp; omega
    · rw [h1, hend] at hk; exact absurd rfl hk
  · rcases split i hi with h1 | h1
    · exact absurd hk (h _ (hin i h1)).kind
    · rw [h1, hend, ByteArray.toList_eq]
  · rcases split i hi with h1 | h1
    · exact (h _ (hin i h1)).small
    · rw [h1, hend]; exact Nat.zero_le _
  · rcases split i hi with h1 | h1
    · exact (h _ (hin i h1)).digits hk
    · rw [h1, hend] at hk; simp at hk
end Go.Proofs.YtiimnnancblbkaaDoor
namespace Go.Proofs.YtiimnnancblbkaaDoor
open Go.RowKit

abbrev BLL : List UInt8 := [32, 9, 10]
abbrev tokCells (t : Tok) : List Value := [.int .i64 t.kind, .string t.text, .int .i64 t.pos]
theorem info_tok : ∃ i, Tryd.prog.info? 85 = some i ∧ i.zero = some (.agg #[.int .i64 0, .string ⟨#[]⟩, .int .i64 0]) ∧ i.size = 3 ∧ i.bytes = 32 := info_parts (by kernel_rfl)

/-- what a call comes to that throws or gives tokens -/
def Toks (w : World) (r : Res (List Tok)) (e : Ending) (w' : World) : Prop :=
  Below w.heap.size w w' ∧ match r with
  | .out => False
  | .bad er p => Thrown er p e w'
  | .ok ts _ => Fit ts ∧ 0 < ts.length ∧ ∃ T cap : Nat, e = .returned (.slice (some ⟨T, 0, none⟩) ts.length cap) ∧ w.heap.size ≤ T ∧ TokRow w' T ts

theorem blk_new2 (w : World) (a b : Obj) : ((w.alloc a).alloc b).heap[w.heap.size + 1]? = some b := by
  have h := blk_new (w.alloc a) b
  simp only [World.size_alloc] at h
  exact h
theorem below_two {w w3 : World} (h : Below w.heap.size w w3) (a b : Obj) : Below w.heap.size w ((w3.alloc a).alloc b) := Below.step (Below.step h (below_alloc w3 a)) (below_alloc _ b)
theorem row_toks {w : World} {T cap n : Nat} {ts : List Tok} (hn : n = ts.length) (h : w.ownsRow 0 85 3 (.slice (some ⟨T, 0, none⟩) n cap) n (ts.flatMap tokCells)) : TokRow w T ts := by
  intro i hi
  have hlen : ∀ (l : List Tok) (j : Nat) (hj : j < l.length) (q : Nat) (hq : q < 3), (l.flatMap tokCells)[j * 3 + q]? = (tokCells l[j])[q]? := by
    intro l
    induction l with
    | nil => intro j hj; simp at hj
    | cons a t ih =>
      intro j hj q hq
      cases j with
      | zero => simp only [List.flatMap_cons, Nat.zero_mul, Nat.zero_add, List.getElem_cons_zero]; rw [List.getElem?_append_left (by simpa using hq)]
      | succ j =>
        simp only [List.flatMap_cons, List.getElem_cons_succ]
        rw [List.getElem?_append_right (by simp; omega)]
        have := ih j (by simpa using hj) q hq
        rw [← this]
        congr 1
        simp; omega
  have hc : ∀ q, q < 3 → w.cell? ⟨T, i * 3 + q, none⟩ = (tokCells ts[i])[q]? := fun q hq => by
    rw [h.cellAt (i * 3 + q) (by omega), hlen ts i hi q hq]
  have e : tk ts i = ts[i] := by unfold tk; rw [List.getElem?_eq_getElem hi, Option.getD_some]
  rw [e]
  exact ⟨hc 0 (by omega), hc 1 (by omega), hc 2 (by omega)⟩

set_option maxRecDepth 100000 in
set_option maxHeartbeats 6400000 in
theorem tokens_at (s : ByteArray) (w : World) (hs : s.size ≤ 1000000) (hv : Vars w) :
    Calls Tryd.prog 29 #[.string s] w (Toks w (tokens s)) := by
  obtain ⟨i0, hi, hz0, hz1, hz2⟩ := info_tok
  have HNO : Hid (tokens s ≠ .out) := by
    have hp := past_le isBl s.data.toList 0 (Nat.zero_le _)
    rw [Array.length_toList] at hp
    exact toks_out s hs _ _ _ hp.2 (by omega)
  have HPB : Hid (∀ i, i ≤ s.size → i ≤ past isBl s.data.toList i ∧ past isBl s.data.toList i ≤ s.size) := fun i h => by
    have := past_le isBl s.data.toList i (by rw [Array.length_toList]; exact h)
    rw [Array.length_toList] at this
    exact this
  have HC : Hid (∀ (i B : Nat) (w : World), i ≤ s.size → w.cell? ⟨B, 0, none⟩ = some (.string ⟨BLL.toArray⟩) → Calls Tryd.prog 48 #[.string s, .int .i64 i, .func (.func 66) #[] #[.pointer (some ⟨B, 0, none⟩)]] w fun e w' => e = .returned (.int .i64 (past isBl s.data.toList i)) ∧ w' = w) := fun i B w h hB => past_at BLL B s i w h hs hB
  have HV := hide hv
  have HTG := hide fun i h => tokenAt_good s i h hs
  have HTA := hide fun i w h hv => tokenAt_at s i w h hs hv
  have HTD : Hid (tokens s = toks s (s.size + 1) (past isBl s.data.toList 0) []) := rfl
  clear hv
  go_enter Tryd.func29, Tryd.ntmps29
  go_wp2_with fail
  refine (oneOf_at BLL w).mono ?_
  rintro e w1 ⟨rfl, rfl⟩
  go_wp2_with fail
  refine Calls.mono (HC.out 0 w.heap.size _ (Nat.zero_le _) (by simp)) ?_
  rintro e w1 ⟨rfl, rfl⟩
  have hp0 := (HPB.out 0 (Nat.zero_le _)).2
  generalize past isBl s.data.toList 0 = p0 at *
  go_wp2_with fail
  go_loopw [3, 4] (fun v a wr => ∃ (g i : Nat) (acc : List Tok), a = .int .i64 i ∧ i ≤ s.size ∧ Hid (IsRow (From w.heap.size) wr 85 3 v acc.length (acc.flatMap tokCells)) ∧ Hid (Below w.heap.size w wr) ∧ Hid (tokens s = toks s g i acc) ∧ Hid (∀ t ∈ acc, Good t) ∧ Hid (acc.length ≤ 800)) (fun _ a _ => s.size - (intOf a).toNat)
  case atStart => exact ⟨_, p0, [], rfl, hp0, IsRow.nil .., below_alloc w _, HTD.out, (by simp : ∀ t ∈ ([] : List Tok), Good t), Nat.zero_le 800⟩
  case round =>
    obtain ⟨g, i, acc, rfl, hi2, hy, hb, he2, hgd, hac⟩ := hrel
    have hac' : acc.length ≤ 800 := hac.out
    obtain ⟨va, vc, hvv⟩ := hy.out.val
    subst hvv
    cases g with
    | zero => exact absurd (he2.out.trans (by simp only [toks])) HNO.out
    | succ g =>
    by_cases hlt : i < s.size
    · have hlti : (i : Int) < (s.size : Int) := by omega
      have HLT := hide hlt
      have HG0 := hide (HTG.out i hi2)
      have HTW := hide (HTA.out i wr hi2 (HV.out.below hb.out))
      have HU : Hid (toks s (g + 1) i acc = if (tokenAt s i).kind = 0 then .bad 3 i else if acc.length = 800 then .bad 4 i else toks s g (past isBl s.data.toList (i + (tokenAt s i).text.size)) (acc ++ [tokenAt s i])) := by
        show _ = _
        rw [toks, if_pos hlt]
      generalize tokenAt s i = t at *
      go_wp2_with fail
      refine HTW.out.mono ?_
      rintro e w3 ⟨rfl, hb3⟩
      have HB3 := hide (Below.step hb.out hb3)
      have HY3 := hide (hy.out.same fun b _ h2 => hb3.block b h2)
      clear hb3
      have HN4 := hide (blk_new w3 (.cells #[.int .i64 t.kind, .string t.text, .int .i64 t.pos] 85))
      have HB4 := hide (below_alloc w3 (.cells #[.int .i64 t.kind, .string t.text, .int .i64 t.pos] 85))
      by_cases hk : t.kind = 0
      · have HK := hide hk
        have hki : (t.kind : Int) = 0 := by omega
        go_wp2_with fail
        refine ⟨rfl, below_two HB3.out _ _, ?_⟩
        rw [he2.out, HU.out, if_pos HK.out]
        exact ⟨_, rfl, blk_new2 _ _ _⟩
      · have HK := hide hk
        have hki : ((t.kind : Int) == 0) = false := by simp; omega
        by_cases h8 : acc.length = 800
        · have H8 := hide h8
          have h8i : (acc.length : Int) = 800 := by omega
          go_wp2_with fail
          refine ⟨rfl, below_two HB3.out _ _, ?_⟩
          rw [he2.out, HU.out, if_neg HK.out, if_pos H8.out]
          exact ⟨_, rfl, blk_new2 _ _ _⟩
        · have H8 := hide h8
          have h8i : ((acc.length : Int) == 800) = false := by simp; omega
          have HGT := hide (HG0.out hk)
          have hle : i + t.text.size ≤ s.size := HGT.out.2.2
          have hpos : 0 < t.text.size := HGT.out.2.1
          have HPI := hide (HPB.out (i + t.text.size) hle)
          have HCQ : Hid (∀ (B : Nat) (w : World), w.cell? ⟨B, 0, none⟩ = some (.string ⟨BLL.toArray⟩) → Calls Tryd.prog 48 #[.string s, .int .i64 ((i : Int) + (t.text.size : Int)), .func (.func 66) #[] #[.pointer (some ⟨B, 0, none⟩)]] w fun e w' => e = .returned (.int .i64 (past isBl s.data.toList (i + t.text.size))) ∧ w' = w) := fun B w hB => by
            have := HC.out (i + t.text.size) B w hle hB
            rw [Int.natCast_add] at this
            exact this
          generalize past isBl s.data.toList (i + t.text.size) = p at *
          have HY4 := hide (HY3.out.same fun b _ h2 => HB4.out.block b h2)
          have HOWN := hide ((HY4.out.1).alloc (.cells #[.int .i64 t.kind, .string t.text, .int .i64 t.pos] 85))
          clear hk h8
          go_wp2_with (at_builtin; (refine append_new rfl (.tmp 30) (.tmp 32) 80 rfl 85 i0 (.agg #[.int .i64 0, .string ⟨#[]⟩, .int .i64 0]) 3 32 Tryd.underlying80 hi hz0 hz1 hz2 rfl (by decide) _ acc.length (acc.flatMap tokCells) rfl HOWN.out ⟨w3.heap.size + 1, 0, none⟩ 1 [.int .i64 t.kind, .string t.text, .int .i64 t.pos] rfl rfl ?c1 ?c2 ?c3 (by decide) ?_))
          case c1 => exact (by have := row_new (w3.alloc (.cells #[.int .i64 t.kind, .string t.text, .int .i64 t.pos] 85)) 85 [.int .i64 t.kind, .string t.text, .int .i64 t.pos]; simpa using this)
          case c2 => simp [Value.oneCell']
          case c3 => omega
          · intro v9 w9 hown9 hg9 hb9
            have HRW : Hid (w9.heap[w3.heap.size]? = some (.cells #[.int .i64 t.kind, .string t.text, .int .i64 t.pos] 85 (0, 0))) := by
              show _ = _
              rw [hg9.block w3.heap.size (by simp; omega) (fun e => by have := (HY3.out.1.lt _ e.symm).2; omega), Below.heap_alloc _ _ _ (by simp)]
              exact HN4.out
            have HB9 : Hid (Below w.heap.size w w9) := (below_two HB3.out _ _).grown hg9 (by have := HB3.out.size; simp; omega) (fun b hb => HY3.out.2 b hb)
            have HY9 : Hid (IsRow (From w.heap.size) w9 85 3 v9 (acc ++ [t]).length ((acc ++ [t]).flatMap tokCells)) := ⟨by simpa using hown9, fun b hb => by
              rcases hb9 with e | e
              · exact HY3.out.2 b (by rw [← e]; exact hb)
              · rw [e] at hb
                simp only [Option.some.injEq] at hb
                have := HB3.out.size
                try simp at hb
                show w.heap.size ≤ b
                omega⟩
            obtain ⟨va9, vc9, hv9⟩ : ∃ (a : Option Addr) (c : Nat), v9 = .slice a (acc.length + 1) c := by have := HY9.out.val; simpa using this
            subst hv9
            have x1 : w9.cell? ⟨w3.heap.size, 1, none⟩ = some (.string t.text) := by rw [blk_cell HRW.out]; rfl
            have hwr : IntKind.i64.wrap ((i : Int) + (t.text.size : Int)) = (i : Int) + (t.text.size : Int) := wrap_small (by omega) (by omega)
            clear hown9 hg9 hb9
            go_wp2_with fail
            go_region_held3 (fun w' => w'.cell? ⟨w3.heap.size, 1, none⟩ = some (.string t.text)) (first | go_keep) ((first | (go_at_call 49; refine (oneOf_at BLL _).mono ?_; rintro e w10 ⟨rfl, rfl⟩) | (go_at_call 48; refine Calls.mono (HCQ.out _ _ (by simp)) ?_; rintro e w11 ⟨rfl, rfl⟩)))
            go_wp2_with fail
            refine ⟨⟨g, p, acc ++ [t], rfl, HPI.out.2, (HY9.out.same (w' := (w9.alloc (.cells #[.string ⟨BLL.toArray⟩] 9)).drew) fun b _ h2 => (below_alloc w9 _).block b h2 : IsRow _ _ _ _ _ _ _), (Below.step HB9.out (below_alloc w9 _)).drew, ?_, ?_, ?_⟩, ?_⟩
            · show _ = _
              rw [he2.out, HU.out, if_neg HK.out, if_neg H8.out]
            · show ∀ q ∈ acc ++ [t], Good q
              intro q hq
              rcases List.mem_append.1 hq with h | h
              · exact hgd.out q h
              · simp at h; subst h; exact HGT.out.1
            · show _ ≤ _
              have := H8.out
              simp; omega
            · have := HPI.out.1
              simp [intOf]; omega
    · have hlti : ¬ (i : Int) < (s.size : Int) := by omega
      have HU : Hid (toks s (g + 1) i acc = .ok (acc ++ [⟨0, ⟨#[]⟩, s.size⟩]) 0) := by
        show _ = _
        rw [toks, if_neg hlt]
      have HOWN := hide ((hy.out.1).alloc (.cells #[.int .i64 0, .string ⟨#[]⟩, .int .i64 s.size] 85))
      go_wp2_with (at_builtin; (refine append_new rfl (.tmp 42) (.tmp 46) 80 rfl 85 i0 (.agg #[.int .i64 0, .string ⟨#[]⟩, .int .i64 0]) 3 32 Tryd.underlying80 hi hz0 hz1 hz2 rfl (by decide) _ acc.length (acc.flatMap tokCells) rfl HOWN.out ⟨wr.heap.size, 0, none⟩ 1 [.int .i64 0, .string ⟨#[]⟩, .int .i64 s.size] rfl rfl ?c1 ?c2 ?c3 (by decide) ?_))
      case c2 => simp [Value.oneCell']
      case c3 => omega
      · intro v9 w9 hown9 hg9 hb9
        have HB9 : Hid (Below w.heap.size w w9) := (Below.step hb.out (below_alloc wr _)).grown hg9 (by have := hb.out.size; simp; omega) (fun b hb => hy.out.2 b hb)
        have HROW : Hid (w9.ownsRow 0 85 3 v9 (acc.length + 1) ((acc ++ [(⟨0, ⟨#[]⟩, s.size⟩ : Tok)]).flatMap tokCells)) := by
          show World.ownsRow _ _ _ _ _ _ _
          rw [List.flatMap_append]
          exact hown9
        have HGE : Hid (∀ b, v9.ownBlock = some b → w.heap.size ≤ b) := fun b hb' => by
          rcases hb9 with e | e
          · exact hy.out.2 b (by rw [← e]; exact hb')
          · rw [e] at hb'
            simp only [Option.some.injEq] at hb'
            have := hb.out.size
            try simp at hb'
            omega
        obtain ⟨T, cap, hv9⟩ : ∃ T cap : Nat, v9 = .slice (some ⟨T, 0, none⟩) (acc.length + 1) cap := by
          rcases HROW.out.2 with ⟨_, h0⟩ | ⟨g, cap, cur, rfl, _⟩
          · omega
          · exact ⟨g, cap, rfl⟩
        subst hv9
        clear hown9 hg9 hb9
        go_wp2_with fail
        go_ret
        refine ⟨HB9.out, ?_⟩
        rw [he2.out, HU.out]
        refine ⟨fit_of acc s.size hgd.out hac.out, by simp, T, cap, by simp, HGE.out T rfl, row_toks (by simp) HROW.out⟩
end Go.Proofs.YtiimnnancblbkaaDoor
