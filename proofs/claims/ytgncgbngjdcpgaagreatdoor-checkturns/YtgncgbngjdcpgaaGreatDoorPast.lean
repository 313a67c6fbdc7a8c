/-
  CONTRACTS of oneOf and past: looks at letters.
-/
import Derived.Test.YtgncgbngjdcpgaaGreatDoorMem
import Derived.Test.YtgncgbngjdcpgaaGreatDoorShelf
namespace Go.Proofs.YtgncgbngjdcpgaaGreatDoor
open Go.RowKit

theorem mem_index (l : List UInt8) (c : UInt8) : decide (0 ≤ Lib.indexByte l c) = l.contains c := by
  induction l with
  | nil => simp [Lib.indexByte]
  | cons a t ih =>
    unfold Lib.indexByte
    by_cases h : a = c
    · subst h; simp
    · rw [List.contains_cons]
      have h1 : (c == a) = false := by simp; exact fun e => h e.symm
      rw [h1, Bool.false_or, ← ih]
      by_cases h2 : Lib.indexByte t c = -1
      · simp [h, h2]
      · have := Lib.indexByte_ge t c
        simp [h, h2]; omega

set_option maxRecDepth 100000 in
set_option maxHeartbeats 3200000 in
theorem look_at (l : List UInt8) (B : Nat) (c : UInt8) (w : World) (hB : w.cell? ⟨B, 0, none⟩ = some (.string ⟨l.toArray⟩)) :
    Calls Tryz.prog 123 #[.int .u8 c.toNat, .pointer (some ⟨B, 0, none⟩)] w fun e w' => e = .returned (.bool (l.contains c)) ∧ w' = w := by
  have HI := hide (Tryz.strings_IndexByte ⟨l.toArray⟩ (c.toNat : Int) w)
  have HM := hide (mem_index l c)
  generalize hr : l.contains c = r at *
  clear hr
  go_enter Tryz.func123, Tryz.ntmps123
  go_wp2_with fail
  refine HI.out.mono ?_
  rintro e w' ⟨rfl, rfl⟩
  have hcc : ((c.toNat : Int).toNat.toUInt8) = c := by simp
  rw [hcc]
  generalize hx : Lib.indexByte l c = x at *
  go_wp2_with fail
  go_ret
  exact ⟨ret_bool HM.out, rfl⟩

theorem past_end (p : UInt8 → Bool) (l : List UInt8) (i j : Nat) (hij : i ≤ j) (hj : j ≤ l.length) (h1 : ∀ t (ht : t < l.length), i ≤ t → t < j → p l[t] = true) (h2 : ∀ ht : j < l.length, p l[j] = false) : past p l i = j := by
  unfold past
  obtain ⟨d, rfl⟩ : ∃ d, j = i + d := ⟨j - i, by omega⟩
  congr 1
  have hl : (l.drop i).takeWhile p = (l.drop i).take d := by
    have hd : d ≤ (l.drop i).length := by simp; omega
    have g1 : ∀ t (ht : t < (l.drop i).length), t < d → p (l.drop i)[t] = true := fun t ht htd => by
      rw [List.getElem_drop]; exact h1 (i + t) (by simp at ht; omega) (by omega) (by omega)
    have g2 : ∀ ht : d < (l.drop i).length, p (l.drop i)[d] = false := fun ht => by
      rw [List.getElem_drop]; exact h2 (by simp at ht; omega)
    generalize l.drop i = m at *
    clear h1 h2 hij hj
    induction d generalizing m with
    | zero =>
      cases m with
      | nil => rfl
      | cons a t => have := g2 (by simp); simp at this; simp [List.takeWhile, this]
    | succ d ih =>
      cases m with
      | nil => simp at hd
      | cons a t =>
        have ha := g1 0 (by simp) (by omega)
        simp at ha
        simp only [List.takeWhile, ha, List.take_succ_cons]
        congr 1
        exact ih t (by simpa using hd) (fun u hu hud => by have := g1 (u + 1) (by simpa using hu) (by omega); simpa using this) (fun hu => by have := g2 (by simpa using hu); simpa using this)
  rw [hl]; simp; omega

theorem past_le (p : UInt8 → Bool) (l : List UInt8) (i : Nat) (h : i ≤ l.length) : i ≤ past p l i ∧ past p l i ≤ l.length := by
  unfold past
  have : ((l.drop i).takeWhile p).length ≤ (l.drop i).length := (List.takeWhile_sublist _).length_le
  simp at this
  omega

set_option maxRecDepth 100000 in
set_option maxHeartbeats 3200000 in
theorem past_at (l : List UInt8) (B : Nat) (s : ByteArray) (i : Nat) (w : World) (hi : i ≤ s.size) (hs : s.size ≤ 1000000) (hB : w.cell? ⟨B, 0, none⟩ = some (.string ⟨l.toArray⟩)) :
    Calls Tryz.prog 85 #[.string s, .int .i64 i, .func (.func 123) #[] #[.pointer (some ⟨B, 0, none⟩)]] w fun e w' => e = .returned (.int .i64 (past (fun c => l.contains c) s.data.toList i)) ∧ w' = w := by
  have HE := hide (past_end (fun c => l.contains c) s.data.toList i)
  have HLO := hide fun c => look_at l B c w hB
  have hsz : s.data.toList.length = s.size := Array.length_toList
  have HSZ := hide hsz
  clear hB hsz
  generalize hr : past (fun c => l.contains c) s.data.toList i = r at *
  clear hr
  go_enter Tryz.func85, Tryz.ntmps85
  go_wp2_with fail
  go_loop [1] (fun a => ∃ j : Nat, i ≤ j ∧ j ≤ s.size ∧ a = .int .i64 j ∧ Hid (∀ t (ht : t < s.data.toList.length), i ≤ t → t < j → l.contains s.data.toList[t] = true)) (fun a => s.size - (intOf a).toNat)
  case atStart => exact ⟨i, Nat.le_refl _, hi, rfl, (fun t ht h1 h2 => by omega : ∀ t (ht : t < s.data.toList.length), i ≤ t → t < i → l.contains s.data.toList[t] = true)⟩
  case round =>
    obtain ⟨j, hij, hj, rfl, hall⟩ := hrel
    by_cases hlt : j < s.size
    · have hj1 : (j : Int) < (s.size : Int) := by omega
      have HJL : Hid (j < s.data.toList.length) := by show j < _; rw [HSZ.out]; exact hlt
      have HC : Hid (s.data.toList[j]'HJL.out = s[j]) := Array.getElem_toList _
      go_wp2_with fail
      refine (HLO.out s[j]).mono ?_
      rintro e w' ⟨rfl, rfl⟩
      cases hcn : l.contains s[j] with
      | true =>
        have HCN : Hid (l.contains (s.data.toList[j]'HJL.out) = true) := by show l.contains _ = true; rw [HC.out]; exact hcn
        clear hcn
        go_wp2_with fail
        refine ⟨⟨j + 1, by omega, by omega, by go_num, (fun t ht h1 h2 => ?_ : ∀ t (ht : t < s.data.toList.length), i ≤ t → t < j + 1 → l.contains s.data.toList[t] = true)⟩, by simp [intOf]; omega⟩
        rcases Nat.lt_or_ge t j with h3 | h3
        · exact hall.out t ht h1 h3
        · have : t = j := by omega
          subst this
          exact HCN.out
      | false =>
        have HCN : Hid (l.contains (s.data.toList[j]'HJL.out) = false) := by show l.contains _ = false; rw [HC.out]; exact hcn
        clear hcn
        go_wp2_with fail
        go_ret
        exact ⟨ret_int (by rw [HE.out j hij (by rw [HSZ.out]; exact hj) hall.out (fun _ => HCN.out)]), rfl⟩
    · have hj2 : decide ((j : Int) < (s.size : Int)) = false := by simp; omega
      go_wp2_with fail
      go_ret
      exact ⟨ret_int (by rw [HE.out j hij (by rw [HSZ.out]; exact hj) hall.out (fun ht => absurd (by rw [HSZ.out] at ht; exact ht) hlt)]), rfl⟩

set_option maxRecDepth 100000 in
set_option maxHeartbeats 3200000 in
theorem oneOf_at (l : List UInt8) (w : World) :
    Calls Tryz.prog 86 #[.string ⟨l.toArray⟩] w fun e w' => e = .returned (.func (.func 123) #[] #[.pointer (some ⟨w.heap.size, 0, none⟩)]) ∧ w' = w.alloc (.cells #[.string ⟨l.toArray⟩] 9) := by
  have hmf : ∀ (fn : Fn) (first cap : Array Value) (w : World), (Instr.makeFunc fn first cap).run Tryz.prog w = .ok (.func fn first cap) w := fun _ _ _ _ => rfl
  go_enter Tryz.func86, Tryz.ntmps86
  go_wp2_with fail
  go_ret
  exact ⟨rfl, rfl⟩
end Go.Proofs.YtgncgbngjdcpgaaGreatDoor
