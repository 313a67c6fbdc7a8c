/-
  CONTRACT of the document's own answer for Result (package rungworkref): for every text of at most 20 bytes and every two numbers it returns what value.Result returns.
-/
import Derived.Test.YtmoakccnjahfeaaRef
import Derived.Test.YtmoakccnjahfeaaShelf
namespace Go.Proofs.Ytmoakccnjahfeaa
open Go.RowKit
theorem one_at (op : ByteArray) (r : Bool) (w : World) (h : decide (0 ≤ Lib.indexByte op.data.toList 32) = r) :
    Calls Try.prog 30 #[.string op, .string ⟨#[32]⟩] w fun e w' => e = .returned (.bool r) ∧ w' = w := by
  rw [← h]; exact Try.strings_Contains_one op 32 w
theorem contains_at (s sub : ByteArray) (m : Int) (r : Bool) (w : World) (hs : s.size ≤ 20) (hm : w.cell? ⟨0, 0, none⟩ = some (.int .i64 m)) (h : Lib.contains s.data.toList sub.data.toList = r) :
    Calls Try.prog 30 #[.string s, .string sub] w fun e w' => e = .returned (.bool r) ∧ w' = w := by
  rw [← h]; exact Try.strings_Contains s sub m w (by omega) hm

/-! ### plain: a word between blanks -/
theorem contains_cons (b : UInt8) (l sub : List UInt8) : Lib.contains (b :: l) sub = (sub.isPrefixOf (b :: l) || Lib.contains l sub) := by
  have h := Lib.index_ge l sub
  unfold Lib.contains
  rw [Lib.index]
  cases hp : sub.isPrefixOf (b :: l)
  · by_cases h1 : Lib.index l sub = -1
    · simp [h1]
    · have h2 : 0 ≤ Lib.index l sub := by omega
      have h3 : 0 ≤ Lib.index l sub + 1 := by omega
      simp [h1, h2, h3]
  · simp
theorem contains_skip (x : List UInt8) (l : List UInt8) : ∀ u : List UInt8, 32 ∉ u → Lib.contains (u ++ l) (32 :: x) = Lib.contains l (32 :: x)
  | [], _ => rfl
  | b :: u, h => by
    have hb : b ≠ 32 := fun e => h (by simp [e])
    have hu : 32 ∉ u := fun e => h (by simp [e])
    have h1 : (32 :: x).isPrefixOf (b :: (u ++ l)) = false := by simp [List.isPrefixOf]; intro e; exact absurd e.symm hb
    rw [List.cons_append, contains_cons, h1, contains_skip x l u hu]
    rfl
theorem word_of : ∀ (op u v : List UInt8), 32 ∉ op → 32 ∉ u → (op ++ [32]).isPrefixOf (u ++ 32 :: v) = true → op = u
  | [], [], _, _, _, _ => rfl
  | [], a :: u, v, _, hu, h => by
    exfalso
    simp [List.isPrefixOf] at h
    exact hu (by simp [← h])
  | b :: op, [], v, ho, _, h => by
    exfalso
    simp [List.isPrefixOf] at h
    exact ho (by simp [h.1])
  | b :: op, a :: u, v, ho, hu, h => by
    simp [List.isPrefixOf] at h
    have e := word_of op u v (fun e => ho (by simp [e])) (fun e => hu (by simp [e])) (by simpa using h.2)
    rw [h.1, e]

/-- words, with a blank ahead of each and one at the end -/
def spread : List (List UInt8) → List UInt8
  | [] => [32]
  | u :: ws => 32 :: (u ++ spread ws)
theorem spread_head (ws : List (List UInt8)) : ∃ v, spread ws = 32 :: v := by cases ws <;> exact ⟨_, rfl⟩
theorem mem_spread (op : List UInt8) (hop : 32 ∉ op) : ∀ ws : List (List UInt8), (∀ u ∈ ws, 32 ∉ u) → Lib.contains (spread ws) (32 :: op ++ [32]) = true → op ∈ ws
  | [], _, h => by
    exfalso
    have e1 : (32 :: op ++ [32]).isPrefixOf [32] = false := by cases op <;> rfl
    have e2 : Lib.contains [] (32 :: op ++ [32]) = false := rfl
    rw [spread, contains_cons, e1, e2] at h
    cases h
  | u :: ws, hw, h => by
    rw [spread, contains_cons, Bool.or_eq_true] at h
    rcases h with h | h
    · obtain ⟨v, hv⟩ := spread_head ws
      rw [hv] at h
      have h' : (op ++ [32]).isPrefixOf (u ++ 32 :: v) = true := by simpa [List.isPrefixOf] using h
      rw [word_of op u v hop (hw u (by simp)) h']
      simp
    · rw [List.cons_append, contains_skip _ _ u (hw u (by simp))] at h
      exact List.mem_cons_of_mem _ (mem_spread op hop ws (fun x hx => hw x (by simp [hx])) h)

/-- is a text one of these words, as the closure asks it? -/
def hasB (s op : List UInt8) : Bool :=
  if op = [] then false else if 0 ≤ Lib.indexByte op 32 then false else Lib.contains s (32 :: op ++ [32])
theorem no_blank (op : List UInt8) (h : ¬ 0 ≤ Lib.indexByte op 32) (hge : -1 ≤ Lib.indexByte op 32) : 32 ∉ op := by
  have e : Lib.indexByte op 32 = -1 := by omega
  intro hm
  obtain ⟨k, hk, hk2⟩ := List.getElem_of_mem hm
  exact Lib.indexByte_none e k (by rw [List.getElem?_eq_getElem hk, hk2])
theorem indexByte_ge : ∀ (l : List UInt8) (c : UInt8), -1 ≤ Lib.indexByte l c
  | [], c => by simp [Lib.indexByte]
  | b :: l, c => by
    have := indexByte_ge l c
    unfold Lib.indexByte
    split
    · omega
    · split <;> omega
theorem hasB_other (ws : List (List UInt8)) (hws : ∀ u ∈ ws, 32 ∉ u) (op : List UInt8) (h : op ∉ ws) : hasB (spread ws) op = false := by
  unfold hasB
  split
  · rfl
  · split
    · rfl
    · rename_i h2
      cases hc : Lib.contains (spread ws) (32 :: op ++ [32])
      · rfl
      · exact absurd (mem_spread op (no_blank op h2 (indexByte_ge op 32)) ws hws hc) h

/-! ### the closure -/
set_option maxHeartbeats 1600000 in
theorem has_empty (s op : ByteArray) (B : Nat) (w : World) (hop : w.cell? ⟨B, 0, none⟩ = some (.string op)) (he : op.toList.isEmpty = true) :
    Calls Try.prog 29 #[.string s, .pointer (some ⟨B, 0, none⟩)] w fun e w' => e = .returned (.bool false) ∧ w' = w := by
  go_enter Try.func29, Try.ntmps29
  go_wp2_with fail
  go_ret
  exact ⟨rfl, rfl⟩
set_option maxHeartbeats 1600000 in
theorem has_blank (s op : ByteArray) (B : Nat) (w : World) (hop : w.cell? ⟨B, 0, none⟩ = some (.string op)) (he : op.toList.isEmpty = false) (hb : Hid (decide (0 ≤ Lib.indexByte op.data.toList 32) = true)) :
    Calls Try.prog 29 #[.string s, .pointer (some ⟨B, 0, none⟩)] w fun e w' => e = .returned (.bool false) ∧ w' = w := by
  go_enter Try.func29, Try.ntmps29
  go_wp2_with fail
  refine (one_at op true _ hb.out).mono ?_; rintro e w' ⟨rfl, rfl⟩
  go_wp2_with fail
  go_ret
  exact ⟨rfl, rfl⟩
set_option maxHeartbeats 1600000 in
theorem has_word (s op : ByteArray) (m : Int) (r : Bool) (B : Nat) (w : World) (hop : w.cell? ⟨B, 0, none⟩ = some (.string op)) (hm : w.cell? ⟨0, 0, none⟩ = some (.int .i64 m)) (h20 : op.size ≤ 20) (hs : s.size ≤ 20) (he : op.toList.isEmpty = false)
    (hb : Hid (decide (0 ≤ Lib.indexByte op.data.toList 32) = false)) (hr : Hid (Lib.contains s.data.toList (⟨#[32]⟩ ++ op ++ ⟨#[32]⟩ : ByteArray).data.toList = r)) :
    Calls Try.prog 29 #[.string s, .pointer (some ⟨B, 0, none⟩)] w fun e w' => e = .returned (.bool r) ∧ w' = w := by
  go_enter Try.func29, Try.ntmps29
  go_wp2_with fail
  refine (one_at op false _ hb.out).mono ?_; rintro e w' ⟨rfl, rfl⟩
  go_wp2_with fail
  refine (contains_at s _ m r _ hs hm hr.out).mono ?_; rintro e w' ⟨rfl, rfl⟩
  go_wp2_with fail
  go_ret
  exact ⟨rfl, rfl⟩

theorem has_at (s op : ByteArray) (m : Int) (r : Bool) (B : Nat) (w : World) (hop : w.cell? ⟨B, 0, none⟩ = some (.string op)) (hm : w.cell? ⟨0, 0, none⟩ = some (.int .i64 m)) (h20 : op.size ≤ 20) (hs : s.size ≤ 20)
    (hr : hasB s.data.toList op.data.toList = r) :
    Calls Try.prog 29 #[.string s, .pointer (some ⟨B, 0, none⟩)] w fun e w' => e = .returned (.bool r) ∧ w' = w := by
  rw [← hr]
  unfold hasB
  by_cases he : op.data.toList = []
  · rw [if_pos he]
    exact has_empty s op B w hop (by rw [ByteArray.toList_eq, he]; rfl)
  · rw [if_neg he]
    have he' : op.toList.isEmpty = false := by rw [ByteArray.toList_eq]; cases h : op.data.toList with
      | nil => exact absurd h he
      | cons a t => rfl
    by_cases hb : 0 ≤ Lib.indexByte op.data.toList 32
    · rw [if_pos hb]
      exact has_blank s op B w hop he' (decide_eq_true hb)
    · rw [if_neg hb]
      exact has_word s op m _ B w hop hm h20 hs he' (decide_eq_false hb) (by show Lib.contains _ _ = _; simp)
end Go.Proofs.Ytmoakccnjahfeaa
