/-
  CONTRACTS of Text and writeCall.
-/
import Derived.WalkSmall
import Derived.Test.YtpblellbffmolaaGreatDoorWrite
import Derived.Test.YtpblellbffmolaaGreatDoorJPrt
import Derived.Test.YtpblellbffmolaaGreatDoorJStm
set_option linter.unusedSimpArgs false
set_option linter.unusedVariables false
namespace Go.Proofs.YtpblellbffmolaaGreatDoor
open Go.RowKit

theorem Tab.below {B : Nat} {w w' : World} (h : Tab w) (hb : Below B w w') (hB : 8 ≤ B) : Tab w' :=
  var?_below hb (g := 4) (by kernel_rfl) (by omega) h

theorem op_small {op : ByteArray} (h : 1 ≤ levelN op.toList) : op.size ≤ 3 := by
  have hz : op.size = op.toList.length := by rw [ByteArray.toList_eq, Array.length_toList]; rfl
  rw [hz]
  generalize op.toList = l at *
  unfold levelN at h
  repeat' split at h
  · rename_i e; rw [beq_iff_eq] at e; subst e; decide
  · rename_i e; rw [beq_iff_eq] at e; subst e; decide
  · rename_i e; rw [beq_iff_eq] at e; subst e; decide
  · rename_i e
    simp only [Bool.or_eq_true, beq_iff_eq] at e
    rcases e with ((((e | e) | e) | e) | e) | e <;> subst e <;> decide
  · rename_i e
    simp only [Bool.or_eq_true, beq_iff_eq] at e
    rcases e with e | e <;> subst e <;> decide
  · omega

theorem write_all : ∀ (x : Ex), GoodEx x → WriteOK x
  | .num p n ty, h => write_num p n ty (by rcases h with h | h <;> omega)
  | .name p s, h => write_name p s
  | .field p s g, h => write_field p s g (by have := h.1.2.1; omega) (by have := h.2.2.1; omega)
  | .not p x, h => write_not p x (write_all x h)
  | .bin p op x y, h => write_bin p op x y (by have := op_small h.1; omega) (level_le _) (write_all x h.2.1) (write_all y h.2.2)

/-- how long what is written is -/
theorem dec_len {n : Nat} (h : n ≤ 255) : (Lib.decDigits n).length ≤ 3 := by
  rw [Lib.decDigits_length]
  by_cases h1 : n < 10
  · rw [Lib.nDigits_small h1]; omega
  · rw [Lib.nDigits_big h1]
    by_cases h2 : n / 10 < 10
    · rw [Lib.nDigits_small h2]; omega
    · rw [Lib.nDigits_big h2, Lib.nDigits_small (by omega)]; omega
theorem val_len {ty n : Nat} (h : n ≤ 255) : (valP ty n).length ≤ 5 := by
  unfold valP
  have := dec_len h
  split
  · split <;> simp
  · omega
theorem sz_list (s : ByteArray) : s.data.toList.length = s.size := Array.length_toList
theorem text_len : ∀ (x : Ex) (n : Nat), GoodEx x → (textP x n).length ≤ 14 * (exK x n).length
  | .num _ n ty, _, h => by
    have h5 : (valP ty n).length ≤ 5 := val_len (by rcases h with h | h <;> omega)
    simp only [textP, exK, List.length_cons, List.length_nil]; omega
  | .name _ s, _, h => by
    have h12 := h.2.1
    simp only [textP, exK, List.length_cons, List.length_nil, sz_list]; omega
  | .field _ s g, _, h => by
    have h1 := h.1.2.1
    have h2 := h.2.2.1
    simp only [textP, exK, List.length_append, List.length_cons, List.length_nil, sz_list]; omega
  | .not _ x, _, h => by
    have := text_len x 6 h
    simp only [textP, exK, List.length_append, List.length_cons, List.length_nil]; omega
  | .bin _ op x y, n, h => by
    have h1 := text_len x (levelN op.toList) h.2.1
    have h2 := text_len y (levelN op.toList + 1) h.2.2
    have h3 := op_small h.1
    simp only [textP, exK, List.length_append, List.length_cons, List.length_nil, sz_list]
    split <;> simp only [List.length_cons, List.length_nil] <;> omega

set_option maxRecDepth 100000 in
set_option maxHeartbeats 3200000 in
theorem text_at (x : Ex) (hg : GoodEx x) (S : Nat → Prop) (w : World) (v : Value) (hx : IsEx S w x v) (hS : ∀ c, S c → c < w.heap.size) (ht : Tab w) (h14 : 8 ≤ w.heap.size) (hlen : (textP x 1).length ≤ 1000000) :
    Calls Tryz.prog 47 #[v] w fun e w' => e = .returned (.string ⟨(textP x 1).toArray⟩) ∧ Below w.heap.size w w' := by
  obtain ⟨X, rfl⟩ := hx.ptr
  have HF := hide (Lib.fresh_isBuilder 64 5 w)
  have HX := hide hx
  have HS := hide hS
  have HT := hide ht
  have HB := hide (below_alloc w (.cells #[.pointer none, .slice none 0 0] 64))
  have HW := hide (write_all x hg)
  clear hx hS ht
  go_enter Tryz.func47, Tryz.ntmps47
  go_wp2_with fail
  refine (HW.out S _ _ w.heap.size w.heap.size [] 1 (HX.out.below HB.out) HS.out HF.out HB.out.size (by omega) (by simp; omega) (fun w' h => HT.out.below (HB.out.trans h) h14)).mono ?_
  rintro e w1 ⟨rfl, h1, h2⟩
  have H1 := hide h1
  have H2 := hide (HB.out.trans h2.below)
  clear h1 h2
  go_wp2_with fail
  refine (Tryz.Builder_String_any w.heap.size w.heap.size _ w1 H1.out H2.out.size).mono ?_
  rintro e w2 ⟨rfl, h3⟩
  have H3 := hide (H2.out.trans h3)
  clear h3
  go_wp2_with fail
  go_ret
  exact ⟨rfl, H3.out⟩

theorem all2_get {α β : Type} {p : α → β → Prop} : ∀ {l : List α} {m : List β}, All2 p l m → ∀ i (h : i < l.length), ∃ b, m[i]? = some b ∧ p l[i] b
  | a :: l, b :: m, ⟨h1, h2⟩, 0, _ => ⟨b, rfl, h1⟩
  | a :: l, b :: m, ⟨h1, h2⟩, i + 1, h => by
    obtain ⟨c, hc, hp⟩ := all2_get h2 i (by simpa using h)
    exact ⟨c, by simpa using hc, by simpa using hp⟩
theorem argsT_take : ∀ (l : List Ex) (i : Nat) (h : i < l.length), argsT (l.take (i + 1)) = argsT (l.take i) ++ (textP l[i] 1 ++ [44, 32])
  | x :: l, 0, _ => by simp [argsT]
  | x :: l, i + 1, h => by
    have := argsT_take l i (by simpa using h)
    simp only [List.take_succ_cons, argsT, this, List.getElem_cons_succ]
    simp
theorem argsT_len_take (l : List Ex) (i : Nat) : (argsT (l.take i)).length ≤ (argsT l).length := by
  have : ∀ (l : List Ex) (i : Nat), (argsT (l.take i)).length ≤ (argsT l).length := by
    intro l
    induction l with
    | nil => intro i; simp [argsT]
    | cons x l ih =>
      intro i
      cases i with
      | zero => simp [argsT]
      | succ i => simp only [List.take_succ_cons, argsT, List.length_append]; have := ih i; omega
  exact this l i
theorem tab_str (l : List UInt8) : (⟨l.toArray⟩ : ByteArray).data.toList = l := rfl
theorem str_sz (l : List UInt8) : (⟨l.toArray⟩ : ByteArray).size = l.length := by simp [ByteArray.size]
theorem cat_eq (a b : List UInt8) : (⟨a.toArray⟩ ++ ⟨b.toArray⟩ : ByteArray) = ⟨(a ++ b).toArray⟩ := by
  apply ByteArray.ext
  simp

end Go.Proofs.YtpblellbffmolaaGreatDoor
