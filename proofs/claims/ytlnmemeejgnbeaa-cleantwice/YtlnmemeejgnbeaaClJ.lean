/-
  CONTRACTS of two, not, join, xor.
-/
import Derived.Test.YtlnmemeejgnbeaaClN
set_option linter.unusedSimpArgs false
set_option linter.unusedVariables false
namespace Go.Proofs.Ytlnmemeejgnbeaa
open Go.RowKit

/-- what a maker gives -/
abbrev Gives (B P M : Nat) (na : Option Addr) (ms : List Nd) (f : FuncId) (args : Array Value) (w : World) (r : Rq) : Prop :=
  Calls Try.prog f args w fun e w' => e = .returned (.int .i64 (doneR ms r).1) ∧ Now B P M na w w' (doneR ms r).2
theorem Now.pre {B P M : Nat} {na : Option Addr} {w w1 w2 : World} {ms : List Nd} (hb : Below w.heap.size w w1) (h : Now B P M na w1 w2 ms) : Now B P M na w w2 ms := by
  obtain ⟨na', nc', h1, h2⟩ := h
  exact ⟨na', nc', h1, (MStep.of hb).trans h2⟩
theorem MkAt.now {B P M nc : Nat} {na : Option Addr} {w w' : World} {ms : List Nd} (h : MkAt B P M na nc w ms) (hb : Below w.heap.size w w') : Now B P M na w w' ms := ⟨na, nc, h.more hb, MStep.of hb⟩
/-- all that is asked -/
structure MkOK (B P M : Nat) (na : Option Addr) (nc : Nat) (w : World) (ms : List Nd) : Prop where
  at_ : MkAt B P M na nc w ms
  few : ms.length ≤ 90000
  base : B ≤ w.heap.size
  ahead : Ahead ms
theorem MkOK.more {B P M nc : Nat} {na : Option Addr} {w w' : World} {ms : List Nd} (h : MkOK B P M na nc w ms) (hb : Below w.heap.size w w') : MkOK B P M na nc w' ms := ⟨h.at_.more hb, h.few, Nat.le_trans h.base hb.size, h.ahead⟩

set_option maxRecDepth 100000 in
set_option maxHeartbeats 1600000 in
theorem two_at {B P M nc : Nat} {na : Option Addr} {ms : List Nd} (op a b : Int) (w : World) (h : MkOK B P M na nc w ms) :
    Gives B P M na ms 44 #[.pointer (some ⟨P, 0, none⟩), .int .i64 op, .int .i64 a, .int .i64 b] w (twoR op a b) := by
  have HC := hide fun x => node_at x h.few w h.base h.at_
  clear h
  unfold Gives twoR doneR
  rcases Int.lt_trichotomy a b with hl | rfl | hl
  · have e1 : min a b = a := by omega
    have e2 : max a b = b := by omega
    simp only [e1, e2]
    go_enter Try.func44, Try.ntmps44
    go_wp2_with fail
    refine (HC.out ⟨op, a, b, 0⟩).mono ?_
    rintro e w' ⟨rfl, hb⟩
    have HB := hide hb
    clear hb
    go_wp2_with fail
    go_ret
    exact ⟨rfl, HB.out⟩
  · have e1 : min a a = a := by omega
    have e2 : max a a = a := by omega
    simp only [e1, e2]
    go_enter Try.func44, Try.ntmps44
    go_wp2_with fail
    refine (HC.out ⟨op, a, a, 0⟩).mono ?_
    rintro e w' ⟨rfl, hb⟩
    have HB := hide hb
    clear hb
    go_wp2_with fail
    go_ret
    exact ⟨rfl, HB.out⟩
  · have hl2 : b ≤ a := by omega
    have hl3 : ¬ a ≤ b := by omega
    have hl4 : ¬ a < b := by omega
    have e1 : min a b = b := by omega
    have e2 : max a b = a := by omega
    simp only [e1, e2]
    go_enter Try.func44, Try.ntmps44
    go_wp2_with fail
    refine (HC.out ⟨op, b, a, 0⟩).mono ?_
    rintro e w' ⟨rfl, hb⟩
    have HB := hide hb
    clear hb
    go_wp2_with fail
    go_ret
    exact ⟨rfl, HB.out⟩

set_option maxRecDepth 100000 in
set_option maxHeartbeats 1600000 in
theorem not_at {B P M nc : Nat} {na : Option Addr} {ms : List Nd} (a : Int) (w : World) (h : MkOK B P M na nc w ms) (ha : In ms a) :
    Gives B P M na ms 37 #[.pointer (some ⟨P, 0, none⟩), .int .i64 a] w (notR ms a) := by
  have HO := hide (other_at (P := P) a w h.at_.row ha.1 ha.2)
  have H := hide h
  clear h ha
  unfold Gives notR
  generalize otherM ms a = r at *
  obtain ⟨rk, rb⟩ := r
  cases rb
  · rw [if_neg (by simp)]
    unfold doneR
    go_enter Try.func37, Try.ntmps37
    go_wp2_with fail
    refine HO.out.mono ?_
    rintro e w1 ⟨rfl, hb⟩
    have HB := hide hb
    have HC := hide (node_at ⟨8, a, 0, 0⟩ H.out.few w1 (H.out.more hb).base (H.out.more hb).at_)
    clear hb HO
    go_wp2_with fail
    refine HC.out.mono ?_
    rintro e w' ⟨rfl, hb⟩
    have HB2 := hide (Now.pre HB.out hb)
    clear hb
    go_wp2_with fail
    go_ret
    exact ⟨rfl, HB2.out⟩
  · rw [if_pos rfl]
    unfold doneR
    go_enter Try.func37, Try.ntmps37
    go_wp2_with fail
    refine HO.out.mono ?_
    rintro e w1 ⟨rfl, hb⟩
    have HB := hide (H.out.at_.now hb)
    clear hb HO
    go_wp2_with fail
    go_ret
    exact ⟨rfl, HB.out⟩

/-- a join of two: how it goes on -/
theorem where_le {ms : List Nd} (h : Ahead ms) {is : Int} (hi : 0 ≤ is ∧ is ≤ 1) (that : Int) : ∀ (f : Nat) {node : Int}, In ms node → whereM ms f node that is ≤ max node 1
  | 0, node, hn => by
    have := turn_small hi
    unfold whereM
    split
    · omega
    split <;> omega
  | f + 1, node, hn => by
    have ht := turn_small hi
    have hoth : ∀ x : Int, In ms x → x ≤ max node 1 → (otherM ms x).2 = true → (otherM ms x).1 ≤ max node 1 := by
      intro x hx hl hr
      unfold otherM at *
      by_cases hle : x ≤ 1
      · rw [if_pos hle]
        have := turn_small ⟨hx.1, hle⟩
        simp only; omega
      · rw [if_neg hle] at *
        have h8 : (mAt ms x).op = 8 := by simpa using hr
        obtain ⟨k, rfl⟩ := Int.eq_ofNat_of_zero_le hx.1
        have := (h.2 k (by have := hx.2; omega)).1 (by simpa [mAt] using h8)
        have e : (mAt ms (k : Int)).a = (ndAt ms k).a := by simp [mAt]
        simp only [e]; omega
    unfold whereM
    split
    · omega
    split
    · omega
    split
    · rename_i ho
      unfold seenM
      have hx := h.one hn ho
      have hl := where_le h hi that f hx
      have hk : (mAt ms node).a < node := by
        obtain ⟨k, rfl⟩ := Int.eq_ofNat_of_zero_le hn.1
        have := (h.2 k (by have := hn.2; omega)).1 (by simpa [mAt] using ho)
        have e : (mAt ms (k : Int)).a = (ndAt ms k).a := by simp [mAt]
        omega
      split
      · rename_i hs
        exact hoth _ (where_in h hi that f hx) (by omega) hs
      · omega
    split
    · rename_i ho
      unfold seenM
      obtain ⟨hx, hy⟩ := h.twoA hn ho
      have hl := where_le h hi that f hx
      have hm := where_le h hi that f hy
      have hk : (mAt ms node).a < node ∧ (mAt ms node).b < node := by
        obtain ⟨k, rfl⟩ := Int.eq_ofNat_of_zero_le hn.1
        have := (h.2 k (by have := hn.2; omega)).2 (by simpa [mAt] using ho)
        have e : (mAt ms (k : Int)).a = (ndAt ms k).a := by simp [mAt]
        have e' : (mAt ms (k : Int)).b = (ndAt ms k).b := by simp [mAt]
        omega
      split
      · rename_i hs
        have hxi := where_in h hi that f hx
        have hyi := where_in h hi that f hy
        generalize whereM ms f (mAt ms node).a that is = u at *
        generalize whereM ms f (mAt ms node).b that is = v at *
        generalize (mAt ms node).op = op at *
        have hti := turn_small (idle_le op)
        unfold freeM at *
        by_cases c1 : u = idle op
        · rw [if_pos c1]; simp only; omega
        rw [if_neg c1] at *
        by_cases c2 : v = idle op
        · rw [if_pos c2]; simp only; omega
        rw [if_neg c2] at *
        by_cases c3 : oppM ms u v = true
        · rw [if_pos c3]; simp only; omega
        rw [if_neg c3] at *
        by_cases c4 : op = 7
        · rw [if_pos c4] at *
          unfold freeX at *
          by_cases d1 : u = v
          · rw [if_pos d1]; simp only; omega
          rw [if_neg d1] at *
          by_cases d2 : u = 1
          · rw [if_pos d2] at *; exact hoth _ hyi (by omega) hs
          rw [if_neg d2] at *
          by_cases d3 : v = 1
          · rw [if_pos d3] at *; exact hoth _ hxi (by omega) hs
          rw [if_neg d3] at *
          cases hs
        rw [if_neg c4] at *
        by_cases c5 : u = turnK (idle op)
        · rw [if_pos c5]; simp only; omega
        rw [if_neg c5] at *
        by_cases c6 : v = turnK (idle op)
        · rw [if_pos c6]; simp only; omega
        rw [if_neg c6] at *
        simp only; omega
      · omega
    · omega
theorem turn_idle (op : Int) : turnK (idle op) = 1 - idle op := by
  unfold turnK
  rw [if_neg (by have := idle_le op; omega)]
theorem free_no {ms : List Nd} {op a b : Int} (ha : In ms a) (hb : In ms b) (h7 : op ≠ 7) (hf : (freeM ms op a b).2 = false) : 2 ≤ a ∧ 2 ≤ b := by
  have hi := idle_le op
  have ht := turn_idle op
  have ha0 := ha.1
  have hb0 := hb.1
  unfold freeM at hf
  by_cases c1 : a = idle op
  · rw [if_pos c1] at hf; cases hf
  rw [if_neg c1] at hf
  by_cases c2 : b = idle op
  · rw [if_pos c2] at hf; cases hf
  rw [if_neg c2] at hf
  by_cases c3 : oppM ms a b = true
  · rw [if_pos c3] at hf; cases hf
  rw [if_neg c3, if_neg h7] at hf
  by_cases c5 : a = turnK (idle op)
  · rw [if_pos c5] at hf; cases hf
  rw [if_neg c5] at hf
  by_cases c6 : b = turnK (idle op)
  · rw [if_pos c6] at hf; cases hf
  omega
end Go.Proofs.Ytlnmemeejgnbeaa
