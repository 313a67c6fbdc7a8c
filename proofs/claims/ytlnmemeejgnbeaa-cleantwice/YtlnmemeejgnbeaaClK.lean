/-
  CONTRACTS of join, xor.
-/
import Derived.Test.YtlnmemeejgnbeaaClJ
set_option linter.unusedSimpArgs false
set_option linter.unusedVariables false
namespace Go.Proofs.Ytlnmemeejgnbeaa
open Go.RowKit

def JoinOK (B P M nc : Nat) (na : Option Addr) (ms : List Nd) (op : Int) (f : Nat) : Prop := ∀ (a b : Int) (w : World), In ms a → In ms b → MkOK B P M na nc w ms → a.toNat + b.toNat < f →
  Gives B P M na ms 35 #[.pointer (some ⟨P, 0, none⟩), .int .i64 op, .int .i64 a, .int .i64 b] w (joinR ms f op a b)
def WhereC (P nc : Nat) (na : Option Addr) (ms : List Nd) (node that is : Int) (r : Int) : Prop := ∀ (w : World), RowAt w P na nc ms →
  Calls Try.prog 42 #[.pointer (some ⟨P, 0, none⟩), .int .i64 node, .int .i64 that, .int .i64 is, .int .i64 3] w fun e w' => e = .returned (.int .i64 r) ∧ Below w.heap.size w w'

set_option maxRecDepth 100000 in
set_option maxHeartbeats 1600000 in
theorem join_1 {B P M nc : Nat} {na : Option Addr} {ms : List Nd} (op a b : Int) (w : World) (h : MkOK B P M na nc w ms) (ha : In ms a) (hb : In ms b) (k : Int) (hf : freeM ms op a b = (k, true)) :
    Gives B P M na ms 35 #[.pointer (some ⟨P, 0, none⟩), .int .i64 op, .int .i64 a, .int .i64 b] w (.num k) := by
  have HF := hide (free_at (P := P) op a b w h.at_.row ha.1 ha.2 hb.1 hb.2)
  rw [hf] at HF
  have H := hide h
  clear h ha hb hf
  unfold Gives doneR
  go_enter Try.func35, Try.ntmps35
  go_wp2_with fail
  refine HF.out.mono ?_
  rintro e w1 ⟨rfl, hb⟩
  have HB := hide (H.out.at_.now hb)
  clear hb HF
  go_wp2_with fail
  go_ret
  exact ⟨rfl, HB.out⟩

set_option maxRecDepth 100000 in
set_option maxHeartbeats 1600000 in
theorem join_2 {B P M nc : Nat} {na : Option Addr} {ms : List Nd} (op a b d c : Int) (w : World) (h : MkOK B P M na nc w ms) (ha : In ms a) (hb : In ms b) (k : Int) (hf : freeM ms op a b = (k, false)) (hi : idle op = d) (hw : WhereC P nc na ms b a d c) (hne : (c != b) = true) (r : Rq)
    (IH : ∀ w, MkOK B P M na nc w ms → Gives B P M na ms 35 #[.pointer (some ⟨P, 0, none⟩), .int .i64 op, .int .i64 a, .int .i64 c] w r) :
    Gives B P M na ms 35 #[.pointer (some ⟨P, 0, none⟩), .int .i64 op, .int .i64 a, .int .i64 b] w r := by
  have HF := hide (free_at (P := P) op a b w h.at_.row ha.1 ha.2 hb.1 hb.2)
  rw [hf] at HF
  have HI := hide fun W => idle_at op W
  rw [hi] at HI
  have H := hide h
  have HW := hide hw
  have HIH := hide IH
  clear h ha hb hf hi hw IH
  unfold Gives at *
  generalize doneR ms r = R at *
  obtain ⟨Rk, Rm⟩ := R
  go_enter Try.func35, Try.ntmps35
  go_wp2_with fail
  refine HF.out.mono ?_
  rintro e w1 ⟨rfl, hb⟩
  have HB := hide hb
  have H1 := hide (H.out.more hb)
  clear hb HF
  go_wp2_with fail
  refine (HI.out _).mono ?_
  rintro e w' ⟨rfl, rfl⟩
  go_wp2_with fail
  refine (HW.out _ H1.out.at_.row).mono ?_
  rintro e w2 ⟨rfl, hb⟩
  have HB2 := hide (Below.step HB.out hb)
  have H2 := hide (H1.out.more hb)
  clear hb HW HI HB
  go_wp2_with fail
  refine (HIH.out _ H2.out).mono ?_
  rintro e w3 ⟨rfl, hn⟩
  have HN := hide (Now.pre HB2.out hn)
  clear hn HIH
  go_wp2_with fail
  go_ret
  exact ⟨rfl, HN.out⟩

set_option maxRecDepth 100000 in
set_option maxHeartbeats 1600000 in
theorem join_3 {B P M nc : Nat} {na : Option Addr} {ms : List Nd} (op a b d c : Int) (w : World) (h : MkOK B P M na nc w ms) (ha : In ms a) (hb : In ms b) (k : Int) (hf : freeM ms op a b = (k, false)) (hi : idle op = d) (hw : WhereC P nc na ms b a d b) (hw2 : WhereC P nc na ms a b d c) (hne : (c != a) = true) (r : Rq)
    (IH : ∀ w, MkOK B P M na nc w ms → Gives B P M na ms 35 #[.pointer (some ⟨P, 0, none⟩), .int .i64 op, .int .i64 c, .int .i64 b] w r) :
    Gives B P M na ms 35 #[.pointer (some ⟨P, 0, none⟩), .int .i64 op, .int .i64 a, .int .i64 b] w r := by
  have HF := hide (free_at (P := P) op a b w h.at_.row ha.1 ha.2 hb.1 hb.2)
  rw [hf] at HF
  have HI := hide fun W => idle_at op W
  rw [hi] at HI
  have H := hide h
  have HW := hide hw
  have HV := hide hw2
  have HIH := hide IH
  have hbb : (b != b) = false := by simp
  clear h ha hb hf hi hw hw2 IH
  unfold Gives at *
  generalize doneR ms r = R at *
  obtain ⟨Rk, Rm⟩ := R
  go_enter Try.func35, Try.ntmps35
  go_wp2_with fail
  refine HF.out.mono ?_
  rintro e w1 ⟨rfl, hb⟩
  have HB := hide hb
  have H1 := hide (H.out.more hb)
  clear hb HF
  go_wp2_with fail
  refine (HI.out _).mono ?_
  rintro e w' ⟨rfl, rfl⟩
  go_wp2_with fail
  refine (HW.out _ H1.out.at_.row).mono ?_
  rintro e w2 ⟨rfl, hb⟩
  have HB2 := hide (Below.step HB.out hb)
  have H2 := hide (H1.out.more hb)
  clear hb HW HB
  go_wp2_with fail
  refine (HI.out _).mono ?_
  rintro e w' ⟨rfl, rfl⟩
  go_wp2_with fail
  refine (HV.out _ H2.out.at_.row).mono ?_
  rintro e w3 ⟨rfl, hb⟩
  have HB3 := hide (Below.step HB2.out hb)
  have H3 := hide (H2.out.more hb)
  clear hb HV HI HB2
  go_wp2_with fail
  refine (HIH.out _ H3.out).mono ?_
  rintro e w4 ⟨rfl, hn⟩
  have HN := hide (Now.pre HB3.out hn)
  clear hn HIH
  go_wp2_with fail
  go_ret
  exact ⟨rfl, HN.out⟩

set_option maxRecDepth 100000 in
set_option maxHeartbeats 1600000 in
theorem join_4 {B P M nc : Nat} {na : Option Addr} {ms : List Nd} (op a b d : Int) (w : World) (h : MkOK B P M na nc w ms) (ha : In ms a) (hb : In ms b) (k : Int) (hf : freeM ms op a b = (k, false)) (hi : idle op = d) (hw : WhereC P nc na ms b a d b) (hw2 : WhereC P nc na ms a b d a) :
    Gives B P M na ms 35 #[.pointer (some ⟨P, 0, none⟩), .int .i64 op, .int .i64 a, .int .i64 b] w (twoR op a b) := by
  have HF := hide (free_at (P := P) op a b w h.at_.row ha.1 ha.2 hb.1 hb.2)
  rw [hf] at HF
  have HI := hide fun W => idle_at op W
  rw [hi] at HI
  have H := hide h
  have HW := hide hw
  have HV := hide hw2
  have HIH := hide fun w (h : MkOK B P M na nc w ms) => two_at op a b w h
  have hbb : (b != b) = false := by simp
  have haa : (a != a) = false := by simp
  clear h ha hb hf hi hw hw2
  unfold Gives at *
  generalize doneR ms (twoR op a b) = R at *
  obtain ⟨Rk, Rm⟩ := R
  go_enter Try.func35, Try.ntmps35
  go_wp2_with fail
  refine HF.out.mono ?_
  rintro e w1 ⟨rfl, hb⟩
  have HB := hide hb
  have H1 := hide (H.out.more hb)
  clear hb HF
  go_wp2_with fail
  refine (HI.out _).mono ?_
  rintro e w' ⟨rfl, rfl⟩
  go_wp2_with fail
  refine (HW.out _ H1.out.at_.row).mono ?_
  rintro e w2 ⟨rfl, hb⟩
  have HB2 := hide (Below.step HB.out hb)
  have H2 := hide (H1.out.more hb)
  clear hb HW HB
  go_wp2_with fail
  refine (HI.out _).mono ?_
  rintro e w' ⟨rfl, rfl⟩
  go_wp2_with fail
  refine (HV.out _ H2.out.at_.row).mono ?_
  rintro e w3 ⟨rfl, hb⟩
  have HB3 := hide (Below.step HB2.out hb)
  have H3 := hide (H2.out.more hb)
  clear hb HV HI HB2
  go_wp2_with fail
  refine (HIH.out _ H3.out).mono ?_
  rintro e w4 ⟨rfl, hn⟩
  have HN := hide (Now.pre HB3.out hn)
  clear hn HIH
  go_wp2_with fail
  go_ret
  exact ⟨rfl, HN.out⟩

theorem join_all {B P M nc : Nat} {na : Option Addr} {ms : List Nd} (op : Int) (h7 : op ≠ 7) : ∀ f, JoinOK B P M nc na ms op f
  | 0 => fun a b w _ _ _ h => absurd h (Nat.not_lt_zero _)
  | f + 1 => by
    intro a b w ha hb h hf
    have IH := join_all (B := B) (P := P) (M := M) (nc := nc) (na := na) (ms := ms) op h7 f
    have hi := idle_le op
    have hW : ∀ x y : Int, In ms x → In ms y → WhereC P nc na ms x y (idle op) (whereM ms 3 x y (idle op)) := fun x y hx hy w hr => where_all h.ahead hy hi 3 (by omega) x w hx hr
    rw [joinR]
    cases hfr : freeM ms op a b with
    | mk k ok =>
      cases ok with
      | true => rw [if_pos rfl]; exact join_1 op a b w h ha hb k hfr
      | false =>
        rw [if_neg (by simp)]
        have h2 := free_no ha hb h7 (by rw [hfr])
        by_cases c1 : whereM ms 3 b a (idle op) = b
        · rw [if_pos c1]
          have w1 := hW b a hb ha
          rw [c1] at w1
          by_cases c2 : whereM ms 3 a b (idle op) = a
          · rw [if_pos c2]
            have w2 := hW a b ha hb
            rw [c2] at w2
            exact join_4 op a b _ w h ha hb k hfr rfl w1 w2
          · rw [if_neg c2]
            have hl := where_le h.ahead hi b 3 ha
            exact join_3 op a b _ _ w h ha hb k hfr rfl w1 (hW a b ha hb) (by simp [c2]) _ fun w h => IH _ _ w (where_in h.ahead hi b 3 ha) hb h (by have := (where_in h.ahead hi b 3 ha).1; omega)
        · rw [if_neg c1]
          have hl := where_le h.ahead hi a 3 hb
          exact join_2 op a b _ _ w h ha hb k hfr rfl (hW b a hb ha) (by simp [c1]) _ fun w h => IH _ _ w ha (where_in h.ahead hi a 3 hb) h (by have := (where_in h.ahead hi a 3 hb).1; omega)
end Go.Proofs.Ytlnmemeejgnbeaa
