/-
  CONTRACT of xor.
-/
import Derived.Test.YtlnmemeejgnbeaaClK
set_option linter.unusedSimpArgs false
set_option linter.unusedVariables false
namespace Go.Proofs.Ytlnmemeejgnbeaa
open Go.RowKit

def XorOK (B P M nc : Nat) (na : Option Addr) (ms : List Nd) (f : Nat) : Prop := ∀ (a b : Int) (w : World), In ms a → In ms b → MkOK B P M na nc w ms → a.toNat + b.toNat < f →
  Gives B P M na ms 36 #[.pointer (some ⟨P, 0, none⟩), .int .i64 a, .int .i64 b] w (xorR ms f a b)

set_option maxRecDepth 100000 in
set_option maxHeartbeats 1600000 in
theorem xor_1 {B P M nc : Nat} {na : Option Addr} {ms : List Nd} (a b : Int) (w : World) (h : MkOK B P M na nc w ms) (ha : In ms a) (hb : In ms b) (k : Int) (hf : freeM ms 7 a b = (k, true)) :
    Gives B P M na ms 36 #[.pointer (some ⟨P, 0, none⟩), .int .i64 a, .int .i64 b] w (.num k) := by
  have HF := hide (free_at (P := P) 7 a b w h.at_.row ha.1 ha.2 hb.1 hb.2)
  rw [hf] at HF
  have H := hide h
  clear h ha hb hf
  unfold Gives doneR
  go_enter Try.func36, Try.ntmps36
  go_wp2_with fail
  refine HF.out.mono ?_
  rintro e w1 ⟨rfl, hb⟩
  have HB := hide (H.out.at_.now hb)
  clear hb HF
  go_wp2_with fail
  go_ret
  exact ⟨rfl, HB.out⟩

/-- a pure law of two freshly laid nodes -/
theorem below2 (w : World) (o o' : Obj) : Below w.heap.size w ((w.alloc o).alloc o').drew := (((Below.refl _ _).alloc (Nat.le_refl _) _).alloc (by simp) _).drew

set_option maxRecDepth 100000 in
set_option maxHeartbeats 3200000 in
theorem xor_2 {B P M nc : Nat} {na : Option Addr} {ms : List Nd} (i j : Nat) (w : World) (h : MkOK B P M na nc w ms) (ha : In ms i) (hb : In ms j) (k : Int) (hf : freeM ms 7 i j = (k, false)) (op xa xb nx op' xa' xb' nx' : Int) (hx : ndAt ms i = ⟨op, xa, xb, nx⟩) (hy : ndAt ms j = ⟨op', xa', xb', nx'⟩) (e1 : ((i : Int) == 1) = true) (r : Rq)
    (IH : ∀ w, MkOK B P M na nc w ms → Gives B P M na ms 37 #[.pointer (some ⟨P, 0, none⟩), .int .i64 j] w r) :
    Gives B P M na ms 36 #[.pointer (some ⟨P, 0, none⟩), .int .i64 i, .int .i64 j] w r := by
  have HF := hide (free_at (P := P) 7 i j w h.at_.row ha.1 ha.2 hb.1 hb.2)
  rw [hf] at HF
  have H := hide h
  have HIH := hide IH
  have hi : (i : Int) < (ms.length : Int) := ha.2
  have hj : (j : Int) < (ms.length : Int) := hb.2
  clear h ha hb hf IH
  unfold Gives at *
  generalize doneR ms r = R at *
  obtain ⟨Rk, Rm⟩ := R
  go_enter Try.func36, Try.ntmps36
  go_wp2_with fail
  refine HF.out.mono ?_
  rintro e w1 ⟨rfl, hb⟩
  have HB := hide hb
  have H1 := hide (H.out.more hb)
  obtain ⟨b, off, rfl, _, hbl, n0, n1, n2, n3⟩ := H1.out.at_.row.row.nodes (show i < ms.length by omega)
  obtain ⟨b', off', hbb, _, hbl', m0, m1, m2, m3⟩ := H1.out.at_.row.row.nodes (show j < ms.length by omega)
  cases hbb
  rw [hx] at n0 n1 n2 n3
  rw [hy] at m0 m1 m2 m3
  simp only at n0 n1 n2 n3 m0 m1 m2 m3
  have hd := H1.out.at_.row.hd
  have hPl := H1.out.at_.lt
  have H2 := hide fun o o' => H1.out.more (below2 w1 o o')
  have HB2 := hide fun o o' => Below.step HB.out (below2 w1 o o')
  clear hb HF hx hy HB
  generalize ms.length = n at *
  have hda := fun o => cell_alloc hd o
  have hdb := fun o o' => cell_alloc (cell_alloc hd o) o'
  have n0a := fun o => cell_alloc n0 o
  have n0b := fun o o' => cell_alloc (cell_alloc n0 o) o'
  have n1a := fun o => cell_alloc n1 o
  have n1b := fun o o' => cell_alloc (cell_alloc n1 o) o'
  have n2a := fun o => cell_alloc n2 o
  have n2b := fun o o' => cell_alloc (cell_alloc n2 o) o'
  have n3a := fun o => cell_alloc n3 o
  have n3b := fun o o' => cell_alloc (cell_alloc n3 o) o'
  have m0a := fun o => cell_alloc m0 o
  have m0b := fun o o' => cell_alloc (cell_alloc m0 o) o'
  have m1a := fun o => cell_alloc m1 o
  have m1b := fun o o' => cell_alloc (cell_alloc m1 o) o'
  have m2a := fun o => cell_alloc m2 o
  have m2b := fun o o' => cell_alloc (cell_alloc m2 o) o'
  have m3a := fun o => cell_alloc m3 o
  have m3b := fun o o' => cell_alloc (cell_alloc m3 o) o'
  go_wp2_with fail
  go_region
  all_goals
    clear hda hdb n0 n1 n2 n3 m0 m1 m2 m3 n0a n1a n2a n3a m0a m1a m2a m3a n0b n1b n2b n3b m0b m1b m2b m3b hd
    go_wp2_with fail
    refine (HIH.out _ (H2.out _ _)).mono ?_
    rintro e w4 ⟨rfl, hn⟩
    have HN := hide (Now.pre (HB2.out _ _) hn)
    clear hn HIH
    go_wp2_with fail
    go_ret
    exact ⟨rfl, HN.out⟩

set_option maxRecDepth 100000 in
set_option maxHeartbeats 3200000 in
theorem xor_3 {B P M nc : Nat} {na : Option Addr} {ms : List Nd} (i j : Nat) (w : World) (h : MkOK B P M na nc w ms) (ha : In ms i) (hb : In ms j) (k : Int) (hf : freeM ms 7 i j = (k, false)) (op xa xb nx op' xa' xb' nx' : Int) (hx : ndAt ms i = ⟨op, xa, xb, nx⟩) (hy : ndAt ms j = ⟨op', xa', xb', nx'⟩) (e1 : ((i : Int) == 1) = false) (e2 : ((j : Int) == 1) = true) (r : Rq)
    (IH : ∀ w, MkOK B P M na nc w ms → Gives B P M na ms 37 #[.pointer (some ⟨P, 0, none⟩), .int .i64 i] w r) :
    Gives B P M na ms 36 #[.pointer (some ⟨P, 0, none⟩), .int .i64 i, .int .i64 j] w r := by
  have HF := hide (free_at (P := P) 7 i j w h.at_.row ha.1 ha.2 hb.1 hb.2)
  rw [hf] at HF
  have H := hide h
  have HIH := hide IH
  have hi : (i : Int) < (ms.length : Int) := ha.2
  have hj : (j : Int) < (ms.length : Int) := hb.2
  clear h ha hb hf IH
  unfold Gives at *
  generalize doneR ms r = R at *
  obtain ⟨Rk, Rm⟩ := R
  go_enter Try.func36, Try.ntmps36
  go_wp2_with fail
  refine HF.out.mono ?_
  rintro e w1 ⟨rfl, hb⟩
  have HB := hide hb
  have H1 := hide (H.out.more hb)
  obtain ⟨b, off, rfl, _, hbl, n0, n1, n2, n3⟩ := H1.out.at_.row.row.nodes (show i < ms.length by omega)
  obtain ⟨b', off', hbb, _, hbl', m0, m1, m2, m3⟩ := H1.out.at_.row.row.nodes (show j < ms.length by omega)
  cases hbb
  rw [hx] at n0 n1 n2 n3
  rw [hy] at m0 m1 m2 m3
  simp only at n0 n1 n2 n3 m0 m1 m2 m3
  have hd := H1.out.at_.row.hd
  have hPl := H1.out.at_.lt
  have H2 := hide fun o o' => H1.out.more (below2 w1 o o')
  have HB2 := hide fun o o' => Below.step HB.out (below2 w1 o o')
  clear hb HF hx hy HB
  generalize ms.length = n at *
  have hda := fun o => cell_alloc hd o
  have hdb := fun o o' => cell_alloc (cell_alloc hd o) o'
  have n0a := fun o => cell_alloc n0 o
  have n0b := fun o o' => cell_alloc (cell_alloc n0 o) o'
  have n1a := fun o => cell_alloc n1 o
  have n1b := fun o o' => cell_alloc (cell_alloc n1 o) o'
  have n2a := fun o => cell_alloc n2 o
  have n2b := fun o o' => cell_alloc (cell_alloc n2 o) o'
  have n3a := fun o => cell_alloc n3 o
  have n3b := fun o o' => cell_alloc (cell_alloc n3 o) o'
  have m0a := fun o => cell_alloc m0 o
  have m0b := fun o o' => cell_alloc (cell_alloc m0 o) o'
  have m1a := fun o => cell_alloc m1 o
  have m1b := fun o o' => cell_alloc (cell_alloc m1 o) o'
  have m2a := fun o => cell_alloc m2 o
  have m2b := fun o o' => cell_alloc (cell_alloc m2 o) o'
  have m3a := fun o => cell_alloc m3 o
  have m3b := fun o o' => cell_alloc (cell_alloc m3 o) o'
  go_wp2_with fail
  go_region
  all_goals
    clear hda hdb n0 n1 n2 n3 m0 m1 m2 m3 n0a n1a n2a n3a m0a m1a m2a m3a n0b n1b n2b n3b m0b m1b m2b m3b hd
    go_wp2_with fail
    refine (HIH.out _ (H2.out _ _)).mono ?_
    rintro e w4 ⟨rfl, hn⟩
    have HN := hide (Now.pre (HB2.out _ _) hn)
    clear hn HIH
    go_wp2_with fail
    go_ret
    exact ⟨rfl, HN.out⟩

set_option maxRecDepth 100000 in
set_option maxHeartbeats 3200000 in
theorem xor_4 {B P M nc : Nat} {na : Option Addr} {ms : List Nd} (i j : Nat) (w : World) (h : MkOK B P M na nc w ms) (ha : In ms i) (hb : In ms j) (k : Int) (hf : freeM ms 7 i j = (k, false)) (op xa xb nx op' xa' xb' nx' : Int) (hx : ndAt ms i = ⟨op, xa, xb, nx⟩) (hy : ndAt ms j = ⟨op', xa', xb', nx'⟩) (e1 : ((i : Int) == 1) = false) (e2 : ((j : Int) == 1) = false) (e3 : (op == 8) = true) (e4 : (op' == 8) = true) (r : Rq)
    (IH : ∀ w, MkOK B P M na nc w ms → Gives B P M na ms 36 #[.pointer (some ⟨P, 0, none⟩), .int .i64 xa, .int .i64 xa'] w r) :
    Gives B P M na ms 36 #[.pointer (some ⟨P, 0, none⟩), .int .i64 i, .int .i64 j] w r := by
  have HF := hide (free_at (P := P) 7 i j w h.at_.row ha.1 ha.2 hb.1 hb.2)
  rw [hf] at HF
  have H := hide h
  have HIH := hide IH
  have hi : (i : Int) < (ms.length : Int) := ha.2
  have hj : (j : Int) < (ms.length : Int) := hb.2
  clear h ha hb hf IH
  unfold Gives at *
  generalize doneR ms r = R at *
  obtain ⟨Rk, Rm⟩ := R
  go_enter Try.func36, Try.ntmps36
  go_wp2_with fail
  refine HF.out.mono ?_
  rintro e w1 ⟨rfl, hb⟩
  have HB := hide hb
  have H1 := hide (H.out.more hb)
  obtain ⟨b, off, rfl, _, hbl, n0, n1, n2, n3⟩ := H1.out.at_.row.row.nodes (show i < ms.length by omega)
  obtain ⟨b', off', hbb, _, hbl', m0, m1, m2, m3⟩ := H1.out.at_.row.row.nodes (show j < ms.length by omega)
  cases hbb
  rw [hx] at n0 n1 n2 n3
  rw [hy] at m0 m1 m2 m3
  simp only at n0 n1 n2 n3 m0 m1 m2 m3
  have hd := H1.out.at_.row.hd
  have hPl := H1.out.at_.lt
  have H2 := hide fun o o' => H1.out.more (below2 w1 o o')
  have HB2 := hide fun o o' => Below.step HB.out (below2 w1 o o')
  clear hb HF hx hy HB
  generalize ms.length = n at *
  have hda := fun o => cell_alloc hd o
  have hdb := fun o o' => cell_alloc (cell_alloc hd o) o'
  have n0a := fun o => cell_alloc n0 o
  have n0b := fun o o' => cell_alloc (cell_alloc n0 o) o'
  have n1a := fun o => cell_alloc n1 o
  have n1b := fun o o' => cell_alloc (cell_alloc n1 o) o'
  have n2a := fun o => cell_alloc n2 o
  have n2b := fun o o' => cell_alloc (cell_alloc n2 o) o'
  have n3a := fun o => cell_alloc n3 o
  have n3b := fun o o' => cell_alloc (cell_alloc n3 o) o'
  have m0a := fun o => cell_alloc m0 o
  have m0b := fun o o' => cell_alloc (cell_alloc m0 o) o'
  have m1a := fun o => cell_alloc m1 o
  have m1b := fun o o' => cell_alloc (cell_alloc m1 o) o'
  have m2a := fun o => cell_alloc m2 o
  have m2b := fun o o' => cell_alloc (cell_alloc m2 o) o'
  have m3a := fun o => cell_alloc m3 o
  have m3b := fun o o' => cell_alloc (cell_alloc m3 o) o'
  go_wp2_with fail
  go_region
  all_goals
    clear hda hdb n0 n1 n2 n3 m0 m1 m2 m3 n0a n1a n2a n3a m0a m1a m2a m3a n0b n1b n2b n3b m0b m1b m2b m3b hd
    go_wp2_with fail
    refine (HIH.out _ (H2.out _ _)).mono ?_
    rintro e w4 ⟨rfl, hn⟩
    have HN := hide (Now.pre (HB2.out _ _) hn)
    clear hn HIH
    go_wp2_with fail
    go_ret
    exact ⟨rfl, HN.out⟩

set_option maxRecDepth 100000 in
set_option maxHeartbeats 3200000 in
theorem xor_5 {B P M nc : Nat} {na : Option Addr} {ms : List Nd} (i j : Nat) (w : World) (h : MkOK B P M na nc w ms) (ha : In ms i) (hb : In ms j) (k : Int) (hf : freeM ms 7 i j = (k, false)) (op xa xb nx op' xa' xb' nx' : Int) (hx : ndAt ms i = ⟨op, xa, xb, nx⟩) (hy : ndAt ms j = ⟨op', xa', xb', nx'⟩) (e1 : ((i : Int) == 1) = false) (e2 : ((j : Int) == 1) = false) (e3 : (op == 8) = false) (r : Rq)
    (IH : ∀ w, MkOK B P M na nc w ms → Gives B P M na ms 44 #[.pointer (some ⟨P, 0, none⟩), .int .i64 7, .int .i64 i, .int .i64 j] w r) :
    Gives B P M na ms 36 #[.pointer (some ⟨P, 0, none⟩), .int .i64 i, .int .i64 j] w r := by
  have HF := hide (free_at (P := P) 7 i j w h.at_.row ha.1 ha.2 hb.1 hb.2)
  rw [hf] at HF
  have H := hide h
  have HIH := hide IH
  have hi : (i : Int) < (ms.length : Int) := ha.2
  have hj : (j : Int) < (ms.length : Int) := hb.2
  clear h ha hb hf IH
  unfold Gives at *
  generalize doneR ms r = R at *
  obtain ⟨Rk, Rm⟩ := R
  go_enter Try.func36, Try.ntmps36
  go_wp2_with fail
  refine HF.out.mono ?_
  rintro e w1 ⟨rfl, hb⟩
  have HB := hide hb
  have H1 := hide (H.out.more hb)
  obtain ⟨b, off, rfl, _, hbl, n0, n1, n2, n3⟩ := H1.out.at_.row.row.nodes (show i < ms.length by omega)
  obtain ⟨b', off', hbb, _, hbl', m0, m1, m2, m3⟩ := H1.out.at_.row.row.nodes (show j < ms.length by omega)
  cases hbb
  rw [hx] at n0 n1 n2 n3
  rw [hy] at m0 m1 m2 m3
  simp only at n0 n1 n2 n3 m0 m1 m2 m3
  have hd := H1.out.at_.row.hd
  have hPl := H1.out.at_.lt
  have H2 := hide fun o o' => H1.out.more (below2 w1 o o')
  have HB2 := hide fun o o' => Below.step HB.out (below2 w1 o o')
  clear hb HF hx hy HB
  generalize ms.length = n at *
  have hda := fun o => cell_alloc hd o
  have hdb := fun o o' => cell_alloc (cell_alloc hd o) o'
  have n0a := fun o => cell_alloc n0 o
  have n0b := fun o o' => cell_alloc (cell_alloc n0 o) o'
  have n1a := fun o => cell_alloc n1 o
  have n1b := fun o o' => cell_alloc (cell_alloc n1 o) o'
  have n2a := fun o => cell_alloc n2 o
  have n2b := fun o o' => cell_alloc (cell_alloc n2 o) o'
  have n3a := fun o => cell_alloc n3 o
  have n3b := fun o o' => cell_alloc (cell_alloc n3 o) o'
  have m0a := fun o => cell_alloc m0 o
  have m0b := fun o o' => cell_alloc (cell_alloc m0 o) o'
  have m1a := fun o => cell_alloc m1 o
  have m1b := fun o o' => cell_alloc (cell_alloc m1 o) o'
  have m2a := fun o => cell_alloc m2 o
  have m2b := fun o o' => cell_alloc (cell_alloc m2 o) o'
  have m3a := fun o => cell_alloc m3 o
  have m3b := fun o o' => cell_alloc (cell_alloc m3 o) o'
  go_wp2_with fail
  go_region
  all_goals
    clear hda hdb n0 n1 n2 n3 m0 m1 m2 m3 n0a n1a n2a n3a m0a m1a m2a m3a n0b n1b n2b n3b m0b m1b m2b m3b hd
    go_wp2_with fail
    refine (HIH.out _ (H2.out _ _)).mono ?_
    rintro e w4 ⟨rfl, hn⟩
    have HN := hide (Now.pre (HB2.out _ _) hn)
    clear hn HIH
    go_wp2_with fail
    go_ret
    exact ⟨rfl, HN.out⟩

set_option maxRecDepth 100000 in
set_option maxHeartbeats 3200000 in
theorem xor_6 {B P M nc : Nat} {na : Option Addr} {ms : List Nd} (i j : Nat) (w : World) (h : MkOK B P M na nc w ms) (ha : In ms i) (hb : In ms j) (k : Int) (hf : freeM ms 7 i j = (k, false)) (op xa xb nx op' xa' xb' nx' : Int) (hx : ndAt ms i = ⟨op, xa, xb, nx⟩) (hy : ndAt ms j = ⟨op', xa', xb', nx'⟩) (e1 : ((i : Int) == 1) = false) (e2 : ((j : Int) == 1) = false) (e3 : (op == 8) = true) (e4 : (op' == 8) = false) (r : Rq)
    (IH : ∀ w, MkOK B P M na nc w ms → Gives B P M na ms 44 #[.pointer (some ⟨P, 0, none⟩), .int .i64 7, .int .i64 i, .int .i64 j] w r) :
    Gives B P M na ms 36 #[.pointer (some ⟨P, 0, none⟩), .int .i64 i, .int .i64 j] w r := by
  have HF := hide (free_at (P := P) 7 i j w h.at_.row ha.1 ha.2 hb.1 hb.2)
  rw [hf] at HF
  have H := hide h
  have HIH := hide IH
  have hi : (i : Int) < (ms.length : Int) := ha.2
  have hj : (j : Int) < (ms.length : Int) := hb.2
  clear h ha hb hf IH
  unfold Gives at *
  generalize doneR ms r = R at *
  obtain ⟨Rk, Rm⟩ := R
  go_enter Try.func36, Try.ntmps36
  go_wp2_with fail
  refine HF.out.mono ?_
  rintro e w1 ⟨rfl, hb⟩
  have HB := hide hb
  have H1 := hide (H.out.more hb)
  obtain ⟨b, off, rfl, _, hbl, n0, n1, n2, n3⟩ := H1.out.at_.row.row.nodes (show i < ms.length by omega)
  obtain ⟨b', off', hbb, _, hbl', m0, m1, m2, m3⟩ := H1.out.at_.row.row.nodes (show j < ms.length by omega)
  cases hbb
  rw [hx] at n0 n1 n2 n3
  rw [hy] at m0 m1 m2 m3
  simp only at n0 n1 n2 n3 m0 m1 m2 m3
  have hd := H1.out.at_.row.hd
  have hPl := H1.out.at_.lt
  have H2 := hide fun o o' => H1.out.more (below2 w1 o o')
  have HB2 := hide fun o o' => Below.step HB.out (below2 w1 o o')
  clear hb HF hx hy HB
  generalize ms.length = n at *
  have hda := fun o => cell_alloc hd o
  have hdb := fun o o' => cell_alloc (cell_alloc hd o) o'
  have n0a := fun o => cell_alloc n0 o
  have n0b := fun o o' => cell_alloc (cell_alloc n0 o) o'
  have n1a := fun o => cell_alloc n1 o
  have n1b := fun o o' => cell_alloc (cell_alloc n1 o) o'
  have n2a := fun o => cell_alloc n2 o
  have n2b := fun o o' => cell_alloc (cell_alloc n2 o) o'
  have n3a := fun o => cell_alloc n3 o
  have n3b := fun o o' => cell_alloc (cell_alloc n3 o) o'
  have m0a := fun o => cell_alloc m0 o
  have m0b := fun o o' => cell_alloc (cell_alloc m0 o) o'
  have m1a := fun o => cell_alloc m1 o
  have m1b := fun o o' => cell_alloc (cell_alloc m1 o) o'
  have m2a := fun o => cell_alloc m2 o
  have m2b := fun o o' => cell_alloc (cell_alloc m2 o) o'
  have m3a := fun o => cell_alloc m3 o
  have m3b := fun o o' => cell_alloc (cell_alloc m3 o) o'
  go_wp2_with fail
  go_region
  all_goals
    clear hda hdb n0 n1 n2 n3 m0 m1 m2 m3 n0a n1a n2a n3a m0a m1a m2a m3a n0b n1b n2b n3b m0b m1b m2b m3b hd
    go_wp2_with fail
    refine (HIH.out _ (H2.out _ _)).mono ?_
    rintro e w4 ⟨rfl, hn⟩
    have HN := hide (Now.pre (HB2.out _ _) hn)
    clear hn HIH
    go_wp2_with fail
    go_ret
    exact ⟨rfl, HN.out⟩

theorem xor_all {B P M nc : Nat} {na : Option Addr} {ms : List Nd} : ∀ f, XorOK B P M nc na ms f
  | 0 => fun a b w _ _ _ h => absurd h (Nat.not_lt_zero _)
  | f + 1 => by
    intro a b w ha hb h hf
    have IH := xor_all (B := B) (P := P) (M := M) (nc := nc) (na := na) (ms := ms) f
    rw [xorR]
    cases hfr : freeM ms 7 a b with
    | mk k ok =>
      cases ok with
      | true => rw [if_pos rfl]; exact xor_1 a b w h ha hb k hfr
      | false =>
        rw [if_neg (by simp)]
        obtain ⟨i, rfl⟩ := Int.eq_ofNat_of_zero_le ha.1
        obtain ⟨j, rfl⟩ := Int.eq_ofNat_of_zero_le hb.1
        have ei : mAt ms (i : Int) = ndAt ms i := by simp [mAt]
        have ej : mAt ms (j : Int) = ndAt ms j := by simp [mAt]
        have oi := fun h8 => h.ahead.one ha h8
        have oj := fun h8 => h.ahead.one hb h8
        have ai := fun h8 => (h.ahead.2 i (by have := ha.2; omega)).1 h8
        have aj := fun h8 => (h.ahead.2 j (by have := hb.2; omega)).1 h8
        rw [ei] at oi
        rw [ej] at oj
        rw [ei, ej]
        generalize hx : ndAt ms i = x at *
        generalize hy : ndAt ms j = y at *
        obtain ⟨op, xa, xb, nx⟩ := x
        obtain ⟨op', xa', xb', nx'⟩ := y
        simp only at *
        by_cases c1 : (i : Int) = 1
        · rw [if_pos c1]
          exact xor_2 i j w h ha hb k hfr _ _ _ _ _ _ _ _ hx hy (by simp [c1]) _ fun w h => not_at _ w h hb
        rw [if_neg c1]
        by_cases c2 : (j : Int) = 1
        · rw [if_pos c2]
          exact xor_3 i j w h ha hb k hfr _ _ _ _ _ _ _ _ hx hy (by simp [c1]) (by simp [c2]) _ fun w h => not_at _ w h ha
        rw [if_neg c2]
        by_cases c3 : op = 8
        · by_cases c4 : op' = 8
          · rw [if_pos ⟨c3, c4⟩]
            exact xor_4 i j w h ha hb k hfr _ _ _ _ _ _ _ _ hx hy (by simp [c1]) (by simp [c2]) (by simp [c3]) (by simp [c4]) _ fun w h => IH _ _ w (oi c3) (oj c4) h (by have := ai c3; have := aj c4; omega)
          · rw [if_neg (by simp [c4])]
            exact xor_6 i j w h ha hb k hfr _ _ _ _ _ _ _ _ hx hy (by simp [c1]) (by simp [c2]) (by simp [c3]) (by simp [c4]) _ fun w h => two_at 7 _ _ w h
        · rw [if_neg (by simp [c3])]
          exact xor_5 i j w h ha hb k hfr _ _ _ _ _ _ _ _ hx hy (by simp [c1]) (by simp [c2]) (by simp [c3]) _ fun w h => two_at 7 _ _ w h
end Go.Proofs.Ytlnmemeejgnbeaa
