/-
  THE WALK of rungworklaw.ValueReckons: for every text, every four numbers and every list of bits it returns true, and it writes nothing that was there.
-/
import Derived.Test.YtmoakccnjahfeaaRAll
namespace Go.Proofs.Ytmoakccnjahfeaa
open Go.RowKit

set_option maxHeartbeats 1600000 in
theorem same_empty (a a' : Option Addr) (c c' : Nat) (w : World) :
    Calls Try.prog 10 #[.slice a 0 c, .slice a' 0 c'] w fun e w' => e = .returned (.bool true) ∧ ∃ n, w' = w.drewN n := by
  go_enter Try.func10, Try.ntmps10
  go_wp2
  go_loop [5] (fun i => i = .int .i64 0) (fun _ => 0)
  case atStart => exact rfl
  case round =>
    subst hrel
    go_wp2
    go_ret
    exact ⟨rfl, 0, rfl⟩

theorem isBits_empty {w : World} {v : Value} (h : IsBits w v []) : ∃ a c, v = .slice a 0 c := by
  rcases h with ⟨rfl | ⟨x, c, rfl⟩, _⟩ | ⟨b, o, c, rfl, _, _, _⟩
  · exact ⟨_, _, rfl⟩
  · exact ⟨_, _, rfl⟩
  · exact ⟨_, _, rfl⟩

theorem same_at (X : List Bool) (v v' : Value) (w : World) (h : IsBits w v X) (h' : IsBits w v' X) :
    Calls Try.prog 10 #[v, v'] w fun e w' => e = .returned (.bool true) ∧ ∃ n, w' = w.drewN n := by
  by_cases hX : X = []
  · subst hX
    obtain ⟨a, c, rfl⟩ := isBits_empty h
    obtain ⟨a', c', rfl⟩ := isBits_empty h'
    exact same_empty a a' c c' w
  · rcases h with ⟨_, e⟩ | ⟨b, o, c, rfl, h1, h2, hc⟩
    · exact absurd e hX
    · rcases h' with ⟨_, e⟩ | ⟨b', o', c', rfl, h1', h2', hc'⟩
      · exact absurd e hX
      · have := same_some X X rfl b o c b' o' c' w (by omega) hc hc'
        rw [show (X == X) = true by simp] at this
        exact this

set_option maxHeartbeats 1600000 in
theorem reck_long0 (op : ByteArray) (k o a b : Int) (ad : Option Addr) (len cap : Nat) (w : World) (h : (20 : Int) < (op.size : Int)) :
    Calls Try.prog 3 #[.string op, .int .i64 k, .int .i64 o, .int .i64 a, .int .i64 b, .slice ad len cap] w fun e w' => e = .returned (.bool true) ∧ Below w.heap.size w w' := by
  go_enter Try.func3, Try.ntmps3
  go_wp2
  go_ret
  exact ⟨rfl, Below.refl _ _⟩
set_option maxHeartbeats 1600000 in
theorem reck_long1 (op : ByteArray) (k o a b : Int) (ad : Option Addr) (len cap : Nat) (w : World) (h0 : (op.size : Int) ≤ 20) (h : (100 : Int) < (len : Int)) :
    Calls Try.prog 3 #[.string op, .int .i64 k, .int .i64 o, .int .i64 a, .int .i64 b, .slice ad len cap] w fun e w' => e = .returned (.bool true) ∧ Below w.heap.size w w' := by
  have hd : decide ((20 : Int) < (op.size : Int)) = false := by simp; omega
  go_enter Try.func3, Try.ntmps3
  go_wp2
  go_ret
  exact ⟨rfl, Below.refl _ _⟩

set_option maxRecDepth 100000 in
set_option maxHeartbeats 4000000 in
theorem reck_short (op : ByteArray) (k o a b m : Int) (ad : Option Addr) (len cap : Nat) (l : List Bool) (w : World) (h0 : (op.size : Int) ≤ 20) (h1 : (len : Int) ≤ 100)
    (ha : Hid (-9223372036854775808 ≤ a ∧ a ≤ 9223372036854775807)) (hb : Hid (-9223372036854775808 ≤ b ∧ b ≤ 9223372036854775807))
    (hl : Hid (IsBits w (.slice ad len cap) l)) (hm : Hid (w.cell? ⟨0, 0, none⟩ = some (.int .i64 m))) :
    Calls Try.prog 3 #[.string op, .int .i64 k, .int .i64 o, .int .i64 a, .int .i64 b, .slice ad len cap] w fun e w' => e = .returned (.bool true) ∧ Below w.heap.size w w' := by
  have hd0 : decide ((20 : Int) < (op.size : Int)) = false := by simp; omega
  have hd1 : decide ((100 : Int) < (len : Int)) = false := by simp; omega
  have h20 : Hid (op.size ≤ 20) := (by omega : op.size ≤ 20)
  clear h0 h1
  go_enter Try.func3, Try.ntmps3
  go_wp2_with fail
  refine (width_any k _).mono ?_; rintro e w' ⟨rfl, rfl⟩
  go_wp2_with fail
  refine (rwidth_any k _).mono ?_; rintro e w' ⟨rfl, rfl⟩
  go_wp2_with fail
  refine (cut_any k a _).mono ?_; rintro e w' ⟨rfl, rfl⟩
  go_wp2_with fail
  refine (rcut_any k a _ ha.out.1 ha.out.2).mono ?_; rintro e w' ⟨rfl, rfl⟩
  go_wp2_with fail
  refine (bits_any k a _).mono ?_; rintro e w1 ⟨x, rfl, hown1, hbel1⟩
  have HX1 : Hid (IsBits w1 x (bitsTo a (wid k))) := isBits_owns hown1
  have HB1 : Hid (Below w'.heap.size w' w1) := hbel1
  clear hown1 hbel1
  go_wp2_with fail
  refine (rbits_any k a w1 ha.out.1 ha.out.2).mono ?_; rintro e w2 ⟨y, rfl, hown2, hbel2⟩
  have HY2 : Hid (IsBits w2 y (bitsTo a (wid k))) := isBits_owns hown2
  have HX2 : Hid (IsBits w2 x (bitsTo a (wid k))) := HX1.out.below hbel2
  have HB2 : Hid (Below w'.heap.size w' w2) := HB1.out.trans (hbel2.mono HB1.out.size)
  clear hown2 hbel2 HX1 HB1
  go_wp2_with fail
  refine (same_at _ x y w2 HX2.out HY2.out).mono ?_; rintro e w3 ⟨rfl, n3, rfl⟩
  have HB3 : Hid (Below w'.heap.size w' (w2.drewN n3)) := below_drewN HB2.out n3
  clear HX2 HY2 HB2
  generalize w2.drewN n3 = W at *
  have HL3 : Hid (IsBits W (.slice ad len cap) l) := hl.out.below HB3.out
  have HM3 : Hid (W.cell? ⟨0, 0, none⟩ = some (.int .i64 m)) := (HB3.out.cell (p := ⟨0, 0, none⟩) (cell_lt hm.out)).trans hm.out
  go_wp2_with fail
  refine (of_any l _ W HL3.out).mono ?_; rintro e w'' ⟨rfl, rfl⟩
  go_wp2_with fail
  refine (rof_any l _ _ HL3.out).mono ?_; rintro e w'' ⟨rfl, rfl⟩
  go_wp2_with fail
  refine (result_any op k o _).mono ?_; rintro e w'' ⟨rfl, rfl⟩
  go_wp2_with fail
  refine (rresult_any op k o m _ HM3.out h20.out).mono ?_; rintro e w4 ⟨rfl, hbel4⟩
  have HB4 : Hid (Below w'.heap.size w' w4) := HB3.out.trans (hbel4.mono HB3.out.size)
  have HM4 : Hid (w4.cell? ⟨0, 0, none⟩ = some (.int .i64 m)) := (hbel4.cell (p := ⟨0, 0, none⟩) (cell_lt HM3.out)).trans HM3.out
  clear hbel4 HM3 HL3 HB3
  go_wp2_with fail
  refine (two_any op k a b _).mono ?_; rintro e w'' ⟨rfl, rfl⟩
  go_wp2_with fail
  refine (rtwo_any op k a b m _ HM4.out h20.out ha.out hb.out).mono ?_; rintro e w5 ⟨rfl, hbel5⟩
  have HB5 : Hid (Below w'.heap.size w' w5) := HB4.out.trans (hbel5.mono HB4.out.size)
  clear hbel5 HM4 HB4
  go_wp2_with fail
  refine (not_any k a _ ha.out.1 ha.out.2).mono ?_; rintro e w'' ⟨rfl, rfl⟩
  go_wp2_with fail
  refine (rturn_any k a _ ha.out.1 ha.out.2).mono ?_; rintro e w'' ⟨rfl, rfl⟩
  go_wp2_with fail
  go_ret
  exact ⟨rfl, HB5.out⟩
end Go.Proofs.Ytmoakccnjahfeaa
