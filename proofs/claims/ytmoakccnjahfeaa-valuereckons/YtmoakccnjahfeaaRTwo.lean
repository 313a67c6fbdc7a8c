/-
  CONTRACT of the document's own answer for Two (package rungworkref), where the mark is 'and', 'or' or 'xor': bit by bit.
-/
import Derived.Test.YtmoakccnjahfeaaRes
import Derived.Deep.RegionHeld3
import Derived.Deep.AppendLies
namespace Go.Proofs.Ytmoakccnjahfeaa
open Go.RowKit
theorem rres_at (op : ByteArray) (a b m r : Int) (w : World) (hm : w.cell? ⟨0, 0, none⟩ = some (.int .i64 m)) (h20 : op.size ≤ 20) (h : resI op.data.toList a b = r) :
    Calls Try.prog 16 #[.string op, .int .i64 a, .int .i64 b] w fun e w' => e = .returned (.int .i64 r) ∧ Below w.heap.size w w' := by
  rw [← h]; exact rresult_any op a b m w hm h20

def zipTo (f : Bool → Bool → Bool) (X Y : List Bool) (j : Nat) : List Bool := (List.range j).map fun i => f (X[i]?.getD false) (Y[i]?.getD false)
theorem zipTo_len (f : Bool → Bool → Bool) (X Y : List Bool) (j : Nat) : (zipTo f X Y j).length = j := by simp [zipTo]
theorem zipTo_succ (f : Bool → Bool → Bool) (X Y : List Bool) (j : Nat) : zipTo f X Y (j + 1) = zipTo f X Y j ++ [f (X[j]?.getD false) (Y[j]?.getD false)] := by simp [zipTo, List.range_succ]
theorem zip_step {f : Bool → Bool → Bool} {X Y : List Bool} {x y z : Bool} {B j : Nat} {w wr w1 : World} {v v' : Value} {o : Obj} (hB : B ≤ wr.heap.size) (hown : wr.ownsRow B 4 1 v j ((zipTo f X Y j).map Value.bool)) (hnx : Below B w wr)
    (hx : X[j]?.getD false = x) (hy : Y[j]?.getD false = y) (hz : f x y = z)
    (hown' : w1.ownsRow B 4 1 v' (j + 1) ((zipTo f X Y j).map Value.bool ++ [.bool z])) (hgrow : (wr.alloc o).grownBy w1 v.ownBlock) :
    w1.ownsRow B 4 1 v' (j + 1) ((zipTo f X Y (j + 1)).map Value.bool) ∧ Below B w w1 := by
  refine ⟨?_, (hnx.alloc (by omega) o).grown hgrow (by simp; omega) (fun j hj => by have := (hown.lt j hj).1; omega)⟩
  rw [zipTo_succ, hx, hy, hz]; simpa using hown'
/-- a row that is not empty, by its cells -/
theorem isBits_some {w : World} {v : Value} {X : List Bool} {N : Nat} (h : IsBits w v X) (hN : X.length = N) (h0 : 0 < N) :
    ∃ b o cap, v = .slice (some ⟨b, o, none⟩) N cap ∧ ∀ i, i < N → w.cell? ⟨b, o + i, none⟩ = some (.bool (X[i]?.getD false)) := by
  rcases h with ⟨_, rfl⟩ | ⟨b, o, cap, rfl, _, _, hc⟩
  · simp at hN; omega
  · exact ⟨b, o, cap, by rw [hN], fun i hi => hc i (by omega)⟩

theorem rof_at (Z : List Bool) (N : Nat) (v : Value) (w : World) (hZ : Z.length = N) (hN : N ≤ 62) (h : IsBits w v Z) :
    Calls Try.prog 14 #[v] w fun e w' => e = .returned (.int .i64 (ofTo Z N)) ∧ w' = w := by
  have := rof_any Z v w h
  rw [hZ, show min N 62 = N by omega] at this
  exact this

set_option maxRecDepth 100000 in
set_option maxHeartbeats 4000000 in
theorem rtwo_and (k a b m : Int) (w : World) (hm : w.cell? ⟨0, 0, none⟩ = some (.int .i64 m)) (hk : k = 1 ∨ k = 2) (N : Nat) (hN : Hid (wid k = N)) (hN0 : 0 < N) (hN8 : N ≤ 8)
    (ha1 : -9223372036854775808 ≤ a) (ha2 : a ≤ 9223372036854775807) (hb1 : -9223372036854775808 ≤ b) (hb2 : b ≤ 9223372036854775807) :
    Calls Try.prog 18 #[.string ⟨#[97, 110, 100]⟩, .int .i64 k, .int .i64 a, .int .i64 b] w fun e w' => e = .returned (.int .i64 (ofTo (zipTo and (bitsTo a N) (bitsTo b N) N) N)) ∧ Below w.heap.size w w' := by
  have hk0 : (k == 0) = false := by rcases hk with rfl | rfl <;> rfl
  have HR : Hid (resI [97, 110, 100] k k = k) := by rcases hk with rfl | rfl <;> rfl
  clear hk
  obtain ⟨i0, hi, hz0, hz1, hz2⟩ := info_parts Try.info4
  go_enter Try.func18, Try.ntmps18
  go_wp2_with fail
  refine (rres_at ⟨#[97, 110, 100]⟩ k k m k _ hm (by decide) HR.out).mono ?_; rintro e w1 ⟨rfl, hbel1⟩
  have HB1 : Hid (Below w.heap.size w w1) := hbel1
  clear hbel1
  go_wp2_with fail
  refine (rbits_any k a w1 ha1 ha2).mono ?_; rintro e w2 ⟨x, rfl, hown2, hbel2⟩
  have HX2 : Hid (IsBits w2 x (bitsTo a (wid k))) := isBits_owns hown2
  have HB2 : Hid (Below w.heap.size w w2) := HB1.out.trans (hbel2.mono HB1.out.size)
  clear hown2 hbel2 HB1
  go_wp2_with fail
  refine (rbits_any k b w2 hb1 hb2).mono ?_; rintro e w3 ⟨y, rfl, hown3, hbel3⟩
  have HX3 : Hid (IsBits w3 x (bitsTo a (wid k))) := HX2.out.below hbel3
  have HY3 : Hid (IsBits w3 y (bitsTo b (wid k))) := isBits_owns hown3
  have HB3 : Hid (Below w.heap.size w w3) := HB2.out.trans (hbel3.mono HB2.out.size)
  clear hown3 hbel3 HB2 HX2
  rw [hN.out] at HX3 HY3
  obtain ⟨bx, ox, cx, rfl, hcx⟩ := isBits_some HX3.out (bitsTo_len a N) hN0
  obtain ⟨by', oy, cy, rfl, hcy⟩ := isBits_some HY3.out (bitsTo_len b N) hN0
  have HCX : Hid (∀ i, i < N → w3.cell? ⟨bx, ox + i, none⟩ = some (.bool ((bitsTo a N)[i]?.getD false))) := hcx
  have HCY : Hid (∀ i, i < N → w3.cell? ⟨by', oy + i, none⟩ = some (.bool ((bitsTo b N)[i]?.getD false))) := hcy
  clear hcx hcy HX3 HY3
  go_wp2_with (first | (go_at_call 9; refine (rcut_any _ _ _ (by assumption) (by assumption)).mono ?_; rintro e w' ⟨rfl, rfl⟩))
  generalize hB : w'.heap.size = B
  have HB : Hid (w'.heap.size = B) := hB; clear hB
  generalize cutI k a = ca at *
  generalize cutI k b = cb at *
  go_loopw [11, 33] (fun v c wr => ∃ j : Nat, j ≤ N ∧ c = .int .i64 j ∧ wr.ownsRow B 4 1 v j ((zipTo and (bitsTo a N) (bitsTo b N) j).map Value.bool) ∧ Below B w' wr)
    (fun _ c _ => N - (intOf c).toNat)
  case atStart => exact ⟨0, Nat.zero_le _, rfl, World.ownsRow_nil _ _ _ _, Below.refl _ _⟩
  case round =>
    obtain ⟨j, hj, rfl, hown, hnx⟩ := hrel
    have hsz : B ≤ wr.heap.size := by have := hnx.size; have := HB.out; omega
    by_cases hlt : j < N
    · have hx0 := HCX.out j hlt
      have hy0 := HCY.out j hlt
      have hxj : wr.cell? ⟨bx, ox + j, none⟩ = some (.bool ((bitsTo a N)[j]?.getD false)) := (hnx.cell (p := ⟨bx, ox + j, none⟩) (by rw [← HB.out]; exact cell_lt hx0)).trans hx0
      have hyj : wr.cell? ⟨by', oy + j, none⟩ = some (.bool ((bitsTo b N)[j]?.getD false)) := (hnx.cell (p := ⟨by', oy + j, none⟩) (by rw [← HB.out]; exact cell_lt hy0)).trans hy0
      clear hx0 hy0
      have hj1 : (j : Int) < (N : Int) := by omega
      generalize hx : (bitsTo a N)[j]?.getD false = x at *
      generalize hy : (bitsTo b N)[j]?.getD false = y at *
      have HXj : Hid ((bitsTo a N)[j]?.getD false = x) := hx
      have HYj : Hid ((bitsTo b N)[j]?.getD false = y) := hy
      clear hx hy
      cases x <;> cases y
      all_goals
        go_wp2_with (first
          | (at_builtin; refine wpList_append_own _ rfl _ _ 22 rfl B 4 i0 (.bool false) 1 1 Try.underlying22 hi hz0 hz1 hz2 rfl (by decide) _ _ _ rfl (hown.alloc _) ⟨wr.heap.size, 0, none⟩ 1 1 [_] rfl rfl (cell_one_new _ _ _) (by intro u hu; simp at hu; subst hu; rfl) (by unfold maxLen; omega) (by omega) (by simp; omega) ?_))
        intro v' w1 hown' hgrow _
        have R := zip_step hsz hown hnx HXj.out HYj.out rfl hown' hgrow
        clear hown' hgrow hown hnx
        go_wp2
        go_roundw
        case rel => exact ⟨j + 1, by omega, by go_num, R.1, R.2⟩
        case measure => simp [intOf]; omega
    · have HK : Hid (j = N) := (by omega : j = N)
      rw [HK.out] at hown
      have hI := isBits_owns hown
      obtain ⟨bo, oo, co, rfl, hco⟩ := isBits_some hI (zipTo_len and _ _ N) hN0
      have HI : Hid (IsBits wr (.slice (some ⟨bo, oo, none⟩) N co) (zipTo and (bitsTo a N) (bitsTo b N) N)) := hI
      have HBF : Hid (Below w.heap.size w wr) := HB3.out.trans (hnx.mono (by rw [← HB.out]; exact HB3.out.size))
      clear hown hI hco hnx
      have hN0' : (0 : Int) < (N : Int) := by omega
      go_wp2_with fail
      refine (rof_at _ N _ _ (zipTo_len and _ _ N) (by omega) HI.out).mono ?_; rintro e w' ⟨rfl, rfl⟩
      go_wp2_with fail
      go_ret
      exact ⟨rfl, HBF.out⟩
set_option maxRecDepth 100000 in
set_option maxHeartbeats 4000000 in
theorem rtwo_or (k a b m : Int) (w : World) (hm : w.cell? ⟨0, 0, none⟩ = some (.int .i64 m)) (hk : k = 1 ∨ k = 2) (N : Nat) (hN : Hid (wid k = N)) (hN0 : 0 < N) (hN8 : N ≤ 8)
    (ha1 : -9223372036854775808 ≤ a) (ha2 : a ≤ 9223372036854775807) (hb1 : -9223372036854775808 ≤ b) (hb2 : b ≤ 9223372036854775807) :
    Calls Try.prog 18 #[.string ⟨#[111, 114]⟩, .int .i64 k, .int .i64 a, .int .i64 b] w fun e w' => e = .returned (.int .i64 (ofTo (zipTo or (bitsTo a N) (bitsTo b N) N) N)) ∧ Below w.heap.size w w' := by
  have hk0 : (k == 0) = false := by rcases hk with rfl | rfl <;> rfl
  have HR : Hid (resI [111, 114] k k = k) := by rcases hk with rfl | rfl <;> rfl
  clear hk
  obtain ⟨i0, hi, hz0, hz1, hz2⟩ := info_parts Try.info4
  go_enter Try.func18, Try.ntmps18
  go_wp2_with fail
  refine (rres_at ⟨#[111, 114]⟩ k k m k _ hm (by decide) HR.out).mono ?_; rintro e w1 ⟨rfl, hbel1⟩
  have HB1 : Hid (Below w.heap.size w w1) := hbel1
  clear hbel1
  go_wp2_with fail
  refine (rbits_any k a w1 ha1 ha2).mono ?_; rintro e w2 ⟨x, rfl, hown2, hbel2⟩
  have HX2 : Hid (IsBits w2 x (bitsTo a (wid k))) := isBits_owns hown2
  have HB2 : Hid (Below w.heap.size w w2) := HB1.out.trans (hbel2.mono HB1.out.size)
  clear hown2 hbel2 HB1
  go_wp2_with fail
  refine (rbits_any k b w2 hb1 hb2).mono ?_; rintro e w3 ⟨y, rfl, hown3, hbel3⟩
  have HX3 : Hid (IsBits w3 x (bitsTo a (wid k))) := HX2.out.below hbel3
  have HY3 : Hid (IsBits w3 y (bitsTo b (wid k))) := isBits_owns hown3
  have HB3 : Hid (Below w.heap.size w w3) := HB2.out.trans (hbel3.mono HB2.out.size)
  clear hown3 hbel3 HB2 HX2
  rw [hN.out] at HX3 HY3
  obtain ⟨bx, ox, cx, rfl, hcx⟩ := isBits_some HX3.out (bitsTo_len a N) hN0
  obtain ⟨by', oy, cy, rfl, hcy⟩ := isBits_some HY3.out (bitsTo_len b N) hN0
  have HCX : Hid (∀ i, i < N → w3.cell? ⟨bx, ox + i, none⟩ = some (.bool ((bitsTo a N)[i]?.getD false))) := hcx
  have HCY : Hid (∀ i, i < N → w3.cell? ⟨by', oy + i, none⟩ = some (.bool ((bitsTo b N)[i]?.getD false))) := hcy
  clear hcx hcy HX3 HY3
  go_wp2_with (first | (go_at_call 9; refine (rcut_any _ _ _ (by assumption) (by assumption)).mono ?_; rintro e w' ⟨rfl, rfl⟩))
  generalize hB : w'.heap.size = B
  have HB : Hid (w'.heap.size = B) := hB; clear hB
  generalize cutI k a = ca at *
  generalize cutI k b = cb at *
  go_loopw [11, 33] (fun v c wr => ∃ j : Nat, j ≤ N ∧ c = .int .i64 j ∧ wr.ownsRow B 4 1 v j ((zipTo or (bitsTo a N) (bitsTo b N) j).map Value.bool) ∧ Below B w' wr)
    (fun _ c _ => N - (intOf c).toNat)
  case atStart => exact ⟨0, Nat.zero_le _, rfl, World.ownsRow_nil _ _ _ _, Below.refl _ _⟩
  case round =>
    obtain ⟨j, hj, rfl, hown, hnx⟩ := hrel
    have hsz : B ≤ wr.heap.size := by have := hnx.size; have := HB.out; omega
    by_cases hlt : j < N
    · have hx0 := HCX.out j hlt
      have hy0 := HCY.out j hlt
      have hxj : wr.cell? ⟨bx, ox + j, none⟩ = some (.bool ((bitsTo a N)[j]?.getD false)) := (hnx.cell (p := ⟨bx, ox + j, none⟩) (by rw [← HB.out]; exact cell_lt hx0)).trans hx0
      have hyj : wr.cell? ⟨by', oy + j, none⟩ = some (.bool ((bitsTo b N)[j]?.getD false)) := (hnx.cell (p := ⟨by', oy + j, none⟩) (by rw [← HB.out]; exact cell_lt hy0)).trans hy0
      clear hx0 hy0
      have hj1 : (j : Int) < (N : Int) := by omega
      generalize hx : (bitsTo a N)[j]?.getD false = x at *
      generalize hy : (bitsTo b N)[j]?.getD false = y at *
      have HXj : Hid ((bitsTo a N)[j]?.getD false = x) := hx
      have HYj : Hid ((bitsTo b N)[j]?.getD false = y) := hy
      clear hx hy
      cases x <;> cases y
      all_goals
        go_wp2_with (first
          | (at_builtin; refine wpList_append_own _ rfl _ _ 22 rfl B 4 i0 (.bool false) 1 1 Try.underlying22 hi hz0 hz1 hz2 rfl (by decide) _ _ _ rfl (hown.alloc _) ⟨wr.heap.size, 0, none⟩ 1 1 [_] rfl rfl (cell_one_new _ _ _) (by intro u hu; simp at hu; subst hu; rfl) (by unfold maxLen; omega) (by omega) (by simp; omega) ?_))
        intro v' w1 hown' hgrow _
        have R := zip_step hsz hown hnx HXj.out HYj.out rfl hown' hgrow
        clear hown' hgrow hown hnx
        go_wp2
        go_roundw
        case rel => exact ⟨j + 1, by omega, by go_num, R.1, R.2⟩
        case measure => simp [intOf]; omega
    · have HK : Hid (j = N) := (by omega : j = N)
      rw [HK.out] at hown
      have hI := isBits_owns hown
      obtain ⟨bo, oo, co, rfl, hco⟩ := isBits_some hI (zipTo_len or _ _ N) hN0
      have HI : Hid (IsBits wr (.slice (some ⟨bo, oo, none⟩) N co) (zipTo or (bitsTo a N) (bitsTo b N) N)) := hI
      have HBF : Hid (Below w.heap.size w wr) := HB3.out.trans (hnx.mono (by rw [← HB.out]; exact HB3.out.size))
      clear hown hI hco hnx
      have hN0' : (0 : Int) < (N : Int) := by omega
      go_wp2_with fail
      refine (rof_at _ N _ _ (zipTo_len or _ _ N) (by omega) HI.out).mono ?_; rintro e w' ⟨rfl, rfl⟩
      go_wp2_with fail
      go_ret
      exact ⟨rfl, HBF.out⟩
set_option maxRecDepth 100000 in
set_option maxHeartbeats 4000000 in
theorem rtwo_xor (k a b m : Int) (w : World) (hm : w.cell? ⟨0, 0, none⟩ = some (.int .i64 m)) (hk : k = 1 ∨ k = 2) (N : Nat) (hN : Hid (wid k = N)) (hN0 : 0 < N) (hN8 : N ≤ 8)
    (ha1 : -9223372036854775808 ≤ a) (ha2 : a ≤ 9223372036854775807) (hb1 : -9223372036854775808 ≤ b) (hb2 : b ≤ 9223372036854775807) :
    Calls Try.prog 18 #[.string ⟨#[120, 111, 114]⟩, .int .i64 k, .int .i64 a, .int .i64 b] w fun e w' => e = .returned (.int .i64 (ofTo (zipTo bne (bitsTo a N) (bitsTo b N) N) N)) ∧ Below w.heap.size w w' := by
  have hk0 : (k == 0) = false := by rcases hk with rfl | rfl <;> rfl
  have HR : Hid (resI [120, 111, 114] k k = k) := by rcases hk with rfl | rfl <;> rfl
  clear hk
  obtain ⟨i0, hi, hz0, hz1, hz2⟩ := info_parts Try.info4
  go_enter Try.func18, Try.ntmps18
  go_wp2_with fail
  refine (rres_at ⟨#[120, 111, 114]⟩ k k m k _ hm (by decide) HR.out).mono ?_; rintro e w1 ⟨rfl, hbel1⟩
  have HB1 : Hid (Below w.heap.size w w1) := hbel1
  clear hbel1
  go_wp2_with fail
  refine (rbits_any k a w1 ha1 ha2).mono ?_; rintro e w2 ⟨x, rfl, hown2, hbel2⟩
  have HX2 : Hid (IsBits w2 x (bitsTo a (wid k))) := isBits_owns hown2
  have HB2 : Hid (Below w.heap.size w w2) := HB1.out.trans (hbel2.mono HB1.out.size)
  clear hown2 hbel2 HB1
  go_wp2_with fail
  refine (rbits_any k b w2 hb1 hb2).mono ?_; rintro e w3 ⟨y, rfl, hown3, hbel3⟩
  have HX3 : Hid (IsBits w3 x (bitsTo a (wid k))) := HX2.out.below hbel3
  have HY3 : Hid (IsBits w3 y (bitsTo b (wid k))) := isBits_owns hown3
  have HB3 : Hid (Below w.heap.size w w3) := HB2.out.trans (hbel3.mono HB2.out.size)
  clear hown3 hbel3 HB2 HX2
  rw [hN.out] at HX3 HY3
  obtain ⟨bx, ox, cx, rfl, hcx⟩ := isBits_some HX3.out (bitsTo_len a N) hN0
  obtain ⟨by', oy, cy, rfl, hcy⟩ := isBits_some HY3.out (bitsTo_len b N) hN0
  have HCX : Hid (∀ i, i < N → w3.cell? ⟨bx, ox + i, none⟩ = some (.bool ((bitsTo a N)[i]?.getD false))) := hcx
  have HCY : Hid (∀ i, i < N → w3.cell? ⟨by', oy + i, none⟩ = some (.bool ((bitsTo b N)[i]?.getD false))) := hcy
  have HLX : Hid (bx < w3.heap.size) := cell_lt (hcx 0 hN0)
  have HLY : Hid (by' < w3.heap.size) := cell_lt (hcy 0 hN0)
  clear hcx hcy HX3 HY3
  go_wp2_with (first | (go_at_call 9; refine (rcut_any _ _ _ (by assumption) (by assumption)).mono ?_; rintro e w' ⟨rfl, rfl⟩))
  generalize hB : w'.heap.size = B
  have HB : Hid (w'.heap.size = B) := hB
  rw [hB] at HLX HLY
  clear hB
  generalize cutI k a = ca at *
  generalize cutI k b = cb at *
  go_loopw [11, 33] (fun v c wr => ∃ j : Nat, j ≤ N ∧ c = .int .i64 j ∧ wr.ownsRow B 4 1 v j ((zipTo bne (bitsTo a N) (bitsTo b N) j).map Value.bool) ∧ Below B w' wr)
    (fun _ c _ => N - (intOf c).toNat)
  case atStart => exact ⟨0, Nat.zero_le _, rfl, World.ownsRow_nil _ _ _ _, Below.refl _ _⟩
  case round =>
    obtain ⟨j, hj, rfl, hown, hnx⟩ := hrel
    have hsz : B ≤ wr.heap.size := by have := hnx.size; have := HB.out; omega
    by_cases hlt : j < N
    · have hx0 := HCX.out j hlt
      have hy0 := HCY.out j hlt
      have hxj : wr.cell? ⟨bx, ox + j, none⟩ = some (.bool ((bitsTo a N)[j]?.getD false)) := (hnx.cell (p := ⟨bx, ox + j, none⟩) (by rw [← HB.out]; exact cell_lt hx0)).trans hx0
      have hyj : wr.cell? ⟨by', oy + j, none⟩ = some (.bool ((bitsTo b N)[j]?.getD false)) := (hnx.cell (p := ⟨by', oy + j, none⟩) (by rw [← HB.out]; exact cell_lt hy0)).trans hy0
      clear hx0 hy0
      have hj1 : (j : Int) < (N : Int) := by omega
      generalize hx : (bitsTo a N)[j]?.getD false = x at *
      generalize hy : (bitsTo b N)[j]?.getD false = y at *
      have HXj : Hid ((bitsTo a N)[j]?.getD false = x) := hx
      have HYj : Hid ((bitsTo b N)[j]?.getD false = y) := hy
      clear hx hy
      have hj0 : (0 : Int) ≤ (j : Int) := Int.natCast_nonneg _
      have lx := cell_lt hxj
      have ly := cell_lt hyj
      have nx : some bx ≠ u11.ownBlock := fun e => by have := (hown.lt bx e.symm).1; have := HLX.out; omega
      have ny : some by' ≠ u11.ownBlock := fun e => by have := (hown.lt by' e.symm).1; have := HLY.out; omega
      go_wp2_with fail
      go_region_held3 (fun w' => w'.cell? ⟨bx, ox + j, none⟩ = some (.bool x) ∧ w'.cell? ⟨by', oy + j, none⟩ = some (.bool y))
        (first
          | go_keep
          | (go_split_ands
             refine ⟨?_, ?_⟩
             · (rw [hgrow.cell_far _ (by simp; omega) nx]; assumption)
             · (rw [hgrow.cell_far _ (by simp; omega) ny]; assumption)))
        ((refine step_append_lies _ (by rfl) _ _ _ (by rfl) B 4 i0 _ 1 1 Try.underlying22 hi hz0 hz1 hz2 rfl (by omega) u11 j _ (by rfl) ((hown.alloc _).drew)
            ⟨wr.heap.size, 0, none⟩ 1 1 [.bool (x != y)] (by rfl) (by rfl) (World.news_of_block (cs := #[.bool (x != y)]) (t := 4) (fr := (0, 0)) (heap_alloc_new wr _)) (by simp [Value.oneCell'])
            (by omega) (by unfold maxLen; omega) (by omega) (by simp; omega) (wr.heap.size + 1) (by simp) ?_; intro gg cap w1 hown1 hgrow hat hlt'))
      have hgrow' : (wr.alloc (Obj.cells #[Value.bool (x != y)] 4)).grownBy w1 u11.ownBlock := ⟨hgrow.os, hgrow.tape, hgrow.output, hgrow.size, hgrow.block⟩
      have R := zip_step hsz hown hnx HXj.out HYj.out rfl hown1 hgrow'
      clear hown1 hgrow hgrow' hown hnx nx ny hat
      go_wp2
      go_roundw
      case rel => exact ⟨j + 1, by omega, by go_num, R.1, R.2⟩
      case measure => simp [intOf]; omega
    · have HK : Hid (j = N) := (by omega : j = N)
      rw [HK.out] at hown
      have hI := isBits_owns hown
      obtain ⟨bo, oo, co, rfl, hco⟩ := isBits_some hI (zipTo_len bne _ _ N) hN0
      have HI : Hid (IsBits wr (.slice (some ⟨bo, oo, none⟩) N co) (zipTo bne (bitsTo a N) (bitsTo b N) N)) := hI
      have HBF : Hid (Below w.heap.size w wr) := HB3.out.trans (hnx.mono (by rw [← HB.out]; exact HB3.out.size))
      clear hown hI hco hnx
      have hN0' : (0 : Int) < (N : Int) := by omega
      go_wp2_with fail
      refine (rof_at _ N _ _ (zipTo_len bne _ _ N) (by omega) HI.out).mono ?_; rintro e w' ⟨rfl, rfl⟩
      go_wp2_with fail
      go_ret
      exact ⟨rfl, HBF.out⟩
end Go.Proofs.Ytmoakccnjahfeaa
