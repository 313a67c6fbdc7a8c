/-
  CONTRACTS of value.Bits and value.Of: the bits of any number of any type, in new memory; the number of any list of bits.
-/
import Derived.Test.YtmoakccnjahfeaaTwo
namespace Go.Proofs.Ytmoakccnjahfeaa
open Go.RowKit
theorem Try.info4 : (Try.prog.info? 4).map (fun i => (i.zero, i.size, i.bytes)) = some (some (.bool false), 1, 1) := by kernel_rfl
def bitOf (n : Int) (k : Nat) : Bool := n / 2 ^ k % 2 == 1
def bitsTo (n : Int) (k : Nat) : List Bool := (List.range k).map (bitOf n)
theorem bitsTo_len (n : Int) (k : Nat) : (bitsTo n k).length = k := by simp [bitsTo]
theorem bitsTo_succ (n : Int) (k : Nat) : bitsTo n (k + 1) = bitsTo n k ++ [bitOf n k] := by simp [bitsTo, List.range_succ]
theorem wid_le (k : Int) : wid k ≤ 8 := by unfold wid; split; omega; split <;> omega
theorem bit_word (n : Int) (j : Nat) : (bits .and .i64 (n / 2 ^ j) 1 == 1) = bitOf n j := by rw [i64_mask1]; rfl

theorem bits_step {B j : Nat} {n : Int} {w wr w1 : World} {v v' : Value} {o : Obj} (hB : B ≤ wr.heap.size) (hown : wr.ownsRow B 4 1 v j ((bitsTo n j).map Value.bool)) (hnx : Below B w wr)
    (hown' : w1.ownsRow B 4 1 v' (j + 1) ((bitsTo n j).map Value.bool ++ [.bool (bits .and .i64 (n / 2 ^ j) 1 == 1)])) (hgrow : (wr.alloc o).grownBy w1 v.ownBlock) :
    w1.ownsRow B 4 1 v' (j + 1) ((bitsTo n (j + 1)).map Value.bool) ∧ Below B w w1 := by
  refine ⟨?_, (hnx.alloc (by omega) o).grown hgrow (by simp; omega) (fun j hj => by have := (hown.lt j hj).1; omega)⟩
  rw [bitsTo_succ, ← bit_word]; simpa using hown'

set_option maxHeartbeats 1600000 in
set_option maxRecDepth 1000000 in
theorem bits_any (k n : Int) (w : World) :
    Calls Try.prog 11 #[.int .i64 k, .int .i64 n] w fun e w' => ∃ v, e = .returned v ∧ w'.ownsRow w.heap.size 4 1 v (wid k) ((bitsTo n (wid k)).map Value.bool) ∧ Below w.heap.size w w' := by
  obtain ⟨i0, hi, hz0, hz1, hz2⟩ := info_parts Try.info4
  have hw8 := wid_le k
  generalize hB : w.heap.size = B
  have HB : Hid (w.heap.size = B) := hB; clear hB
  go_enter Try.func11, Try.ntmps11
  go_wp2_with (first | (go_at_call 6; refine (width_any _ _).mono ?_; rintro e w' ⟨rfl, rfl⟩))
  go_loopw [5, 9] (fun v i wr => ∃ j : Nat, j ≤ wid k ∧ i = .int .i64 j ∧ wr.ownsRow B 4 1 v j ((bitsTo n j).map Value.bool) ∧ Below B w' wr)
    (fun _ i _ => wid k - (intOf i).toNat)
  case atStart => exact ⟨0, Nat.zero_le _, rfl, World.ownsRow_nil _ _ _ _, Below.refl _ _⟩
  case round =>
    obtain ⟨j, hj, rfl, hown, hnx⟩ := hrel
    have hsz : B ≤ wr.heap.size := by have := hnx.size; have := HB.out; omega
    by_cases hlt : j < wid k
    · go_wp2_with (first
        | (at_builtin; refine wpList_append_own _ rfl _ _ 22 rfl B 4 i0 (.bool false) 1 1 Try.underlying22 hi hz0 hz1 hz2 rfl (by decide) _ _ _ rfl (hown.alloc _) ⟨wr.heap.size, 0, none⟩ 1 1 [.bool (bits .and .i64 (n / 2 ^ j) 1 == 1)] rfl rfl ?c1 ?c2 ?c3 ?c4 ?c5 ?_))
      case c1 => exact cell_one_new _ _ _
      case c2 => intro u hu; simp at hu; subst hu; rfl
      case c3 => unfold maxLen; omega
      case c4 => omega
      case c5 => simp; omega
      · intro v' w1 hown' hgrow _
        have R := bits_step hsz hown hnx hown' hgrow
        clear hown' hgrow hown hnx
        go_wp2
        go_roundw
        case rel => exact ⟨j + 1, by omega, by go_num, R.1, R.2⟩
        case measure => simp [intOf]; omega
    · have hkl : j = wid k := by omega
      have HK : Hid (j = wid k) := hkl
      clear hkl
      go_wp2
      go_ret
      rw [← HK.out]
      exact ⟨_, rfl, hown, hnx⟩
end Go.Proofs.Ytmoakccnjahfeaa
