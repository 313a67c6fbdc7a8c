/-
  CONTRACT of the reference's number.
-/
import Derived.Test.YtndpehjbepfbkaaGreatDoorIRow
set_option linter.unusedSimpArgs false
set_option linter.unusedVariables false
namespace Go.Proofs.YtndpehjbepfbkaaGreatDoor
open Go.RowKit

def bs (l : List UInt8) : ByteArray := ⟨l.toArray⟩
theorem bs_app (a b : List UInt8) : bs a ++ bs b = bs (a ++ b) := by
  apply ByteArray.ext
  rw [ByteArray.data_append]
  simp [bs]
theorem bs_nil : bs [] = ⟨#[]⟩ := rfl
theorem bs_inj {a b : List UInt8} (h : bs a = bs b) : a = b := by
  have := congrArg (fun x : ByteArray => x.data.toList) h
  simpa [bs] using this
theorem bs_size (l : List UInt8) : (bs l).size = l.length := by simp [bs, ByteArray.size]
/-- a byte in a new block as a text -/
theorem one_text (w : World) (b : UInt8) (v : Int) (hv : v = (b.toNat : Int)) : (convert 78 9 (.slice (some ⟨w.heap.size, 0, none⟩) 1 1)).run Tryz.prog (w.alloc (.cells #[.int .u8 v] 5)) = .ok (.string (bs [b])) (w.alloc (.cells #[.int .u8 v] 5)) := by
  subst hv
  have hB : Lib.Bytes (w.alloc (.cells #[.int .u8 (b.toNat : Int)] 5)) w.heap.size 0 (bs [b]) := fun i hi => by
    have hi2 : i < 1 := hi
    obtain rfl : i = 0 := by omega
    rw [Nat.zero_add, blk_cell (blk_new w (.cells #[.int .u8 (b.toNat : Int)] 5))]
    rfl
  exact Lib.run_convert_whole (P := Tryz.prog) _ 78 5 9 (by kernel_rfl) (by kernel_rfl) (by kernel_rfl) w.heap.size 0 (bs [b]) hB 1

set_option maxRecDepth 100000 in
set_option maxHeartbeats 3200000 in
theorem rnumber_at (n : Int) (w : World) (h0 : 0 ≤ n) (h1 : n < 268435456) :
    Calls Tryz.prog 59 #[.int .i64 n] w fun e w' => e = .returned (.string (bs (codeP n))) ∧ Below w.heap.size w w' := by
  obtain ⟨n, rfl⟩ := Int.eq_ofNat_of_zero_le h0
  have HC : Hid (codeP (n : Int) = codeF 3 n) := hide (by simp [codeP])
  rw [HC.out]
  have H1 : Hid (n < capF 3) := hide (capF_three (by omega))
  have HE0 : Hid (bs [] ++ bs (codeF 3 n) = bs (codeF 3 n)) := hide (by rw [bs_app]; rfl)
  have hnil : (⟨#[]⟩ : ByteArray) = bs [] := rfl
  clear h0 h1 HC
  go_enter Tryz.func59, Tryz.ntmps59
  go_wp2_with fail
  rw [hnil]
  generalize hz : bs [] = z0 at *
  clear hnil hz
  go_loopw [0, 3] (fun i v wr => ∃ (f m : Nat) (S : ByteArray), i = .int .i64 m ∧ v = .string S ∧ f ≤ 3 ∧ Hid (Below w.heap.size w wr) ∧ Hid (S ++ bs (codeF f m) = bs (codeF 3 n)) ∧ Hid (m < capF f)) (fun i _ _ => (intOf i).toNat)
  case atStart => exact ⟨3, n, z0, rfl, rfl, by omega, hide (Below.refl _ _), HE0, H1⟩
  case round =>
    obtain ⟨f, m, S, rfl, rfl, hf, hb, heq, hm⟩ := hrel
    have hbig := capF_big hm.out hf
    by_cases h128 : (128 : Int) ≤ (m : Int)
    · obtain ⟨f, rfl⟩ : ∃ f', f = f' + 1 := by
        rcases f with _ | f
        · have := capF_zero hm.out
          omega
        · exact ⟨f, rfl⟩
      have hmod : m % 128 + 128 < 256 := by omega
      have hcv := one_text wr (UInt8.ofNat (m % 128 + 128)) ((m : Int) % 128 + 128) (by rw [byte_of _ hmod]; omega)
      have HM : Hid (m / 128 < capF f) := hide (capF_div hm.out)
      have HEQ : Hid ((S ++ bs [UInt8.ofNat (m % 128 + 128)]) ++ bs (codeF f (m / 128)) = bs (codeF 3 n)) := hide (by
        rw [← heq.out, ByteArray.append_assoc, bs_app]
        rw [show codeF (f + 1) m = UInt8.ofNat (m % 128 + 128) :: codeF f (m / 128) by rw [codeF, if_neg (by omega)]]; rfl)
      have HB := hide (Below.step hb.out (below_alloc wr (.cells #[.int .u8 ((m : Int) % 128 + 128)] 5)))
      have hS4 : S.size ≤ 4 := by
        have := congrArg ByteArray.size heq.out
        rw [ByteArray.size_append, bs_size, bs_size] at this
        have := codeF_len2 3 n
        omega
      have hT1 : (bs [UInt8.ofNat (m % 128 + 128)]).size = 1 := rfl
      have HF : Hid (f ≤ 3) := hide (by omega)
      clear heq hb hm hmod hf
      generalize bs [UInt8.ofNat (m % 128 + 128)] = T at *
      go_wp2_with fail
      exact ⟨⟨f, m / 128, S ++ T, rfl, rfl, HF.out, HB, HEQ, HM⟩, by simp [intOf]; omega⟩
    · have hml : m < 256 := by omega
      have hcv := one_text wr (UInt8.ofNat m) (m : Int) (by rw [byte_of _ hml])
      have HEQ : Hid (S ++ bs [UInt8.ofNat m] = bs (codeF 3 n)) := hide (by rw [← heq.out, codeF_small _ _ (by omega)])
      have hS4 : S.size ≤ 4 := by
        have := congrArg ByteArray.size heq.out
        rw [ByteArray.size_append, bs_size, bs_size] at this
        have := codeF_len2 3 n
        omega
      have hT1 : (bs [UInt8.ofNat m]).size = 1 := rfl
      have HB := hide (Below.step hb.out (below_alloc wr (.cells #[.int .u8 (m : Int)] 5)))
      clear heq hb hm hf
      generalize bs [UInt8.ofNat m] = T at *
      go_wp2_with fail
      go_ret
      rw [HEQ.out]
      exact ⟨rfl, HB.out⟩
end Go.Proofs.YtndpehjbepfbkaaGreatDoor
