/-
  CONTRACT of the law's sameInts.
-/
import Derived.Test.YtndpehjbepfbkaaGreatDoorLMem
import Derived.Sort.Grow
import Derived.Lib.QuietBelow
set_option linter.unusedSimpArgs false
set_option linter.unusedVariables false
namespace Go.Proofs.YtndpehjbepfbkaaGreatDoor
open Go.RowKit

set_option maxRecDepth 100000 in
set_option maxHeartbeats 6400000 in
theorem sameI_at {S T : Nat → Prop} (l : List Int) (ao bo : Option Addr) (ac bc : Nat) (w : World) (hl : Lies S w ao (intsC l)) (hm : Lies T w bo (intsC l)) (hn : (l.length : Int) ≤ 100000) :
    Calls Tryz.prog 7 #[.slice ao l.length ac, .slice bo l.length bc] w fun e w' => e = .returned (.bool true) ∧ Below w.heap.size w w' := by
  have HL := hide hl
  have HM := hide hm
  clear hl hm
  go_enter Tryz.func7, Tryz.ntmps7
  go_wp2_with fail
  go_loopw [5] (fun i wr => ∃ k : Nat, k ≤ l.length ∧ i = .int .i64 k ∧ Hid (Below w.heap.size w wr)) (fun i _ => l.length - (intOf i).toNat)
  case atStart => exact ⟨0, Nat.zero_le _, rfl, hide (Below.refl _ _)⟩
  case round =>
    obtain ⟨k, hk, rfl, hw⟩ := hrel
    by_cases hlt : k < l.length
    · have hki : (k : Int) < (l.length : Int) := by omega
      obtain ⟨b, off, ha, _, _, q0⟩ := (HL.out.below hw.out).ints hlt
      obtain ⟨b2, off2, ha2, _, _, q2⟩ := (HM.out.below hw.out).ints hlt
      rw [ha, ha2]
      clear ha ha2
      generalize outAt l k = bv at *
      go_wp2_with fail
      go_quiet (fail)
      go_wp2_with fail
      exact ⟨⟨k + 1, by omega, by go_num, hide (Below.drewNs hw.out _)⟩, by simp [intOf]; omega⟩
    · go_wp2_with fail
      go_ret
      exact ⟨rfl, hw.out⟩

end Go.Proofs.YtndpehjbepfbkaaGreatDoor
