/-
  CONTRACT of Parse.
-/
import Derived.Test.YtndpehjbepfbkaaGreatDoorINet
import Derived.Test.YtndpehjbepfbkaaGreatDoorIWr
set_option linter.unusedSimpArgs false
set_option linter.unusedVariables false
namespace Go.Proofs.YtndpehjbepfbkaaGreatDoor
open Go.RowKit

/-- what Parse comes to -/
def ParsedI (l : List UInt8) (B : Nat) (e : Ending) (w' : World) : Prop :=
  ∃ (given : Nat) (rs : List Rg) (ls : List Lt) (os : List Int) (l' : List UInt8), NetRd l given rs ls os l' ∧
    ((RightT given rs ls os ∧ netB given rs ls os = l ∧ ∃ q : NetQ, e = .returned (.tuple #[.pointer (some ⟨q.p, 0, none⟩), .nilIface]) ∧ NetT q (FromB B) w' given rs ls os ∧ B ≤ q.p) ∨
      ((rightT given rs ls os = false ∨ netB given rs ls os ≠ l) ∧ e = .returned (.tuple #[.pointer none, .iface 25 (.int .i64 3)])))
theorem wroteS_eq {given : Int} {rs : List Rg} {ls : List Lt} {os : List Int} {l : List UInt8} : wroteS given rs ls os = ⟨l.toArray⟩ ↔ netB given rs ls os = l := by
  unfold wroteS
  constructor
  · intro h
    have := congrArg (fun x : ByteArray => x.data.toList) h
    simpa using this
  · rintro rfl; rfl

set_option maxRecDepth 100000 in
set_option maxHeartbeats 6400000 in
theorem Parse_at (l : List UInt8) (w : World) (hl : l.length ≤ 1000000) :
    Calls Tryz.prog 17 #[.string ⟨l.toArray⟩] w fun e w' => ParsedI l w.heap.size e w' ∧ Below w.heap.size w w' := by
  have HB1 := hide (below_alloc w (.cells #[.string ⟨l.toArray⟩] 98))
  have HR1 : Hid (RdrAt w.heap.size l (w.alloc (.cells #[.string ⟨l.toArray⟩] 98))) := hide (blk_new _ _)
  have HNE := hide (net_at _ l _ HR1.out hl)
  have hqn : ∀ (v : Value) (w : World), (binOp .neq 30 (.iface 25 v) .nilIface).run Tryz.prog w = .ok (.bool true) w := fun _ _ => rfl
  clear hl
  go_enter Tryz.func17, Tryz.ntmps17
  go_wp2_with fail
  generalize w.alloc (.cells #[.string ⟨l.toArray⟩] 98) = w1 at *
  refine HNE.out.mono ?_
  rintro e w2 ⟨s, given, rs, ls, os, l', rfl, hrd, hnt, hk, hp⟩
  obtain ⟨h1, h2, h3⟩ := hrd.lens
  have HB2 : Hid (Below w.heap.size w w2) := hide ⟨hk.os.trans HB1.out.os, hk.tape.trans HB1.out.tape, hk.output.trans HB1.out.output, Nat.le_trans HB1.out.size hk.size, fun k hkl => (hk.block k (Nat.lt_of_lt_of_le hkl HB1.out.size) (by omega)).trans (HB1.out.block k hkl)⟩
  have HRD := hide hrd
  have HNT := hide hnt
  have HP : Hid (w.heap.size ≤ s.p) := hide (Nat.le_trans HB1.out.size hp)
  have HB1S := hide HB1.out.size
  clear hrd hnt hk hp HNE HR1 HB1
  cases hrt : rightT given rs ls os with
  | false =>
    have HW := hide (Write_no HNT.out h1 h2 h3 hrt)
    have HRT := hide hrt
    clear hrt
    go_wp2_with fail
    refine HW.out.mono ?_
    rintro e w3 ⟨rfl, hb⟩
    have HB3 := hide (Below.step HB2.out hb)
    clear hb HW
    go_wp2_with fail
    go_ret2
    exact ⟨⟨given, rs, ls, os, l', HRD.out, .inr ⟨.inl HRT.out, rfl⟩⟩, HB3.out⟩
  | true =>
    have hRT := rightT_iff.1 hrt
    have HRT := hide hRT
    have HW := hide (Write_at HNT.out hRT)
    have HEQ := hide (wroteS_eq (given := given) (rs := rs) (ls := ls) (os := os) (l := l))
    clear hrt hRT
    go_wp2_with fail
    refine HW.out.mono ?_
    rintro e w3 ⟨rfl, hb⟩
    have HB3 := hide (Below.step HB2.out hb)
    have HNT3 := hide (HNT.out.below hb)
    clear hb HW HNT HB2
    by_cases he : wroteS given rs ls os = ⟨l.toArray⟩
    · have HE := hide (HEQ.out.1 he)
      rw [he]
      clear he
      go_wp2_with fail
      go_ret2
      exact ⟨⟨given, rs, ls, os, l', HRD.out, .inl ⟨HRT.out, HE.out, s, rfl, HNT3.out.imp fun b _ hb => Nat.le_trans HB1S.out hb, HP.out⟩⟩, HB3.out⟩
    · have HE : Hid (netB given rs ls os ≠ l) := hide fun h => he (HEQ.out.2 h)
      have hne : ((wroteS given rs ls os).toList == l) = false := by
        rw [beq_eq_false_iff_ne, ByteArray.toList_eq]
        intro h
        exact he (ByteArray.ext (Array.toList_inj.mp (by rw [h])))
      generalize wroteS given rs ls os = TX at *
      clear he
      go_wp2_with fail
      go_ret2
      exact ⟨⟨given, rs, ls, os, l', HRD.out, .inr ⟨.inr HE.out, rfl⟩⟩, HB3.out⟩
end Go.Proofs.YtndpehjbepfbkaaGreatDoor
