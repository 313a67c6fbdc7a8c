/-
  CONTRACT of Clean.
-/
import Derived.Test.YtlnmemeejgnbeaaClZ
import Derived.Test.YtlnmemeejgnbeaaGRight
set_option linter.unusedSimpArgs false
set_option linter.unusedVariables false
namespace Go.Proofs.Ytlnmemeejgnbeaa
open Go.RowKit

set_option maxRecDepth 100000 in
set_option maxHeartbeats 1600000 in
theorem clean_no {s : NetP} {S : Nat → Prop} {w : World} {given : Int} {ns : List Nd} {os : List Int} (h : NetAt s S w given ns os) (hn : ns.length ≤ 20000) (ho : os.length ≤ 20000) (hr : rightP given ns os = false) :
    Calls Try.prog 7 #[.pointer (some ⟨s.p, 0, none⟩)] w fun e w' => e = .returned (.tuple #[.pointer none, .iface 49 (.int .i64 1)]) ∧ Below w.heap.size w w' := by
  have HC := Right_at h hn ho
  rw [hr] at HC
  have HC := hide HC
  clear h hr
  go_enter Try.func7, Try.ntmps7
  go_wp2_with fail
  refine HC.out.mono ?_
  rintro e w1 ⟨rfl, hb⟩
  have HB := hide hb
  clear hb
  go_wp2_with fail
  go_ret2
  exact ⟨rfl, HB.out⟩

set_option maxRecDepth 100000 in
set_option maxHeartbeats 3200000 in
theorem clean_at {s : NetP} {S : Nat → Prop} {w : World} {given : Int} {ns : List Nd} {os : List Int} (h : NetAt s S w given ns os) (hr : RightP given ns os) :
    Calls Try.prog 7 #[.pointer (some ⟨s.p, 0, none⟩)] w fun e w' => (∃ sp : NetP, e = .returned (.tuple #[.pointer (some ⟨sp.p, 0, none⟩), .nilIface]) ∧ NetAt sp (FromB w.heap.size) w' given (cleanNs ns os) (cleanOs ns os)) ∧ Below w.heap.size w w' := by
  have HC := Right_at h hr.n1 hr.o1
  rw [rightP_iff.2 hr] at HC
  have HC := hide HC
  have H := hide h
  have HR := hide hr
  clear h hr
  go_enter Try.func7, Try.ntmps7
  go_wp2_with fail
  refine HC.out.mono ?_
  rintro e w1 ⟨rfl, hb⟩
  have HB1 := hide hb
  clear hb HC
  go_wp2_with fail
  refine (newMaker_at w1).mono ?_
  rintro e w2 ⟨⟨v, rfl, hf⟩, hb⟩
  obtain ⟨P, M, na, nc, rfl, hm⟩ := hf
  have HM := hide hm
  have HB2 := hide (Below.step HB1.out hb)
  have HB12 := hide hb
  have HN2 : Hid (NetB s w1.heap.size w2 given ns os) := hide (by
    have h1 := H.out.below HB1.out
    refine ⟨⟨Below.blk hb h1.me, ?_, ?_⟩, h1.lt⟩
    · exact (h1.nodes.imp (T := fun b => b < w1.heap.size) fun b hb _ => hb).below hb
    · exact (h1.outs.imp (T := fun b => b < w1.heap.size) fun b hb _ => hb).below hb)
  clear hm hb
  go_wp2_with fail
  refine (all_at w2 HN2.out HR.out HM.out HB12.out.size (known_ok HR.out)).mono ?_
  rintro e w3 ⟨⟨SB, na3, nc3, rfl, hsb, hm3, hst⟩, hb⟩
  have hD := mkAll_done HR.out
  have HD := hide hD
  have HM3 := hide hm3
  have HST := hide hst
  have HN3 := hide (HN2.out.keep hb)
  have HB3 : Hid (Below w.heap.size w w3) := hide (by
    have h1 := HB1.out.size
    have h2 := HB2.out
    exact ⟨hb.os.trans h2.os, hb.tape.trans h2.tape, hb.output.trans h2.output, Nat.le_trans h2.size hb.size, fun k hk => (hb.block k (by omega)).trans (h2.block k hk)⟩)
  have HSL : Hid ((mkAll ns).st.length = ns.length) := hide hD.2.1
  clear hm3 hst hsb hb hD
  have HLY := hide (lay_at w3 HN3.out.net HM3.out.row HST.out HD.out.1 (by rw [HSL.out]; exact outs_in HR.out) HR.out.o1 (cln_of HR.out).opis)
  rw [HSL.out] at HLY
  go_wp2_with fail
  refine HLY.out.mono ?_
  rintro e w4 ⟨⟨NP, OB, na4, nc4, rfl, hl⟩, hb⟩
  have HL := hide hl
  have HB4 := hide (HB3.out.trans (hb.mono HB3.out.size))
  clear hl hb
  go_wp2_with fail
  go_ret2
  have h5 := HB3.out.size
  refine ⟨⟨⟨NP, na4, nc4, some ⟨OB, 0, none⟩, (newOs (mkAll ns) os).length⟩, rfl, ⟨HL.out.me, ?_, ?_⟩⟩, HB4.out⟩
  · exact HL.out.own.lies fun b hb => Nat.le_trans h5 (HL.out.own.new b hb)
  · exact Lies.blk HL.out.outs (Nat.le_trans h5 HL.out.hi.2)
end Go.Proofs.Ytlnmemeejgnbeaa
