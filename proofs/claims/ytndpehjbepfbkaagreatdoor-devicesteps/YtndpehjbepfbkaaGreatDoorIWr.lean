/-
  CONTRACT of Write.
-/
import Derived.Test.YtndpehjbepfbkaaGreatDoorINum
import Derived.Test.YtndpehjbepfbkaaGreatDoorLRt
set_option linter.unusedSimpArgs false
set_option linter.unusedVariables false
namespace Go.Proofs.YtndpehjbepfbkaaGreatDoor
open Go.RowKit

def wroteS (given : Int) (rs : List Rg) (ls : List Lt) (os : List Int) : ByteArray := ⟨(netB given rs ls os).toArray⟩

set_option maxRecDepth 100000 in
set_option maxHeartbeats 6400000 in
theorem Write_no {s : NetQ} {S : Nat → Prop} {w : World} {given : Int} {rs : List Rg} {ls : List Lt} {os : List Int} (h : NetT s S w given rs ls os) (h1 : rs.length ≤ 20000) (h2 : ls.length ≤ 20000) (h3 : os.length ≤ 20000) (hr : rightT given rs ls os = false) :
    Calls Tryz.prog 40 #[.pointer (some ⟨s.p, 0, none⟩)] w fun e w' => e = .returned (.tuple #[.string ⟨#[]⟩, .iface 25 (.int .i64 1)]) ∧ Below w.heap.size w w' := by
  have HC := LRight_at h h1 h2 h3
  rw [hr] at HC
  have HC := hide HC
  clear h hr
  go_enter Tryz.func40, Tryz.ntmps40
  go_wp2_with fail
  refine HC.out.mono ?_
  rintro e w1 ⟨rfl, hb⟩
  have HB := hide hb
  clear hb HC
  go_wp2_with fail
  go_ret2
  exact ⟨rfl, HB.out⟩

set_option maxRecDepth 100000 in
set_option maxHeartbeats 6400000 in
theorem Write_at {s : NetQ} {S : Nat → Prop} {w : World} {gn : Nat} {rs : List Rg} {ls : List Lt} {os : List Int} (h : NetT s S w gn rs ls os) (hr : RightT gn rs ls os) :
    Calls Tryz.prog 40 #[.pointer (some ⟨s.p, 0, none⟩)] w fun e w' => e = .returned (.tuple #[.string (wroteS gn rs ls os), .nilIface]) ∧ Below w.heap.size w w' := by
  have HC := LRight_at h hr.r1 hr.l1 hr.o1
  rw [rightT_iff.2 hr] at HC
  have HC := hide HC
  have H := hide h
  have HR := hide hr
  have HBIG := hide (netN_big hr)
  have HLEN := hide (netN_len gn rs ls os)
  have hlb : (netN gn rs ls os).length ≤ 200000 := by
    have e1 := hr.r1
    have e2 := hr.l1
    have e3 := hr.o1
    have e4 := insSum_le ls fun l hl => (hr.lut hl).1
    rw [HLEN.out]; omega
  have HL4 : Hid (4 ≤ (netN gn rs ls os).length) := hide (by rw [HLEN.out]; omega)
  have HWS : Hid (wroteS gn rs ls os = ⟨(codes (netN gn rs ls os)).toArray⟩) := hide rfl
  clear h hr HLEN
  go_enter Tryz.func40, Tryz.ntmps40
  go_wp2_with fail
  refine HC.out.mono ?_
  rintro e w1 ⟨rfl, hb⟩
  have HB := hide hb
  have HNU := hide (numbers_at (H.out.below hb) HR.out)
  clear hb HC
  go_wp2_with fail
  refine HNU.out.mono ?_
  rintro e w2 ⟨na, nc, rfl, hrow⟩
  have HN := hide hrow.row.lies
  have HB2 := hide (Below.step HB.out hrow.row.below)
  clear hrow HNU H HR
  generalize netN gn rs ls os = L at *
  go_wp2_with fail
  go_loopw [4, 14] (fun v i wr => ∃ (q k : Nat) (va : Option Addr) (vc : Nat), q ≤ L.length ∧ i = .int .i64 q ∧ v = .slice va k vc ∧ k ≤ 4 * q ∧ Hid (RowB w2 wr va vc k (codes (L.take q)))) (fun _ i _ => L.length - (intOf i).toNat)
  case atStart => exact ⟨0, 0, .none, 0, Nat.zero_le _, rfl, rfl, Nat.zero_le _, hide (RowB.none w2)⟩
  case round =>
    obtain ⟨q, k, va, vc, hq, rfl, rfl, hk, hrow⟩ := hrel
    by_cases hlt : q < L.length
    · have hqi : (q : Int) < (L.length : Int) := by omega
      obtain ⟨b, off, hna, _, hbl, m0⟩ := (HN.out.below hrow.out.row.below).ints hlt
      have HA := hide hna
      rw [HA.out]
      have hmem := HBIG.out L[q] (List.getElem_mem hlt)
      have HTK : Hid (codes (L.take (q + 1)) = codes (L.take q) ++ codeP (outAt L q)) := hide (by rw [← take_one hlt, codes_app, outAt_mem]; simp [codes])
      rw [outAt_mem] at hmem
      have hc4 := codeP_len2 (outAt L q)
      have HW := hide (written_at w2 wr va vc k _ (outAt L q) _ hrow.out hmem.1 hmem.2 (by omega) rfl)
      clear hna hmem
      generalize outAt L q = x at *
      go_wp2_with fail
      refine HW.out.mono ?_
      rintro e w4 ⟨va2, vc2, rfl, hr2⟩
      have HR2 := hide hr2
      clear hr2 m0 hbl HW
      go_wp2_with fail
      exact ⟨⟨q + 1, k + (codeP x).length, va2, vc2, by omega, by go_num, rfl, by omega, hide (by rw [HTK.out]; exact HR2.out)⟩, by simp [intOf]; omega⟩
    · have HRW : Hid (RowB w2 wr va vc k (codes L)) := hide (by
        have e : q = L.length := by omega
        have := hrow.out
        rwa [e, List.take_length] at this)
      have hk0 : 0 < k := by
        have h1 := HRW.out.len
        have h2 := codes_len1 L
        have h3 := HL4.out
        omega
      have hcv := HRW.out.text hk0
      rw [← HWS.out] at hcv
      clear hrow HN
      go_wp2_with fail
      go_ret2
      exact ⟨rfl, Below.step HB2.out HRW.out.row.below⟩
end Go.Proofs.YtndpehjbepfbkaaGreatDoor
