/-
  CONTRACT of byte: a number of at most 255.
-/
import Derived.Laws.IdiomStrings
import Derived.Test.YtgncgbngjdcpgaaGreatDoorName
import Derived.Test.YtgncgbngjdcpgaaGreatDoorShelf
namespace Go.Proofs.YtgncgbngjdcpgaaGreatDoor
open Go.RowKit

theorem valOf_snoc (l : List UInt8) (c : UInt8) : valOf (l ++ [c]) = valOf l * 10 + (c.toNat - 48) := by simp [valOf]
theorem valOf_trim : ∀ l : List UInt8, valOf (Lib.trimLeftB l 48) = valOf l := by
  have h : ∀ (l : List UInt8), l.foldl (fun n c => n * 10 + (c.toNat - 48)) 0 = (l.dropWhile (· == 48)).foldl (fun n c => n * 10 + (c.toNat - 48)) 0 := by
    intro l
    induction l with
    | nil => rfl
    | cons a t ih =>
      by_cases ha : a = 48
      · subst ha; simpa using ih
      · have hb : (a == 48) = false := by simp [ha]
        simp [List.dropWhile, hb]
  intro l
  exact (h l).symm
theorem fold_ge (l : List UInt8) : ∀ n, n ≤ l.foldl (fun n c => n * 10 + (c.toNat - 48)) n := by
  induction l with
  | nil => intro n; simp
  | cons a t ih =>
    intro n
    simp only [List.foldl_cons]
    exact Nat.le_trans (by omega) (ih _)
theorem valOf_take_le (l : List UInt8) (j : Nat) : valOf (l.take j) ≤ valOf l := by
  conv => rhs; rw [← List.take_append_drop j l]
  unfold valOf
  rw [List.foldl_append]
  exact fold_ge _ _
theorem take_snoc (l : List UInt8) (j : Nat) (h : j < l.length) : l.take (j + 1) = l.take j ++ [l[j]] := by rw [List.take_add_one]; simp [h]

theorem conv_bytes (l : List UInt8) : ∃ (conv : World → World) (capf : World → Nat), (∀ w, (convert 9 62 (.string ⟨l.toArray⟩)).run Tryz.prog w = .ok (.slice (some ⟨w.heap.size, 0, none⟩) l.length (capf w)) (conv w)) ∧
    (∀ w, Below w.heap.size w (conv w)) ∧ ∀ w j (h : j < l.length), (conv w).cell? ⟨w.heap.size, j, none⟩ = some (.int .u8 (l[j].toNat)) := by
  refine ⟨_, _, fun w => run_bytes_of_string (P := Tryz.prog) w 9 62 5 ⟨l.toArray⟩ Tryz.underlying9 Tryz.underlying62 Tryz.underlying5, fun w => ?_, fun w j h => ?_⟩
  · exact (Below.refl _ _).drew.alloc (Nat.le_refl _) _
  · refine (blk_cell (blk_new w.drew _) j).trans ?_
    rw [bytesRow_at _ _ j (by simpa using h)]
    simp

theorem trim_mem {l : List UInt8} {c : UInt8} (h : c ∈ Lib.trimLeftB l 48) : c ∈ l := (List.dropWhile_sublist _).subset h

set_option maxRecDepth 100000 in
set_option maxHeartbeats 3200000 in
theorem byte_at {w : World} {R T cap : Nat} {ts : List Tok} {k : Nat} (h : Rd w R T cap ts k) :
    Calls Tryz.prog 154 #[.pointer (some ⟨R, 0, none⟩)] w (Rds w R T cap ts (fun _ v (n : Nat) => v = .int .i64 n) (byteP ts k)) := by
  have q0 := fld0
  have q1 := fld1
  have HR := hide h
  have HDG := hide (h.fit.digits k h.lt)
  have HNX := hide (h.fit.next k h.lt)
  have hl8 := h.fit.len
  have hlk := h.lt
  have hk8 : k < 801 := by omega
  clear h hl8 hlk
  by_cases hn : (tk ts k).kind = 2
  · have HN := hide hn
    have hL : ((tk ts k).kind : Int) = 2 := by omega
    have HDG := hide (HDG.out hn)
    have HNX := hide (HNX.out (by omega))
    have hll : (Lib.trimLeftB (tk ts k).text.data.toList 48).length ≤ 1000000 := Nat.le_trans (List.dropWhile_sublist _).length_le (by have := HR.out.fit.small k HR.out.lt; simpa using this)
    have HV := hide (valOf_trim (tk ts k).text.data.toList)
    have HM : Hid (∀ c ∈ Lib.trimLeftB (tk ts k).text.data.toList 48, 48 ≤ c.toNat ∧ c.toNat ≤ 57) := fun c hc => HDG.out c (trim_mem hc)
    have HTR := hide (Tryz.strings_TrimLeft_one (tk ts k).text 48 (by decide))
    have HTX : Hid (tx ts k = (tk ts k).text.data.toList) := ByteArray.toList_eq ..
    generalize Lib.trimLeftB (tk ts k).text.data.toList 48 = l at *
    obtain ⟨conv, capf, hcv, hcb, hcc⟩ := conv_bytes l
    have HCB := hide hcb
    have HCC := hide hcc
    clear hcb hcc
    clear hn
    go_enter Tryz.func154, Tryz.ntmps154
    go_wp2_with fail
    refine (now_at HR.out).mono ?_
    rintro e w1 ⟨rfl, hb1⟩
    rw [hL]
    have HB1 := hide hb1
    clear hb1
    go_wp2_with fail
    refine (now_at (HR.out.below HB1.out)).mono ?_
    rintro e w2 ⟨rfl, hb2⟩
    have HB2 := hide (Below.step HB1.out hb2)
    clear hb2
    go_wp2_with fail
    refine (HTR.out w2).mono ?_
    rintro e w3 ⟨rfl, rfl⟩
    go_wp2_with fail
    have HB3 := hide (Below.step HB2.out (HCB.out w3))
    have r1 : (conv w3).cell? ⟨R, 1, none⟩ = some (.int .i64 k) := by rw [blk_cell (HR.out.below HB3.out).me]; rfl
    have r2 : (conv w3).frozen? ⟨R, 1, none⟩ = false := blk_frozen (HR.out.below HB3.out).me 1
    go_loop [3, 5, 19] (fun n _ i => ∃ j : Nat, j ≤ l.length ∧ i = .int .i64 j ∧ ∃ v : Nat, n = .int .i64 v ∧ v ≤ 255 ∧ Hid (valOf (l.take j) = v)) (fun _ _ i => l.length - (intOf i).toNat)
    case atStart => exact ⟨0, Nat.zero_le _, rfl, 0, rfl, by decide, (rfl : valOf (l.take 0) = 0)⟩
    case round =>
      obtain ⟨j, hj, rfl, v, rfl, hv, hvv⟩ := hrel
      by_cases hlt : j < l.length
      · have hcj := HCC.out w3 j hlt
        have hm := HM.out l[j] (List.getElem_mem hlt)
        have HTK := hide (take_snoc l j hlt)
        have hj1 : (j : Int) < (l.length : Int) := by omega
        have HCJ : Hid (l[j].toNat = l[j].toNat) := rfl
        generalize hcn : l[j].toNat = cn at *
        have HCN : Hid (l[j].toNat = cn) := hcn
        have hm1 : (48 : Int) ≤ (cn : Int) := by omega
        have hm2 : (cn : Int) ≤ 57 := by omega
        clear hcn hm
        by_cases hbig : v * 10 + (cn - 48) ≤ 255
        · have hb1 : (v : Int) * 10 + ((cn : Int) - 48) ≤ 255 := by omega
          go_wp2_with fail
          refine ⟨⟨j + 1, by omega, by go_num, v * 10 + (cn - 48), by congr 1; omega, hbig, (by rw [HTK.out, valOf_snoc, hvv.out, HCN.out] : valOf (l.take (j + 1)) = _)⟩, by simp [intOf]; omega⟩
        · have hb1 : 255 < (v : Int) * 10 + ((cn : Int) - 48) := by omega
          have HBG : Hid (¬ valOf (tx ts k) ≤ 255) := by
            show ¬ valOf (tx ts k) ≤ 255
            rw [HTX.out, ← HV.out]
            intro hle
            have := valOf_take_le l (j + 1)
            rw [HTK.out, valOf_snoc, hvv.out, HCN.out] at this
            omega
          go_wp2_with fail
          refine (wrong_at 4 (HR.out.below HB3.out)).mono ?_
          rintro e w4 ⟨A, rfl, hA, hb4⟩
          have HA := hide hA
          have HB4 := hide (Below.step HB3.out hb4)
          clear hA hb4
          go_wp2_with fail
          exact ⟨rfl, Rds.bad (by unfold byteP; rw [if_pos HN.out, if_neg HBG.out]) (Kept.of HB4.out) HA.out⟩
      · have HJ : Hid (j = l.length) := (by omega : j = l.length)
        have HVE : Hid (valOf (tx ts k) = v) := by
          show valOf (tx ts k) = v
          rw [HTX.out, ← HV.out, ← hvv.out, HJ.out, List.take_length]
        go_wp2_with fail
        go_ret
        refine Rds.ok (a := v) (k' := k + 1) ?_ ((Kept.of HB3.out).step 1 _) ((HR.out.below HB3.out).step HNX.out) rfl
        unfold byteP; rw [if_pos HN.out, HVE.out, if_pos hv]
  · have HN := hide hn
    have hL : (((tk ts k).kind : Int) != 2) = true := by simp; omega
    clear hn
    go_enter Tryz.func154, Tryz.ntmps154
    go_wp2_with fail
    refine (now_at HR.out).mono ?_
    rintro e w1 ⟨rfl, hb1⟩
    have HB1 := hide hb1
    clear hb1
    go_wp2_with fail
    refine (wrong_at 3 (HR.out.below HB1.out)).mono ?_
    rintro e w2 ⟨A, rfl, hA, hb2⟩
    have HA := hide hA
    have HB2 := hide (Below.step HB1.out hb2)
    clear hA hb2
    go_wp2_with fail
    exact ⟨rfl, Rds.bad (by unfold byteP; rw [if_neg HN.out]) (Kept.of HB2.out) HA.out⟩
end Go.Proofs.YtgncgbngjdcpgaaGreatDoor
