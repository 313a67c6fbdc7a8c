/-
  CONTRACT of the reference's Load.
-/
import Derived.Test.YtndpehjbepfbkaaGreatDoorDRs
import Derived.Test.YtndpehjbepfbkaaGreatDoorDLd
set_option linter.unusedSimpArgs false
set_option linter.unusedVariables false
namespace Go.Proofs.YtndpehjbepfbkaaGreatDoor
open Go.RowKit

theorem dw_nil {α : Type} (p : α → Bool) : ∀ l : List α, l.dropWhile p = [] ↔ l.all p = true
  | [] => by simp
  | a :: l => by
    cases h : p a with
    | true => rw [List.dropWhile_cons_of_pos h, List.all_cons, h, Bool.true_and]; exact dw_nil p l
    | false => rw [List.dropWhile_cons_of_neg (by simp [h]), List.all_cons, h, Bool.false_and]; simp
theorem dw_all {α : Type} (p : α → Bool) : ∀ l : List α, (l.dropWhile p).all p = l.all p
  | [] => rfl
  | a :: l => by
    cases h : p a with
    | true => rw [List.dropWhile_cons_of_pos h, List.all_cons, h, Bool.true_and]; exact dw_all p l
    | false => rw [List.dropWhile_cons_of_neg (by simp [h])]
theorem trim_ok (l : List UInt8) : Lib.trimS l [48, 49] = [] ↔ l.all okB = true := by
  have hp : (([48, 49] : List UInt8).contains ·) = okB := by
    funext c
    simp only [okB, List.contains_cons, List.contains_nil, Bool.or_false]
  unfold Lib.trimS Lib.trimLeftS Lib.trimRightS
  rw [hp, dw_nil, List.all_reverse, dw_all, List.all_reverse]

set_option maxRecDepth 100000 in
set_option maxHeartbeats 6400000 in
theorem rdload_at {R : Nat} {S : Nat → Prop} {w : World} {gn : Nat} {rs : List Rg} {ls : List Lt} {os : List Int} {held : List Bool} {ins outs : List Int} (h : RefAt R S w gn rs ls os held ins outs) (l : List UInt8) (hl : l.length ≤ 10000) (hS : ∀ b, w.heap.size ≤ b → S b) :
    Calls Tryz.prog 13 #[.pointer (some ⟨R, 0, none⟩), .string ⟨l.toArray⟩] w fun e w' => e = .returned (.int .i64 (LoadD l rs.length)) ∧ RefAt R S w' gn rs ls os (heldB l held (LoadD l rs.length)) ins outs ∧ Kept R w w' := by
  have hsz := str_size l
  have HTR := hide (trim_at ⟨l.toArray⟩ w (by rw [hsz]; omega))
  have HTO := hide (trim_ok l)
  have HH := hide h
  have HS := hide hS
  have HM : Hid (∀ W, Below w.heap.size w W → ∃ ha hc, W.cell? ⟨R, 4, none⟩ = some (.slice ha rs.length hc) ∧ W.frozen? ⟨R, 4, none⟩ = false) := hide fun W hW => by
    obtain ⟨ra, la, oa, ha, ia, ua, rc, lc, oc, hc, ic, uc, A, C, h1, _⟩ := (h.below hW).me
    exact ⟨ha, hc, by rw [blk_cell h1]; rfl, blk_frozen h1 4⟩
  clear h hS
  have hto : (⟨l.toArray⟩ : ByteArray).data.toList = l := by simp
  rw [hto] at HTR
  clear hto
  generalize hT : Lib.trimS l [48, 49] = T at *
  clear hT
  cases hok : l.all okB with
  | false =>
    have hT : T ≠ [] := fun e => by rw [HTO.out.1 e] at hok; cases hok
    have hne : T.isEmpty = false := by simpa using hT
    have HE : Hid (LoadD l rs.length = 3) := hide (by unfold LoadD; rw [if_neg (by simp [hok])])
    clear hT HTO hok
    go_enter Tryz.func13, Tryz.ntmps13
    go_wp2_with fail
    refine HTR.out.mono ?_
    rintro e w1 ⟨rfl, hb⟩
    have HB := hide hb
    clear hb HTR
    go_wp2_with fail
    go_ret
    rw [HE.out]
    exact ⟨rfl, HH.out.below HB.out, Kept.of HB.out⟩
  | true =>
    obtain rfl : T = [] := HTO.out.2 hok
    by_cases hln : l.length = rs.length
    · have HE : Hid (LoadD l rs.length = 0) := hide (by unfold LoadD; rw [if_pos hok, if_pos hln])
      have hne : ((l.length : Int) != (rs.length : Int)) = false := by simp [hln]
      have HLN := hide hln
      clear HTO hok hln
      go_enter Tryz.func13, Tryz.ntmps13
      go_wp2_with fail
      refine HTR.out.mono ?_
      rintro e w1 ⟨rfl, hb⟩
      have HB := hide hb
      obtain ⟨ha, hc, m4, z4⟩ := HM.out w1 hb
      clear hb HTR
      go_wp2_with fail
      clear m4 z4 hne
      go_loopw [5, 20] (fun v i wr => ∃ (k : Nat) (va : Option Addr) (vc : Nat), k ≤ l.length ∧ i = .int .i64 k ∧ v = .slice va k vc ∧ Hid (BRow w1 wr va vc k (readB (l.take k)))) (fun _ i _ => l.length - (intOf i).toNat)
      case atStart => exact ⟨0, none, 0, Nat.zero_le _, rfl, rfl, hide (BRow.none _)⟩
      case round =>
        obtain ⟨k, va, vc, hk, rfl, rfl, hbr⟩ := hrel
        by_cases hlt : k < l.length
        · have hki : (k : Int) < (l.length : Int) := by omega
          have HRS := hide (readB_snoc l k hlt)
          have hix : ∀ W : World, (Instr.index 9 (.string ⟨l.toArray⟩) (.int .i64 k)).run Tryz.prog W = .ok (.int .u8 (l[k].toNat : Int)) W := fun W => by
            rw [run_index_string (h := Tryz.underlying9), dif_pos ⟨Int.natCast_nonneg _, by rw [hsz]; omega⟩]
            rfl
          generalize l[k] = c at *
          have HCB : Hid (((c.toNat : Int) == 49) = bitB c) := hide (by
            unfold bitB
            by_cases e : c = 49
            · subst e; rfl
            · rw [beq_eq_false_iff_ne.2 e, beq_eq_false_iff_ne]
              intro h
              exact e (UInt8.toNat_inj.1 (by have : c.toNat = 49 := by omega
                                             exact this)))
          obtain ⟨va2, vc2, w2, happ, hbr2⟩ := hbr.out.app (below_alloc wr (.cells #[.bool ((c.toNat : Int) == 49)] 4)) [((c.toNat : Int) == 49)] (some ⟨wr.heap.size, 0, none⟩) 1 1 (k + 1) (Lies.blk (cs := bitsC [((c.toNat : Int) == 49)]) (blk_new wr (.cells #[.bool ((c.toNat : Int) == 49)] 4)) trivial) rfl rfl (by omega)
          have HBR2 : Hid (BRow w1 w2 va2 vc2 (k + 1) (readB (l.take (k + 1)))) := hide (by rw [HRS.out, ← HCB.out]; exact hbr2)
          clear hbr2 hbr
          go_wp2_with (at_builtin; (refine wpl_append_run happ rfl _ _ rfl rfl rfl ?_))
          exact ⟨⟨k + 1, va2, vc2, by omega, by go_num, rfl, HBR2⟩, by simp [intOf]; omega⟩
        · have hkl : k = l.length := by omega
          subst hkl
          have HBR : Hid (BRow w1 wr va vc l.length (readB l)) := hide (by have := hbr.out; rwa [List.take_of_length_le (Nat.le_refl _)] at this)
          have HBW := hide (Below.step HB.out hbr.out.below)
          obtain ⟨ha', hc', m4, z4⟩ := HM.out wr HBW.out
          clear hbr
          go_wp2_with fail
          go_ret
          rw [HE.out]
          refine ⟨rfl, ?_, (Kept.of HBW.out).step 4 _⟩
          rw [HLN.out]
          exact (HH.out.below HBW.out).turned (HBR.out.lies.imp fun b _ hb => HS.out b (Nat.le_trans HB.out.size hb)) (by simp [heldB, readB, HLN.out])
    · have HE : Hid (LoadD l rs.length = 1) := hide (by unfold LoadD; rw [if_pos hok, if_neg hln])
      have hne : ((l.length : Int) != (rs.length : Int)) = true := by simp; omega
      clear HTO hok hln
      go_enter Tryz.func13, Tryz.ntmps13
      go_wp2_with fail
      refine HTR.out.mono ?_
      rintro e w1 ⟨rfl, hb⟩
      have HB := hide hb
      obtain ⟨ha, hc, m4, z4⟩ := HM.out w1 hb
      clear hb HTR
      go_wp2_with fail
      go_ret
      rw [HE.out]
      exact ⟨rfl, HH.out.below HB.out, Kept.of HB.out⟩
end Go.Proofs.YtndpehjbepfbkaaGreatDoor
