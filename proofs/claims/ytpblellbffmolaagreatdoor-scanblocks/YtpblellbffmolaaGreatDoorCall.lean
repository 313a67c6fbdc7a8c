/-
  CONTRACT of writeCall.
-/
import Derived.Test.YtpblellbffmolaaGreatDoorText
set_option linter.unusedSimpArgs false
set_option linter.unusedVariables false
namespace Go.Proofs.YtpblellbffmolaaGreatDoor
open Go.RowKit

/-- a row's cells -/
theorem IsRow.cell {S : Nat → Prop} {e size n : Nat} {w : World} {v : Value} {xs : List Value} (h : IsRow S w e size v n xs) {g cap m : Nat} (hv : v = .slice (some ⟨g, 0, none⟩) m cap) {j : Nat} {u : Value} (hj : xs[j]? = some u) : w.cell? ⟨g, j, none⟩ = some u := by
  subst hv
  have := h.1.cells (g := g) rfl j u hj
  unfold Addr.add at this
  split at this
  · rename_i e; subst e; exact this
  · simpa using this
theorem argsT_ge : ∀ l : List Ex, l.length ≤ (argsT l).length
  | [] => by simp
  | x :: l => by have := argsT_ge l; simp only [argsT, List.length_append, List.length_cons, List.length_nil]; omega
theorem IsRow.addr {S : Nat → Prop} {e size n : Nat} {w : World} {v : Value} {xs : List Value} (h : IsRow S w e size v n xs) (hn : 0 < n) : ∃ g cap : Nat, v = .slice (some ⟨g, 0, none⟩) n cap ∧ S g := by
  rcases h.1.2 with ⟨rfl, rfl⟩ | ⟨g, cap, cur, rfl, _⟩
  · omega
  · exact ⟨g, cap, rfl, h.2 g rfl⟩

set_option maxRecDepth 100000 in
set_option maxHeartbeats 6400000 in
theorem call_at (p : Nat) (s : ByteArray) (l : List Ex) (n : Nat) (hs : s.size ≤ 12) (hl : ∀ x ∈ l, GoodX x) (hn : n ≤ 255) (S : Nat → Prop) (w : World) (a : Value) (B b : Nat) (acc : List UInt8) (hx : IsExs S w l a) (hS : ∀ c, S c → c < B) (hb : Lib.IsBuilder 64 5 B b (Lib.byteCells acc) w) (hBw : B ≤ w.heap.size) (ht : Tab w) (h14 : 8 ≤ B) (hlen : acc.length + (s.size + 1 + (argsT l).length + ((Lib.decDigits n).length + 3)) ≤ 1000000) :
    Calls Tryz.prog 48 #[.pointer (some ⟨b, 0, none⟩), .agg #[.int .i64 3, .int .i64 p, .string s, .pointer none, a, .int .i64 n, .slice none 0 0, .slice none 0 0]] w fun e w' => e = .returned (.tuple #[]) ∧ Lib.IsBuilder 64 5 B b (Lib.byteCells (acc ++ (s.data.toList ++ [40] ++ argsT l ++ (Lib.decDigits n ++ [41, 59, 10])))) w' ∧ Wrote B w w' := by
  obtain ⟨vs, hrow, hall⟩ := hx
  obtain ⟨ao, cap, rfl⟩ := hrow.val
  have HO := hide (below_alloc w (.cells #[.int .i64 3, .int .i64 p, .string s, .pointer none, .slice ao l.length cap, .int .i64 n, .slice none 0 0, .slice none 0 0] 99))
  have HN := hide (blk_new w (.cells #[.int .i64 3, .int .i64 p, .string s, .pointer none, .slice ao l.length cap, .int .i64 n, .slice none 0 0, .slice none 0 0] 99))
  have HROW := hide hrow
  have HALL := hide hall
  have HS := hide hS
  have HB0 := hide (isBuilder_below hb HO.out)
  have HT := hide ht
  have HGX := hide hl
  have hcat : ∀ w, (Op.stringOp .add s ⟨#[40]⟩).run Tryz.prog w = .ok (.string (s ++ ⟨#[40]⟩)) w := fun w => run_string_add_sum w _ _ (by have e46 : (⟨#[40]⟩ : ByteArray).size = 1 := rfl; rw [e46]; omega)
  have HL := hide hlen
  have HE := hide (show (s ++ ⟨#[40]⟩ : ByteArray).data.toList = s.data.toList ++ [40] by simp)
  have HZ := hide (show (s ++ ⟨#[40]⟩ : ByteArray).size = s.size + 1 by rw [ByteArray.size_append]; rfl)
  have HSZ := hide (sz_list s)
  have HI := hide fun w' h => Tryz.strconv_Itoa (n : Int) (by omega) (by omega) w' h
  have HV : Hid (Lib.itoa (n : Int) = Lib.decDigits n) := by
    show _ = _
    have : ¬ (n : Int) < 0 := by omega
    simp [Lib.itoa, this]
  have hll : l.length ≤ 1000000 := by have := argsT_ge l; omega
  clear hrow hall hS hb ht hl hlen
  go_enter Tryz.func48, Tryz.ntmps48
  go_wp2_with fail
  generalize (w.alloc (.cells #[.int .i64 3, .int .i64 p, .string s, .pointer none, .slice ao l.length cap, .int .i64 n, .slice none 0 0, .slice none 0 0] 99)) = w0 at *
  refine (writes_at _ HB0.out (by have := HL.out; rw [HZ.out]; omega) (Nat.le_trans hBw HO.out.size)).mono ?_
  rintro e w1 ⟨rfl, h1, h2⟩
  have HB1 := hide (HE.out ▸ h1)
  have HW1 := hide ((Wrote.of HO.out hBw).trans h2)
  have HN1 := hide (h2.rest _ _ _ _ HN.out (by decide) (by decide))
  clear h1 h2
  have c4 : w1.cell? ⟨w.heap.size, 4, none⟩ = some (.slice ao l.length cap) := by rw [blk_cell HN1.out]; rfl
  go_wp2_with fail
  clear c4 hcat
  go_loopw [5, 14] (fun _ i wr => ∃ j : Nat, j ≤ l.length ∧ i = .int .i64 j ∧ Hid (Lib.IsBuilder 64 5 B b (Lib.byteCells (acc ++ (s.data.toList ++ [40]) ++ argsT (l.take j))) wr) ∧ Hid (Wrote B w wr) ∧ Hid (wr.heap[w.heap.size]? = some (.cells #[.int .i64 3, .int .i64 p, .string s, .pointer none, .slice ao l.length cap, .int .i64 n, .slice none 0 0, .slice none 0 0] 99 (0, 0)))) (fun _ i _ => l.length - (intOf i).toNat)
  case atStart => exact ⟨0, Nat.zero_le _, rfl, hide (by simpa [argsT] using HB1.out), HW1, HN1⟩
  case round =>
    obtain ⟨j, hj, rfl, hbr, hwr, hnr⟩ := hrel
    by_cases hlt : j < l.length
    · have hji : (j : Int) < (l.length : Int) := by omega
      obtain ⟨g, cap', hv, hSg⟩ := HROW.out.addr (by omega)
      obtain ⟨rfl, rfl⟩ : ao = some ⟨g, 0, none⟩ ∧ cap = cap' := by cases hv; exact ⟨rfl, rfl⟩
      obtain ⟨u, hu, hxu⟩ := all2_get HALL.out j hlt
      obtain ⟨X, rfl⟩ := hxu.ptr
      have hgB := HS.out g hSg
      have cj : wr.cell? ⟨g, j, none⟩ = some (.pointer (some ⟨X, 0, none⟩)) := (hwr.out.cell (a := ⟨g, j, none⟩) hgB).trans (HROW.out.cell rfl hu)
      have HXE := hide (hxu.same fun c h1 _ => hwr.out.block c (HS.out c h1))
      have HGJ := hide (HGX.out l[j] (List.getElem_mem hlt))
      have HTJ := hide (argsT_take l j hlt)
      have HTL := hide (argsT_len_take l (j + 1))
      have HTW := hide (HT.out.below hwr.out.below h14)
      have HBW := hide (Nat.le_trans hBw hwr.out.size)
      have hjl : j ≤ 1000000 := by omega
      clear hv hu hxu
      go_wp2_with fail
      refine (text_at l[j] HGJ.out.good S wr _ HXE.out (fun c h => Nat.lt_of_lt_of_le (HS.out c h) HBW.out) HTW.out (Nat.le_trans h14 HBW.out) (by have := HTL.out; rw [HTJ.out, List.length_append, List.length_append] at this; have := HL.out; omega)).mono ?_
      rintro e w3 ⟨rfl, h3⟩
      have HB3 := hide (isBuilder_below hbr.out h3)
      have HW3 := hide (hwr.out.trans (Wrote.of h3 HBW.out))
      have HN3 := hide (Below.blk h3 hnr.out)
      have HBW3 := hide (Nat.le_trans HBW.out h3.size)
      have HTQ : Hid ((textP l[j] 1).length ≤ 1000000) := by
        show _ ≤ _
        have := HTL.out; rw [HTJ.out, List.length_append, List.length_append] at this; have := HL.out; omega
      clear h3
      generalize hq : textP l[j] 1 = q at *
      have hcat2 : ∀ w, (Op.stringOp .add ⟨q.toArray⟩ ⟨#[44, 32]⟩).run Tryz.prog w = .ok (.string ⟨(q ++ [44, 32]).toArray⟩) w := fun w => by
        rw [run_string_add_sum w _ _ (by have e46 : (⟨#[44, 32]⟩ : ByteArray).size = 2 := rfl; rw [e46, str_sz]; have := HTQ.out; omega)]
        rw [show (⟨#[44, 32]⟩ : ByteArray) = ⟨[44, 32].toArray⟩ from rfl, cat_eq]
      go_wp2_with fail
      refine (writes_at _ HB3.out (by
        have := HTL.out; rw [HTJ.out, List.length_append] at this; have := HL.out
        rw [str_sz]; simp only [List.length_append, List.length_cons, List.length_nil, HSZ.out] at *; omega) HBW3.out).mono ?_
      rintro e w4 ⟨rfl, h4, h5⟩
      have HB4 := hide h4
      have HW4 := hide (HW3.out.trans h5)
      have HN4 := hide (h5.rest _ _ _ _ HN3.out (by decide) (by decide))
      clear h4 h5
      go_wp2_with fail
      refine ⟨⟨j + 1, by omega, by go_num, hide ?_, HW4, HN4⟩, by simp [intOf]; omega⟩
      have := HB4.out
      rw [HTJ.out]
      simpa using this
    · have HJ : Hid (j = l.length) := (by omega : j = l.length)
      have c5 : wr.cell? ⟨w.heap.size, 5, none⟩ = some (.int .i64 n) := by rw [blk_cell hnr.out]; rfl
      have HTW := hide (HT.out.below hwr.out.below h14)
      have HBW := hide (Nat.le_trans hBw hwr.out.size)
      go_wp2_with fail
      refine (HI.out wr HTW.out).mono ?_
      rintro e w3 ⟨rfl, q, os, rfl⟩
      rw [HV.out]
      have h3 := below_grow wr q os
      have HB3 := hide (isBuilder_below hbr.out h3)
      have HW3 := hide (hwr.out.trans (Wrote.of h3 HBW.out))
      have HBW3 := hide (Nat.le_trans HBW.out h3.size)
      clear h3
      generalize Sort.grow (wr.drewN q) os = w3 at *
      have HD := hide (dec_len hn)
      generalize hdg : Lib.decDigits n = dg at *
      have HDG : Hid (Lib.decDigits n = dg) := hdg
      clear hdg
      have hcat2 : ∀ w, (Op.stringOp .add ⟨dg.toArray⟩ ⟨#[41, 59, 10]⟩).run Tryz.prog w = .ok (.string ⟨(dg ++ [41, 59, 10]).toArray⟩) w := fun w => by
        rw [run_string_add_sum w _ _ (by have e46 : (⟨#[41, 59, 10]⟩ : ByteArray).size = 3 := rfl; rw [e46, str_sz]; have := HD.out; omega)]
        rw [show (⟨#[41, 59, 10]⟩ : ByteArray) = ⟨[41, 59, 10].toArray⟩ from rfl, cat_eq]
      go_wp2_with fail
      refine (writes_at _ HB3.out (by
        have := argsT_len_take l j; have := HL.out
        rw [str_sz]; simp only [List.length_append, List.length_cons, List.length_nil, HSZ.out] at *; omega) HBW3.out).mono ?_
      rintro e w4 ⟨rfl, h4, h5⟩
      have HB4 := hide h4
      have HW4 := hide (HW3.out.trans h5)
      clear h4 h5
      go_wp2_with fail
      go_end0
      refine ⟨rfl, ?_, HW4.out⟩
      have := HB4.out
      rw [HJ.out, List.take_length] at this
      rw [HDG.out]
      simpa using this
end Go.Proofs.YtpblellbffmolaaGreatDoor
