/-
  THE WALK of TreeLimits.
-/
import Derived.Test.YtalolaikhloopaaGreatDoorJLimU
namespace Go.Proofs.YtalolaikhloopaaGreatDoor
open Go.RowKit
set_option linter.unusedSimpArgs false
set_option linter.unusedVariables false

/-- a text so often: it is not long -/
theorem rep_any (s : ByteArray) (n : Nat) (hs : s.size ≤ 20) (hn : n ≤ 500) (w : World) : Calls Tryz.prog 21 #[.string s, .int .i64 n] w fun e w' => ∃ r : ByteArray, e = .returned (.string r) ∧ r.size ≤ 10000 ∧ w = w' :=
  (repeat_at s n (by omega) (by omega) w).mono fun e w' h => ⟨_, h.1, by rw [repB_size]; exact Nat.le_trans (Nat.mul_le_mul hn hs) (by decide), h.2.symm⟩

theorem rep_int (s : ByteArray) (z : Int) (n : Nat) (hz : z = (n : Int)) (hs : s.size ≤ 20) (hn : n ≤ 500) (w : World) : Calls Tryz.prog 21 #[.string s, .int .i64 z] w fun e w' => ∃ r : ByteArray, e = .returned (.string r) ∧ r.size ≤ 10000 ∧ w = w' := by
  subst hz; exact rep_any s n hs hn w

theorem lit_size (l : List UInt8) : (⟨l.toArray⟩ : ByteArray).size = l.length := by simp [ByteArray.size]
/-- nine texts in a row, none of them long -/
def Nine (w : World) (G : Nat) : Prop := ∀ i : Nat, i < 9 → ∃ s : ByteArray, s.size ≤ 100000 ∧ w.cell? ⟨G, i, none⟩ = some (.string s)
theorem nine_of {w : World} {G : Nat} {t : TypeId} {z : Nat × Nat} {s0 s1 s2 s3 s4 s5 s6 s7 s8 : ByteArray} (h : w.heap[G]? = some (.cells #[.string s0, .string s1, .string s2, .string s3, .string s4, .string s5, .string s6, .string s7, .string s8] t z))
    (h0 : s0.size ≤ 100000) (h1 : s1.size ≤ 100000) (h2 : s2.size ≤ 100000) (h3 : s3.size ≤ 100000) (h4 : s4.size ≤ 100000) (h5 : s5.size ≤ 100000) (h6 : s6.size ≤ 100000) (h7 : s7.size ≤ 100000) (h8 : s8.size ≤ 100000) : Nine w G := by
  intro i hi
  have e := blk_cell h i
  rcases (show i = 0 ∨ i = 1 ∨ i = 2 ∨ i = 3 ∨ i = 4 ∨ i = 5 ∨ i = 6 ∨ i = 7 ∨ i = 8 by omega) with rfl | rfl | rfl | rfl | rfl | rfl | rfl | rfl | rfl
  · exact ⟨s0, h0, e⟩
  · exact ⟨s1, h1, e⟩
  · exact ⟨s2, h2, e⟩
  · exact ⟨s3, h3, e⟩
  · exact ⟨s4, h4, e⟩
  · exact ⟨s5, h5, e⟩
  · exact ⟨s6, h6, e⟩
  · exact ⟨s7, h7, e⟩
  · exact ⟨s8, h8, e⟩

set_option maxRecDepth 100000 in
set_option maxHeartbeats 3200000 in
theorem limits_long (n m : Int) (name : ByteArray) (w : World) (h : 20 < name.size) : Calls Tryz.prog 4 #[.int .i64 n, .int .i64 m, .string name] w fun e w' => e = .returned (.bool true) ∧ Below w.heap.size w w' := by
  have hi : (20 : Int) < (name.size : Int) := by omega
  go_enter Tryz.func4, Tryz.ntmps4
  go_wp2_with fail
  go_ret
  exact ⟨rfl, Below.refl _ _⟩

set_option maxRecDepth 100000 in
set_option maxHeartbeats 12800000 in
theorem limits_at (n m : Int) (name : ByteArray) (w : World) (h : ¬ 20 < name.size) (henv : Env w) (k l r3 : Nat) (hk : k ≤ 12) (hl : l ≤ 11) (h3 : r3 ≤ 2)
    (hwk : wrap64 ((IntKind.u64.wrap n).tmod 13) = (k : Int)) (hwl : wrap64 ((IntKind.u64.wrap m).tmod 12) = (l : Int)) (hw3 : (k : Int).tmod 3 = (r3 : Int)) :
    Calls Tryz.prog 4 #[.int .i64 n, .int .i64 m, .string name] w fun e w' => e = .returned (.bool true) ∧ Below w.heap.size w w' := by
  have hi : ¬ (20 : Int) < (name.size : Int) := by omega
  have HE := hide henv
  have hz : name.size ≤ 20 := by omega
  clear henv h
  go_enter Tryz.func4, Tryz.ntmps4
  go_wp2_with fail
  refine (rep_int ⟨#[40]⟩ _ (k) (by omega) (by decide) (by omega) _).mono ?_
  rintro e w1 ⟨s0, rfl, hs0, rfl⟩
  go_wp2_with fail
  refine (rep_int ⟨#[41]⟩ _ (k) (by omega) (by decide) (by omega) _).mono ?_
  rintro e w1 ⟨s1, rfl, hs1, rfl⟩
  go_wp2_with fail
  refine (rep_int ⟨#[110, 111, 116, 32]⟩ _ (k) (by omega) (by decide) (by omega) _).mono ?_
  rintro e w1 ⟨s2, rfl, hs2, rfl⟩
  go_wp2_with fail
  refine (rep_int ⟨#[105, 102, 32, 97, 32, 116, 104, 101, 110, 32]⟩ _ (k) (by omega) (by decide) (by omega) _).mono ?_
  rintro e w1 ⟨s3, rfl, hs3, rfl⟩
  go_wp2_with fail
  refine (rep_int ⟨#[101, 110, 100, 59, 32]⟩ _ (k) (by omega) (by decide) (by omega) _).mono ?_
  rintro e w1 ⟨s4, rfl, hs4, rfl⟩
  go_wp2_with fail
  refine (rep_int ⟨#[101, 108, 115, 105, 102, 32, 98, 32, 116, 104, 101, 110, 32]⟩ _ (k) (by omega) (by decide) (by omega) _).mono ?_
  rintro e w1 ⟨s5, rfl, hs5, rfl⟩
  go_wp2_with fail
  refine (rep_int ⟨#[105, 110, 32, 97, 58, 32, 98, 111, 111, 108, 59, 32]⟩ _ (15 + k) (by omega) (by decide) (by omega) _).mono ?_
  rintro e w1 ⟨s6, rfl, hs6, rfl⟩
  go_wp2_with fail
  refine (rep_int ⟨#[116, 105, 109, 101, 114, 32, 116, 59, 32]⟩ _ (15 + k) (by omega) (by decide) (by omega) _).mono ?_
  rintro e w1 ⟨s7, rfl, hs7, rfl⟩
  go_wp2_with fail
  refine (rep_int ⟨#[49, 32, 43, 32]⟩ _ (392 + l) (by omega) (by decide) (by omega) _).mono ?_
  rintro e w1 ⟨s8, rfl, hs8, rfl⟩
  go_wp2_with fail
  refine (rep_int ⟨#[54]⟩ _ (r3) (by omega) (by decide) (by omega) _).mono ?_
  rintro e w1 ⟨s9, rfl, hs9, rfl⟩
  go_wp2_with fail
  have HBA := hide (below_alloc w (.cells #[.string (⟨#[98, 101, 103, 105, 110, 32, 97, 32, 58, 61, 32]⟩ ++ s0 ++ ⟨#[49]⟩ ++ s1 ++ ⟨#[59, 32, 101, 110, 100]⟩), .string (⟨#[98, 101, 103, 105, 110, 32, 97, 32, 58, 61, 32]⟩ ++ s2 ++ ⟨#[98, 59, 32, 101, 110, 100]⟩), .string (⟨#[98, 101, 103, 105, 110, 32]⟩ ++ s3 ++ s4 ++ ⟨#[101, 110, 100]⟩), .string (⟨#[98, 101, 103, 105, 110, 32, 105, 102, 32, 97, 32, 116, 104, 101, 110, 32]⟩ ++ s5 ++ ⟨#[101, 108, 115, 101, 32, 99, 32, 58, 61, 32, 100, 59, 32, 101, 110, 100, 59, 32, 101, 110, 100]⟩), .string (s6 ++ ⟨#[98, 101, 103, 105, 110, 32, 101, 110, 100]⟩), .string (s7 ++ ⟨#[120]⟩), .string (⟨#[98, 101, 103, 105, 110, 32, 97, 32, 58, 61, 32]⟩ ++ s8 ++ ⟨#[49, 59, 32, 101, 110, 100]⟩), .string (⟨#[98, 101, 103, 105, 110, 32]⟩ ++ name ++ ⟨#[32, 58, 61, 32]⟩ ++ name ++ ⟨#[46]⟩ ++ name ++ name ++ ⟨#[59, 32, 101, 110, 100]⟩), .string (⟨#[118, 97, 114, 32]⟩ ++ name ++ ⟨#[58, 32, 98, 121, 116, 101, 32, 61, 32, 50, 53]⟩ ++ s9 ++ ⟨#[59, 32, 98, 101, 103, 105, 110, 32, 116, 40, 97, 44, 32, 50, 53, 53, 41, 59, 32, 116, 40, 50, 53, 54, 41, 59, 32, 101, 110, 100]⟩)] 9))
  have HNI : Hid (Nine (w.alloc (.cells #[.string (⟨#[98, 101, 103, 105, 110, 32, 97, 32, 58, 61, 32]⟩ ++ s0 ++ ⟨#[49]⟩ ++ s1 ++ ⟨#[59, 32, 101, 110, 100]⟩), .string (⟨#[98, 101, 103, 105, 110, 32, 97, 32, 58, 61, 32]⟩ ++ s2 ++ ⟨#[98, 59, 32, 101, 110, 100]⟩), .string (⟨#[98, 101, 103, 105, 110, 32]⟩ ++ s3 ++ s4 ++ ⟨#[101, 110, 100]⟩), .string (⟨#[98, 101, 103, 105, 110, 32, 105, 102, 32, 97, 32, 116, 104, 101, 110, 32]⟩ ++ s5 ++ ⟨#[101, 108, 115, 101, 32, 99, 32, 58, 61, 32, 100, 59, 32, 101, 110, 100, 59, 32, 101, 110, 100]⟩), .string (s6 ++ ⟨#[98, 101, 103, 105, 110, 32, 101, 110, 100]⟩), .string (s7 ++ ⟨#[120]⟩), .string (⟨#[98, 101, 103, 105, 110, 32, 97, 32, 58, 61, 32]⟩ ++ s8 ++ ⟨#[49, 59, 32, 101, 110, 100]⟩), .string (⟨#[98, 101, 103, 105, 110, 32]⟩ ++ name ++ ⟨#[32, 58, 61, 32]⟩ ++ name ++ ⟨#[46]⟩ ++ name ++ name ++ ⟨#[59, 32, 101, 110, 100]⟩), .string (⟨#[118, 97, 114, 32]⟩ ++ name ++ ⟨#[58, 32, 98, 121, 116, 101, 32, 61, 32, 50, 53]⟩ ++ s9 ++ ⟨#[59, 32, 98, 101, 103, 105, 110, 32, 116, 40, 97, 44, 32, 50, 53, 53, 41, 59, 32, 116, 40, 50, 53, 54, 41, 59, 32, 101, 110, 100]⟩)] 9)) w.heap.size) := hide (nine_of (blk_new w _) (by simp only [ByteArray.size_append, lit_size, List.length_cons, List.length_nil]; omega) (by simp only [ByteArray.size_append, lit_size, List.length_cons, List.length_nil]; omega) (by simp only [ByteArray.size_append, lit_size, List.length_cons, List.length_nil]; omega) (by simp only [ByteArray.size_append, lit_size, List.length_cons, List.length_nil]; omega) (by simp only [ByteArray.size_append, lit_size, List.length_cons, List.length_nil]; omega) (by simp only [ByteArray.size_append, lit_size, List.length_cons, List.length_nil]; omega) (by simp only [ByteArray.size_append, lit_size, List.length_cons, List.length_nil]; omega) (by simp only [ByteArray.size_append, lit_size, List.length_cons, List.length_nil]; omega) (by simp only [ByteArray.size_append, lit_size, List.length_cons, List.length_nil]; omega))
  have HEA := hide (HE.out.below HBA.out)
  generalize w.alloc (.cells #[.string (⟨#[98, 101, 103, 105, 110, 32, 97, 32, 58, 61, 32]⟩ ++ s0 ++ ⟨#[49]⟩ ++ s1 ++ ⟨#[59, 32, 101, 110, 100]⟩), .string (⟨#[98, 101, 103, 105, 110, 32, 97, 32, 58, 61, 32]⟩ ++ s2 ++ ⟨#[98, 59, 32, 101, 110, 100]⟩), .string (⟨#[98, 101, 103, 105, 110, 32]⟩ ++ s3 ++ s4 ++ ⟨#[101, 110, 100]⟩), .string (⟨#[98, 101, 103, 105, 110, 32, 105, 102, 32, 97, 32, 116, 104, 101, 110, 32]⟩ ++ s5 ++ ⟨#[101, 108, 115, 101, 32, 99, 32, 58, 61, 32, 100, 59, 32, 101, 110, 100, 59, 32, 101, 110, 100]⟩), .string (s6 ++ ⟨#[98, 101, 103, 105, 110, 32, 101, 110, 100]⟩), .string (s7 ++ ⟨#[120]⟩), .string (⟨#[98, 101, 103, 105, 110, 32, 97, 32, 58, 61, 32]⟩ ++ s8 ++ ⟨#[49, 59, 32, 101, 110, 100]⟩), .string (⟨#[98, 101, 103, 105, 110, 32]⟩ ++ name ++ ⟨#[32, 58, 61, 32]⟩ ++ name ++ ⟨#[46]⟩ ++ name ++ name ++ ⟨#[59, 32, 101, 110, 100]⟩), .string (⟨#[118, 97, 114, 32]⟩ ++ name ++ ⟨#[58, 32, 98, 121, 116, 101, 32, 61, 32, 50, 53]⟩ ++ s9 ++ ⟨#[59, 32, 98, 101, 103, 105, 110, 32, 116, 40, 97, 44, 32, 50, 53, 53, 41, 59, 32, 116, 40, 50, 53, 54, 41, 59, 32, 101, 110, 100]⟩)] 9) = wA at *
  generalize w.heap.size = G at HNI ⊢
  go_loopw [9] (fun i wr => ∃ j : Nat, j ≤ 9 ∧ i = .int .i64 j ∧ Hid (Below wA.heap.size wA wr)) (fun i _ => 9 - (intOf i).toNat)
  case atStart => exact ⟨0, Nat.zero_le _, rfl, hide (Below.refl _ _)⟩
  case round =>
    obtain ⟨j, hj, rfl, hbw⟩ := hrel
    by_cases hlt : j < 9
    · have hji : (j : Int) < 9 := by omega
      obtain ⟨s, hsz, hcell⟩ := HNI.out j hlt
      have HC : Hid (∀ W, Below wA.heap.size wA W → W.cell? ⟨G, j, none⟩ = some (.string s)) := hide fun W hb => (hb.cell (cell_lt hcell)).trans hcell
      have HRP := hide fun W h => rparse_u s W hsz h
      have HPP := hide fun W h => parse_u s W hsz h
      have HRD := hide fun W h => rdecls_u s W hsz h
      have HDD := hide fun W h => decls_u s W hsz h
      obtain ⟨hss, hdl⟩ := outP_same hsz
      have hdd := outD_small hsz
      generalize outP (parse2 s) = q at *
      generalize outD (decls2 s) = d at *
      obtain ⟨ds, bs, ea, eb⟩ := q
      obtain ⟨ls, fa, fb⟩ := d
      have HSS := hide hss
      have HDL : Hid (ds.length ≤ 1000) := hide hdl
      have HDD2 : Hid (ls.length ≤ 1000) := hide hdd
      have c0 := HC.out wr hbw.out
      have HER := hide (HEA.out.below hbw.out)
      clear hcell hss hdl hdd hsz
      go_wp2_with fail
      refine (HRP.out wr HER.out).mono ?_
      rintro e w1 ⟨hb1, da, ba, dc, bc, he, hd1, hs1⟩
      dsimp only at he hd1 hs1
      subst he
      have hb2 := Below.step (below_alloc w1 (.cells #[.slice da ds.length dc, .slice ba bs.length bc] 25)) (below_alloc _ (.cells #[.int .i64 ea, .int .i64 eb] 28))
      have HB2 := hide (Below.step hbw.out (Below.step hb1 hb2))
      have HP2 := hide (Below.blk (below_alloc (w1.alloc (.cells #[.slice da ds.length dc, .slice ba bs.length bc] 25)) (.cells #[.int .i64 ea, .int .i64 eb] 28)) (blk_new w1 (.cells #[.slice da ds.length dc, .slice ba bs.length bc] 25)))
      have HF2 : Hid (((w1.alloc (.cells #[.slice da ds.length dc, .slice ba bs.length bc] 25)).alloc (.cells #[.int .i64 ea, .int .i64 eb] 28)).heap[w1.heap.size + 1]? = some (.cells #[.int .i64 ea, .int .i64 eb] 28 (0, 0))) := hide (blk_new2 w1 _ _)
      have HD2 : Hid (IsDes (From wr.heap.size) ((w1.alloc (.cells #[.slice da ds.length dc, .slice ba bs.length bc] 25)).alloc (.cells #[.int .i64 ea, .int .i64 eb] 28)) ds (.slice da ds.length dc)) := hide (IsRow.same hd1 fun c _ h => hb2.block c h)
      have HS2 : Hid (IsSts (From wr.heap.size) ((w1.alloc (.cells #[.slice da ds.length dc, .slice ba bs.length bc] 25)).alloc (.cells #[.int .i64 ea, .int .i64 eb] 28)) bs (.slice ba bs.length bc)) := hide (hs1.same fun c _ h => hb2.block c h)
      have HWP : Hid (wA.heap.size ≤ w1.heap.size) := hide (Nat.le_trans hbw.out.size hb1.size)
      have c2 := HC.out _ HB2.out
      clear hb1 hd1 hs1 hb2 c0
      go_wp2_with fail
      generalize (w1.alloc (.cells #[.slice da ds.length dc, .slice ba bs.length bc] 25)).alloc (.cells #[.int .i64 ea, .int .i64 eb] 28) = w2 at *
      generalize w1.heap.size = P at *
      have HE2 := hide (HEA.out.below HB2.out)
      refine (HPP.out w2 HE2.out).mono ?_
      rintro e w3 ⟨hb3, da2, ba2, dc2, bc2, ev, he, hd3, hs3, herr⟩
      dsimp only at he hd3 hs3 herr
      subst he
      have hb4 := below_alloc w3 (.cells #[.slice da2 ds.length dc2, .slice ba2 bs.length bc2] 25)
      have hb24 := Below.step hb3 hb4
      have HB4 := hide (Below.step HB2.out hb24)
      have HQ4 := hide (blk_new w3 (.cells #[.slice da2 ds.length dc2, .slice ba2 bs.length bc2] 25))
      have HP4 := hide (Below.blk hb24 HP2.out)
      have HF4 := hide (Below.blk hb24 HF2.out)
      have HD4 : Hid (IsDes (From wr.heap.size) (w3.alloc (.cells #[.slice da2 ds.length dc2, .slice ba2 bs.length bc2] 25)) ds (.slice da ds.length dc)) := hide (IsRow.same HD2.out fun c _ h => hb24.block c h)
      have HS4 : Hid (IsSts (From wr.heap.size) (w3.alloc (.cells #[.slice da2 ds.length dc2, .slice ba2 bs.length bc2] 25)) bs (.slice ba bs.length bc)) := hide (HS2.out.same fun c _ h => hb24.block c h)
      have HD4' : Hid (IsDes (From w2.heap.size) (w3.alloc (.cells #[.slice da2 ds.length dc2, .slice ba2 bs.length bc2] 25)) ds (.slice da2 ds.length dc2)) := hide (IsRow.same hd3 fun c _ h => hb4.block c h)
      have HS4' : Hid (IsSts (From w2.heap.size) (w3.alloc (.cells #[.slice da2 ds.length dc2, .slice ba2 bs.length bc2] 25)) bs (.slice ba2 bs.length bc2)) := hide (hs3.same fun c _ h => hb4.block c h)
      have HR4 := hide (herr.below hb4)
      clear hb3 hb4 hb24 hd3 hs3 herr HD2 HS2 HP2 HF2 c2
      have f0 : (w3.alloc (.cells #[.slice da2 ds.length dc2, .slice ba2 bs.length bc2] 25)).cell? ⟨P + 1, 0, none⟩ = some (.int .i64 ea) := by rw [blk_cell HF4.out]; rfl
      have f1 : (w3.alloc (.cells #[.slice da2 ds.length dc2, .slice ba2 bs.length bc2] 25)).cell? ⟨P + 1, 1, none⟩ = some (.int .i64 eb) := by rw [blk_cell HF4.out]; rfl
      go_wp2_with fail
      generalize w3.alloc (.cells #[.slice da2 ds.length dc2, .slice ba2 bs.length bc2] 25) = w4 at *
      generalize w3.heap.size = Q at *
      refine (HR4.out w4 (Below.refl _ _)).mono ?_
      rintro e w5 ⟨rfl, hb5⟩
      have HB5 := hide (Below.step HB4.out hb5)
      have HP5 := hide (Below.blk hb5 HP4.out)
      have HQ5 := hide (Below.blk hb5 HQ4.out)
      have HF5 := hide (Below.blk hb5 HF4.out)
      have HD5 : Hid (IsDes (From wr.heap.size) w5 ds (.slice da ds.length dc)) := hide (IsRow.same HD4.out fun c _ h => hb5.block c h)
      have HS5 : Hid (IsSts (From wr.heap.size) w5 bs (.slice ba bs.length bc)) := hide (HS4.out.same fun c _ h => hb5.block c h)
      have HD5' : Hid (IsDes (From w2.heap.size) w5 ds (.slice da2 ds.length dc2)) := hide (IsRow.same HD4'.out fun c _ h => hb5.block c h)
      have HS5' : Hid (IsSts (From w2.heap.size) w5 bs (.slice ba2 bs.length bc2)) := hide (HS4'.out.same fun c _ h => hb5.block c h)
      clear hb5 f0 f1 HP4 HQ4 HF4 HD4 HS4 HD4' HS4' HR4
      have p0 : w5.cell? ⟨P, 0, none⟩ = some (.slice da ds.length dc) := by rw [blk_cell HP5.out]; rfl
      have q0 : w5.cell? ⟨Q, 0, none⟩ = some (.slice da2 ds.length dc2) := by rw [blk_cell HQ5.out]; rfl
      go_wp2_with fail
      refine (sameDecls_at ds HDL.out _ _ w5 _ _ HD5'.out HD5.out).mono ?_
      rintro e w6 ⟨rfl, hb6⟩
      have HB6 := hide (Below.step HB5.out hb6)
      have HP6 := hide (Below.blk hb6 HP5.out)
      have HQ6 := hide (Below.blk hb6 HQ5.out)
      have HF6 := hide (Below.blk hb6 HF5.out)
      have HS6 : Hid (IsSts (From wr.heap.size) w6 bs (.slice ba bs.length bc)) := hide (HS5.out.same fun c _ h => hb6.block c h)
      have HS6' : Hid (IsSts (From w2.heap.size) w6 bs (.slice ba2 bs.length bc2)) := hide (HS5'.out.same fun c _ h => hb6.block c h)
      clear hb6 p0 q0 HP5 HQ5 HF5 HD5 HS5 HD5' HS5'
      have p1 : w6.cell? ⟨P, 1, none⟩ = some (.slice ba bs.length bc) := by rw [blk_cell HP6.out]; rfl
      have q1 : w6.cell? ⟨Q, 1, none⟩ = some (.slice ba2 bs.length bc2) := by rw [blk_cell HQ6.out]; rfl
      go_wp2_with fail
      refine (HSS.out _ _ w6 _ _ HS6'.out HS6.out).mono ?_
      rintro e w7 ⟨rfl, hb7⟩
      have HB7 := hide (Below.step HB6.out hb7)
      have HF7 := hide (Below.blk hb7 HF6.out)
      clear hb7 p1 q1 HP6 HQ6 HF6 HS6 HS6'
      have c7 := HC.out w7 HB7.out
      have HE7 := hide (HEA.out.below HB7.out)
      go_wp2_with fail
      refine (HRD.out w7 HE7.out).mono ?_
      rintro e w8 ⟨hb8, la, lc, he, hl8⟩
      dsimp only at he hl8
      subst he
      have hf8 := Below.blk hb8 HF7.out
      have g0 : w8.cell? ⟨P + 1, 0, none⟩ = some (.int .i64 ea) := by rw [blk_cell hf8]; rfl
      have g1 : w8.cell? ⟨P + 1, 1, none⟩ = some (.int .i64 eb) := by rw [blk_cell hf8]; rfl
      have gf : ∀ i, w8.frozen? ⟨P + 1, i, none⟩ = false := blk_frozen hf8
      have hPF : wA.heap.size ≤ P + 1 := by have := HWP.out; omega
      have hlt7 := blk_lt HF7.out
      have HB9 : Hid (Below wA.heap.size wA ((w8.setCell ⟨P + 1, 0, none⟩ (.int .i64 fa)).setCell ⟨P + 1, 1, none⟩ (.int .i64 fb))) := hide (((Below.step HB7.out hb8).setCell hPF _).setCell hPF _)
      have HF9 : Hid (((w8.setCell ⟨P + 1, 0, none⟩ (.int .i64 fa)).setCell ⟨P + 1, 1, none⟩ (.int .i64 fb)).heap[P + 1]? = some (.cells #[.int .i64 fa, .int .i64 fb] 28 (0, 0))) := hide (by rw [blk_set (blk_set hf8 0 _) 1 _]; rfl)
      have HL9 : Hid (IsDes (From w7.heap.size) ((w8.setCell ⟨P + 1, 0, none⟩ (.int .i64 fa)).setCell ⟨P + 1, 1, none⟩ (.int .i64 fb)) ls (.slice la ls.length lc)) := hide (IsRow.same hl8 fun b h1 h2 => by
        have h1 : w7.heap.size ≤ b := h1
        exact (set_other _ 1 _ (by omega)).trans (set_other _ 0 _ (by omega)))
      have c9 := HC.out _ HB9.out
      clear hb8 hl8 hf8 c7 HF7
      go_wp2_with fail
      clear g0 g1 gf
      generalize (w8.setCell ⟨P + 1, 0, none⟩ (.int .i64 fa)).setCell ⟨P + 1, 1, none⟩ (.int .i64 fb) = w9 at *
      have HE9 := hide (HEA.out.below HB9.out)
      refine (HDD.out w9 HE9.out).mono ?_
      rintro e wX ⟨hbX, la2, lc2, ev2, he, hlX, herr⟩
      dsimp only at he hlX herr
      subst he
      have HBX := hide (Below.step HB9.out hbX)
      have HFX := hide (Below.blk hbX HF9.out)
      have HLX : Hid (IsDes (From w7.heap.size) wX ls (.slice la ls.length lc)) := hide (IsRow.same HL9.out fun c _ h => hbX.block c h)
      have HLX' := hide hlX
      have HRX := hide herr
      clear hbX hlX herr HF9 HL9 c9
      have f0 : wX.cell? ⟨P + 1, 0, none⟩ = some (.int .i64 fa) := by rw [blk_cell HFX.out]; rfl
      have f1 : wX.cell? ⟨P + 1, 1, none⟩ = some (.int .i64 fb) := by rw [blk_cell HFX.out]; rfl
      go_wp2_with fail
      refine (HRX.out wX (Below.refl _ _)).mono ?_
      rintro e wY ⟨rfl, hbY⟩
      have HBY := hide (Below.step HBX.out hbY)
      have HLY : Hid (IsDes (From w7.heap.size) wY ls (.slice la ls.length lc)) := hide (IsRow.same HLX.out fun c _ h => hbY.block c h)
      have HLY' : Hid (IsDes (From w9.heap.size) wY ls (.slice la2 ls.length lc2)) := hide (IsRow.same HLX'.out fun c _ h => hbY.block c h)
      clear hbY f0 f1 HLX HLX' HFX HRX
      go_wp2_with fail
      refine (sameDecls_at ls HDD2.out _ _ wY _ _ HLY'.out HLY.out).mono ?_
      rintro e wZ ⟨rfl, hbZ⟩
      have HBZ := hide (Below.step HBY.out hbZ)
      clear hbZ
      go_wp2_with fail
      exact ⟨⟨j + 1, by omega, by go_num, HBZ⟩, by simp [intOf]; omega⟩
    · have hji : ¬ (j : Int) < 9 := by omega
      go_wp2_with fail
      go_ret
      exact ⟨rfl, Below.step HBA.out hbw.out⟩
end Go.Proofs.YtalolaikhloopaaGreatDoor
