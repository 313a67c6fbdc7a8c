/-
  THE WALK of rungworkkeep.ValueLaws: for every four numbers it returns true, and it writes nothing that was there.
-/
import Derived.Test.YtmoakccnjahfeaaRec
import Derived.Test.YtmoakccnjahfeaaFacts
import Derived.Deep.QuietTactic
import Derived.BigQuiet
namespace Go.Proofs.Ytmoakccnjahfeaa
open Go.RowKit
theorem bcell {W w1 : World} {B : Nat} (hb : Below B W w1) : (∀ b o, b < B → w1.cell? ⟨b, o, none⟩ = W.cell? ⟨b, o, none⟩) ∧ (∀ b o, b < B → w1.frozen? ⟨b, o, none⟩ = W.frozen? ⟨b, o, none⟩) :=
  ⟨fun b o h => hb.cell (p := ⟨b, o, none⟩) h, fun b o h => hb.frozen (p := ⟨b, o, none⟩) h⟩

theorem cut_at (k n r : Int) (w : World) (h : cutI k n = r) :
    Calls Try.prog 8 #[.int .i64 k, .int .i64 n] w fun e w' => e = .returned (.int .i64 r) ∧ w' = w := by
  rw [← h]; exact cut_any k n w

set_option maxHeartbeats 1600000 in
theorem pick_any (a r : Int) (w : World) (hr : a % 2 = r):
    Calls Try.prog 22 #[.int .i64 a, .int .i64 2] w fun e w' => e = .returned (.int .i64 r) ∧ w' = w := by
  go_enter Try.func22, Try.ntmps22
  go_wp2
  go_ret
  refine ⟨ret_int ?_, rfl⟩
  rw [IntKind.wrap_u64, tmod_of_emod]; unfold wrap64; omega


set_option maxHeartbeats 1600000 in
theorem clo2 (op : ByteArray) (k a b r : Int) (B : Nat) (w : World) (hc : w.cell? ⟨B, 0, none⟩ = some (.int .i64 k)) (h : twoI op.data.toList k a b = r) :
    Calls Try.prog 23 #[.string op, .int .i64 a, .int .i64 b, .pointer (some ⟨B, 0, none⟩)] w fun e w' => e = .returned (.int .i64 r) ∧ w' = w := by
  go_enter Try.func23, Try.ntmps23
  go_wp2_with fail
  refine (two_at op k a b r _ h).mono ?_; rintro e w' ⟨rfl, rfl⟩
  go_wp2_with fail
  go_ret
  exact ⟨rfl, rfl⟩
set_option maxHeartbeats 1600000 in
theorem clo1 (k a r : Int) (B : Nat) (w : World) (hc : w.cell? ⟨B, 0, none⟩ = some (.int .i64 k)) (h1 : -9223372036854775808 ≤ a) (h2 : a ≤ 9223372036854775807) (h : cutI k (-1 - a) = r) :
    Calls Try.prog 24 #[.int .i64 a, .pointer (some ⟨B, 0, none⟩)] w fun e w' => e = .returned (.int .i64 r) ∧ w' = w := by
  go_enter Try.func24, Try.ntmps24
  go_wp2_with fail
  refine (not_at k a r _ h1 h2 h).mono ?_; rintro e w' ⟨rfl, rfl⟩
  go_wp2_with fail
  go_ret
  exact ⟨rfl, rfl⟩

theorem boxed {w w1 : World} {a0 : Int} (k : Int) (hb1 : Below (w.alloc (Obj.cells #[Value.int IntKind.i64 a0] 3)).heap.size (w.alloc (Obj.cells #[Value.int IntKind.i64 a0] 3)) w1) :
    (w1.setCell ⟨w.heap.size, 0, none⟩ (.int .i64 k)).cell? ⟨w.heap.size, 0, none⟩ = some (.int .i64 k) ∧ Below w.heap.size w (w1.setCell ⟨w.heap.size, 0, none⟩ (.int .i64 k)) ∧ w.heap.size < (w1.setCell ⟨w.heap.size, 0, none⟩ (.int .i64 k)).heap.size := by
  have h0 : w1.cell? ⟨w.heap.size, 0, none⟩ = some (.int .i64 a0) := by
    rw [hb1.cell (p := ⟨w.heap.size, 0, none⟩) (by simp)]; simp
  refine ⟨World.cell?_setCell_same _ _ _ h0, Below.setCell (((Below.refl _ _).alloc (Nat.le_refl _) _).trans (hb1.mono (by simp))) (Nat.le_refl _) _, ?_⟩
  have := hb1.size
  simp [World.setCell] at this ⊢
  omega


theorem after_bits {w W w1 : World} {k : Int} {nq : Nat} (hck : W.cell? ⟨w.heap.size, 0, none⟩ = some (.int .i64 k)) (hbel : Below w.heap.size w W) (hlt : w.heap.size < W.heap.size) (hb1 : Below (W.drewN nq).heap.size (W.drewN nq) w1) :
    w1.cell? ⟨w.heap.size, 0, none⟩ = some (.int .i64 k) ∧ Below w.heap.size w w1 := by
  have e : (W.drewN nq).heap = W.heap := rfl
  refine ⟨?_, ?_⟩
  · rw [hb1.cell (p := ⟨w.heap.size, 0, none⟩) (by rw [e]; exact hlt)]; exact hck
  · exact (hbel.trans (show Below w.heap.size W (W.drewN nq) from ⟨rfl, rfl, rfl, Nat.le_refl _, fun _ _ => rfl⟩)).trans (hb1.mono (by rw [e]; omega))

theorem result_at (op : ByteArray) (a b r : Int) (w : World) (h : resI op.data.toList a b = r) :
    Calls Try.prog 15 #[.string op, .int .i64 a, .int .i64 b] w fun e w' => e = .returned (.int .i64 r) ∧ w' = w := by
  rw [← h]; exact result_any op a b w

theorem hide {p : Prop} (h : p) : Hid p := h
set_option maxRecDepth 100000 in
set_option maxHeartbeats 4000000 in
theorem laws_1 (a0 a1 a2 a3 : Int) (A B C NA NB AB NAB X BC D AC O  : Nat) (e f  : Int) (w : World) (hk : Hid (a0 % 2 = 0)) (hA : Hid (cutI 1 a1 = A)) (hB : Hid (cutI 1 a2 = B)) (hC : Hid (cutI 1 a3 = C))
    (F : Facts 1 A B C NA NB AB NAB X BC D AC O e f)  :
    Calls Try.prog 4 #[.int .i64 a0, .int .i64 a1, .int .i64 a2, .int .i64 a3] w fun e w' => e = .returned (.bool true) ∧ Below w.heap.size w w' := by
  have hef : (e + f != 1) = false := by have := F.ef; simp [this]
  have he1 := F.be.1
  have he2 := F.be.2
  have hf1 : 0 ≤ f := by have := F.ef; omega
  have hf2 : f ≤ 1 := by have := F.ef; omega
  go_enter Try.func4, Try.ntmps4
  go_wp2_with fail
  refine (reckoned_any _).mono ?_; rintro e w1 ⟨rfl, hb1⟩
  obtain ⟨hc1, hz1⟩ := bcell hb1
  go_wp2_with fail
  refine (pick_any a0 0 _ hk.out).mono ?_; rintro e w' ⟨rfl, rfl⟩
  go_wp2_with fail
  obtain ⟨hck, hbel, hsz⟩ := boxed 1 hb1
  clear hc1 hz1 hb1
  generalize w'.setCell ⟨w.heap.size, 0, none⟩ (.int .i64 1) = W at *
  go_quiet ((go_at_call 8; exact Calls.quiet_of_same (cut_any _ _ _)))
  rw [hA.out, hB.out, hC.out]
  go_wp2_with fail
  refine (bits_any 1 A _).mono ?_; rintro e w1 ⟨v, rfl, hown, hb1⟩
  have hIs := hide (isBits_owns hown)
  have R := after_bits hck hbel hsz hb1
  clear hck hbel hsz hb1 hown
  obtain ⟨hck, hbel⟩ := R
  go_wp2_with fail
  refine (ofbits_at 1 A A v _ hIs.out F.cut).mono ?_; rintro e w' ⟨rfl, rfl⟩
  clear hIs
  go_wp2_with fail
  refine (clo1 1 A NA _ _ hck (by have := F.bA; omega) (by have := F.bA; omega) F.na).mono ?_; rintro e w' ⟨rfl, rfl⟩
  go_wp2_with fail
  refine (clo1 1 NA A _ _ hck (by have := F.bNA; omega) (by have := F.bNA; omega) F.nna).mono ?_; rintro e w' ⟨rfl, rfl⟩
  go_wp2_with fail
  refine (clo2 ⟨#[61]⟩ 1 A B e _ _ hck F.eq).mono ?_; rintro e w' ⟨rfl, rfl⟩
  go_wp2_with fail
  refine (clo2 ⟨#[60, 62]⟩ 1 A B f _ _ hck F.ne).mono ?_; rintro e w' ⟨rfl, rfl⟩
  go_wp2_with fail
  refine (clo2 ⟨#[120, 111, 114]⟩ 1 A B X _ _ hck F.xor).mono ?_; rintro e w' ⟨rfl, rfl⟩
  go_wp2_with fail
  refine (clo2 ⟨#[120, 111, 114]⟩ 1 X B A _ _ hck F.xx).mono ?_; rintro e w' ⟨rfl, rfl⟩
  go_wp2_with fail
  refine (clo2 ⟨#[97, 110, 100]⟩ 1 A B AB _ _ hck F.and).mono ?_; rintro e w' ⟨rfl, rfl⟩
  go_wp2_with fail
  refine (clo1 1 AB NAB _ _ hck (by have := F.bAB; omega) (by have := F.bAB; omega) F.nab).mono ?_; rintro e w' ⟨rfl, rfl⟩
  go_wp2_with fail
  refine (clo1 1 A NA _ _ hck (by have := F.bA; omega) (by have := F.bA; omega) F.na).mono ?_; rintro e w' ⟨rfl, rfl⟩
  go_wp2_with fail
  refine (clo1 1 B NB _ _ hck (by have := F.bB; omega) (by have := F.bB; omega) F.nb).mono ?_; rintro e w' ⟨rfl, rfl⟩
  go_wp2_with fail
  refine (clo2 ⟨#[111, 114]⟩ 1 NA NB NAB _ _ hck F.ornn).mono ?_; rintro e w' ⟨rfl, rfl⟩
  go_wp2_with fail
  refine (clo2 ⟨#[111, 114]⟩ 1 B C BC _ _ hck F.or1).mono ?_; rintro e w' ⟨rfl, rfl⟩
  go_wp2_with fail
  refine (clo2 ⟨#[97, 110, 100]⟩ 1 A BC D _ _ hck F.and1).mono ?_; rintro e w' ⟨rfl, rfl⟩
  go_wp2_with fail
  refine (clo2 ⟨#[97, 110, 100]⟩ 1 A B AB _ _ hck F.and).mono ?_; rintro e w' ⟨rfl, rfl⟩
  go_wp2_with fail
  refine (clo2 ⟨#[97, 110, 100]⟩ 1 A C AC _ _ hck F.and2).mono ?_; rintro e w' ⟨rfl, rfl⟩
  go_wp2_with fail
  refine (clo2 ⟨#[111, 114]⟩ 1 AB AC D _ _ hck F.or2).mono ?_; rintro e w' ⟨rfl, rfl⟩
  go_wp2_with fail
  refine (clo2 ⟨#[120, 111, 114]⟩ 1 A B X _ _ hck F.xor).mono ?_; rintro e w' ⟨rfl, rfl⟩
  go_wp2_with fail
  refine (clo2 ⟨#[111, 114]⟩ 1 A B O _ _ hck F.or3).mono ?_; rintro e w' ⟨rfl, rfl⟩
  go_wp2_with fail
  refine (clo2 ⟨#[97, 110, 100]⟩ 1 A B AB _ _ hck F.and).mono ?_; rintro e w' ⟨rfl, rfl⟩
  go_wp2_with fail
  refine (clo1 1 AB NAB _ _ hck (by have := F.bAB; omega) (by have := F.bAB; omega) F.nab).mono ?_; rintro e w' ⟨rfl, rfl⟩
  go_wp2_with fail
  refine (clo2 ⟨#[97, 110, 100]⟩ 1 O NAB X _ _ hck F.and3).mono ?_; rintro e w' ⟨rfl, rfl⟩
  go_wp2_with fail
  refine (clo2 ⟨#[43]⟩ 1 A B 0 _ _ hck (twoI_no _ 1 A B (by decide))).mono ?_; rintro e w' ⟨rfl, rfl⟩
  go_wp2_with fail
  refine (result_at ⟨#[60]⟩ 1 1 0 _ (by decide)).mono ?_; rintro e w' ⟨rfl, rfl⟩
  go_wp2_with fail
  go_ret
  exact ⟨rfl, hbel⟩

set_option maxRecDepth 100000 in
set_option maxHeartbeats 4000000 in
theorem laws_2 (a0 a1 a2 a3 : Int) (A B C NA NB AB NAB X BC D AC O S T U V : Nat) (e f l g q : Int) (w : World) (hk : Hid (a0 % 2 = 1)) (hA : Hid (cutI 2 a1 = A)) (hB : Hid (cutI 2 a2 = B)) (hC : Hid (cutI 2 a3 = C))
    (F : Facts 2 A B C NA NB AB NAB X BC D AC O e f) (G : Facts2 A B C NA S T U V e l g q) :
    Calls Try.prog 4 #[.int .i64 a0, .int .i64 a1, .int .i64 a2, .int .i64 a3] w fun e w' => e = .returned (.bool true) ∧ Below w.heap.size w w' := by
  have hef : (e + f != 1) = false := by have := F.ef; simp [this]
  have he1 := F.be.1
  have he2 := F.be.2
  have hf1 : 0 ≤ f := by have := F.ef; omega
  have hf2 : f ≤ 1 := by have := F.ef; omega
  have hleg : (l + e + g != 1) = false := by have := G.leg; simp [this]
  have hl1 := G.bl.1
  have hl2 := G.bl.2
  have hg1 := G.bg.1
  have hg2 := G.bg.2
  go_enter Try.func4, Try.ntmps4
  go_wp2_with fail
  refine (reckoned_any _).mono ?_; rintro e w1 ⟨rfl, hb1⟩
  obtain ⟨hc1, hz1⟩ := bcell hb1
  go_wp2_with fail
  refine (pick_any a0 1 _ hk.out).mono ?_; rintro e w' ⟨rfl, rfl⟩
  go_wp2_with fail
  obtain ⟨hck, hbel, hsz⟩ := boxed 2 hb1
  clear hc1 hz1 hb1
  generalize w'.setCell ⟨w.heap.size, 0, none⟩ (.int .i64 2) = W at *
  go_quiet ((go_at_call 8; exact Calls.quiet_of_same (cut_any _ _ _)))
  rw [hA.out, hB.out, hC.out]
  go_wp2_with fail
  refine (bits_any 2 A _).mono ?_; rintro e w1 ⟨v, rfl, hown, hb1⟩
  have hIs := hide (isBits_owns hown)
  have R := after_bits hck hbel hsz hb1
  clear hck hbel hsz hb1 hown
  obtain ⟨hck, hbel⟩ := R
  go_wp2_with fail
  refine (ofbits_at 2 A A v _ hIs.out F.cut).mono ?_; rintro e w' ⟨rfl, rfl⟩
  clear hIs
  go_wp2_with fail
  refine (clo1 2 A NA _ _ hck (by have := F.bA; omega) (by have := F.bA; omega) F.na).mono ?_; rintro e w' ⟨rfl, rfl⟩
  go_wp2_with fail
  refine (clo1 2 NA A _ _ hck (by have := F.bNA; omega) (by have := F.bNA; omega) F.nna).mono ?_; rintro e w' ⟨rfl, rfl⟩
  go_wp2_with fail
  refine (clo2 ⟨#[61]⟩ 2 A B e _ _ hck F.eq).mono ?_; rintro e w' ⟨rfl, rfl⟩
  go_wp2_with fail
  refine (clo2 ⟨#[60, 62]⟩ 2 A B f _ _ hck F.ne).mono ?_; rintro e w' ⟨rfl, rfl⟩
  go_wp2_with fail
  refine (clo2 ⟨#[120, 111, 114]⟩ 2 A B X _ _ hck F.xor).mono ?_; rintro e w' ⟨rfl, rfl⟩
  go_wp2_with fail
  refine (clo2 ⟨#[120, 111, 114]⟩ 2 X B A _ _ hck F.xx).mono ?_; rintro e w' ⟨rfl, rfl⟩
  go_wp2_with fail
  refine (clo2 ⟨#[97, 110, 100]⟩ 2 A B AB _ _ hck F.and).mono ?_; rintro e w' ⟨rfl, rfl⟩
  go_wp2_with fail
  refine (clo1 2 AB NAB _ _ hck (by have := F.bAB; omega) (by have := F.bAB; omega) F.nab).mono ?_; rintro e w' ⟨rfl, rfl⟩
  go_wp2_with fail
  refine (clo1 2 A NA _ _ hck (by have := F.bA; omega) (by have := F.bA; omega) F.na).mono ?_; rintro e w' ⟨rfl, rfl⟩
  go_wp2_with fail
  refine (clo1 2 B NB _ _ hck (by have := F.bB; omega) (by have := F.bB; omega) F.nb).mono ?_; rintro e w' ⟨rfl, rfl⟩
  go_wp2_with fail
  refine (clo2 ⟨#[111, 114]⟩ 2 NA NB NAB _ _ hck F.ornn).mono ?_; rintro e w' ⟨rfl, rfl⟩
  go_wp2_with fail
  refine (clo2 ⟨#[111, 114]⟩ 2 B C BC _ _ hck F.or1).mono ?_; rintro e w' ⟨rfl, rfl⟩
  go_wp2_with fail
  refine (clo2 ⟨#[97, 110, 100]⟩ 2 A BC D _ _ hck F.and1).mono ?_; rintro e w' ⟨rfl, rfl⟩
  go_wp2_with fail
  refine (clo2 ⟨#[97, 110, 100]⟩ 2 A B AB _ _ hck F.and).mono ?_; rintro e w' ⟨rfl, rfl⟩
  go_wp2_with fail
  refine (clo2 ⟨#[97, 110, 100]⟩ 2 A C AC _ _ hck F.and2).mono ?_; rintro e w' ⟨rfl, rfl⟩
  go_wp2_with fail
  refine (clo2 ⟨#[111, 114]⟩ 2 AB AC D _ _ hck F.or2).mono ?_; rintro e w' ⟨rfl, rfl⟩
  go_wp2_with fail
  refine (clo2 ⟨#[120, 111, 114]⟩ 2 A B X _ _ hck F.xor).mono ?_; rintro e w' ⟨rfl, rfl⟩
  go_wp2_with fail
  refine (clo2 ⟨#[111, 114]⟩ 2 A B O _ _ hck F.or3).mono ?_; rintro e w' ⟨rfl, rfl⟩
  go_wp2_with fail
  refine (clo2 ⟨#[97, 110, 100]⟩ 2 A B AB _ _ hck F.and).mono ?_; rintro e w' ⟨rfl, rfl⟩
  go_wp2_with fail
  refine (clo1 2 AB NAB _ _ hck (by have := F.bAB; omega) (by have := F.bAB; omega) F.nab).mono ?_; rintro e w' ⟨rfl, rfl⟩
  go_wp2_with fail
  refine (clo2 ⟨#[97, 110, 100]⟩ 2 O NAB X _ _ hck F.and3).mono ?_; rintro e w' ⟨rfl, rfl⟩
  go_wp2_with fail
  refine (clo2 ⟨#[43]⟩ 2 A B S _ _ hck G.add).mono ?_; rintro e w' ⟨rfl, rfl⟩
  go_wp2_with fail
  refine (clo2 ⟨#[45]⟩ 2 S B A _ _ hck G.sub).mono ?_; rintro e w' ⟨rfl, rfl⟩
  go_wp2_with fail
  refine (clo2 ⟨#[60]⟩ 2 A B l _ _ hck G.lt).mono ?_; rintro e w' ⟨rfl, rfl⟩
  go_wp2_with fail
  refine (clo2 ⟨#[61]⟩ 2 A B e _ _ hck F.eq).mono ?_; rintro e w' ⟨rfl, rfl⟩
  go_wp2_with fail
  refine (clo2 ⟨#[62]⟩ 2 A B g _ _ hck G.gt).mono ?_; rintro e w' ⟨rfl, rfl⟩
  go_wp2_with fail
  refine (clo2 ⟨#[60, 61]⟩ 2 A B (1 - g) _ _ hck G.le).mono ?_; rintro e w' ⟨rfl, rfl⟩
  go_wp2_with fail
  refine (clo2 ⟨#[62]⟩ 2 A B g _ _ hck G.gt).mono ?_; rintro e w' ⟨rfl, rfl⟩
  go_wp2_with fail
  refine (clo2 ⟨#[62, 61]⟩ 2 A B q _ _ hck G.ge).mono ?_; rintro e w' ⟨rfl, rfl⟩
  go_wp2_with fail
  refine (clo2 ⟨#[60, 61]⟩ 2 B A q _ _ hck G.le').mono ?_; rintro e w' ⟨rfl, rfl⟩
  go_wp2_with fail
  refine (clo2 ⟨#[43]⟩ 2 A B S _ _ hck G.add).mono ?_; rintro e w' ⟨rfl, rfl⟩
  go_wp2_with fail
  refine (clo2 ⟨#[43]⟩ 2 S C T _ _ hck G.addSC).mono ?_; rintro e w' ⟨rfl, rfl⟩
  go_wp2_with fail
  refine (clo2 ⟨#[43]⟩ 2 B C U _ _ hck G.addBC).mono ?_; rintro e w' ⟨rfl, rfl⟩
  go_wp2_with fail
  refine (clo2 ⟨#[43]⟩ 2 A U T _ _ hck G.addAU).mono ?_; rintro e w' ⟨rfl, rfl⟩
  go_wp2_with fail
  refine (clo2 ⟨#[45]⟩ 2 0 A V _ _ hck G.sub0).mono ?_; rintro e w' ⟨rfl, rfl⟩
  go_wp2_with fail
  refine (clo1 2 A NA _ _ hck (by have := F.bA; omega) (by have := F.bA; omega) F.na).mono ?_; rintro e w' ⟨rfl, rfl⟩
  go_wp2_with fail
  refine (clo2 ⟨#[43]⟩ 2 NA 1 V _ _ hck G.addN).mono ?_; rintro e w' ⟨rfl, rfl⟩
  go_wp2_with fail
  go_ret
  exact ⟨rfl, hbel⟩

end Go.Proofs.Ytmoakccnjahfeaa
