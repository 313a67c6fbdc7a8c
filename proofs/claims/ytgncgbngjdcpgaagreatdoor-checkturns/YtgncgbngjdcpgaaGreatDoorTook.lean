/-
  CONTRACTS of took and want.
-/
import Derived.Test.YtgncgbngjdcpgaaGreatDoorLeaf
namespace Go.Proofs.YtgncgbngjdcpgaaGreatDoor
open Go.RowKit

set_option maxRecDepth 100000 in
set_option maxHeartbeats 1600000 in
theorem took_yes {w : World} {R T cap : Nat} {ts : List Tok} {k : Nat} (text : ByteArray) (h : Rd w R T cap ts k) (hl : k + 1 < ts.length) (he : (tx ts k == text.toList) = true) :
    Calls Tryz.prog 120 #[.pointer (some ⟨R, 0, none⟩), .string text] w fun e w' => e = .returned (.bool true) ∧ Rd w' R T cap ts (k + 1) ∧ Kept R w w' := by
  have q1 := fld1
  have hlen := h.fit.len
  have HR : Hid (Rd w R T cap ts k) := h
  have HL : Hid (k + 1 < ts.length) := hl
  have hk8 : k < 800 := by omega
  have hn : (!(tx ts k == text.toList)) = false := by rw [he]; rfl
  unfold tx at hn
  clear h hl hlen he
  go_enter Tryz.func120, Tryz.ntmps120
  go_wp2_with fail
  refine (now_at HR.out).mono ?_
  rintro e w1 ⟨rfl, hb⟩
  have HB := hide hb
  have r1 : w1.cell? ⟨R, 1, none⟩ = some (.int .i64 k) := by rw [blk_cell (HR.out.below hb).me]; rfl
  have r2 : w1.frozen? ⟨R, 1, none⟩ = false := blk_frozen (HR.out.below hb).me 1
  clear hb
  go_wp2_with fail
  go_ret
  exact ⟨rfl, (HR.out.below HB.out).step HL.out, (Kept.of HB.out).step 1 _⟩

set_option maxRecDepth 100000 in
set_option maxHeartbeats 1600000 in
theorem took_no {w : World} {R T cap : Nat} {ts : List Tok} {k : Nat} (text : ByteArray) (h : Rd w R T cap ts k) (he : (tx ts k == text.toList) = false) :
    Calls Tryz.prog 120 #[.pointer (some ⟨R, 0, none⟩), .string text] w fun e w' => e = .returned (.bool false) ∧ Rd w' R T cap ts k ∧ Below w.heap.size w w' := by
  have q1 := fld1
  have HR : Hid (Rd w R T cap ts k) := h
  have hn : (!(tx ts k == text.toList)) = true := by rw [he]; rfl
  unfold tx at hn
  clear h he
  go_enter Tryz.func120, Tryz.ntmps120
  go_wp2_with fail
  refine (now_at HR.out).mono ?_
  rintro e w1 ⟨rfl, hb⟩
  have HB := hide hb
  clear hb
  go_wp2_with fail
  go_ret
  exact ⟨rfl, HR.out.below HB.out, HB.out⟩

set_option maxRecDepth 100000 in
set_option maxHeartbeats 1600000 in
theorem want_at {w : World} {R T cap : Nat} {ts : List Tok} {k : Nat} (text : ByteArray) (hne : text.toList ≠ []) (h : Rd w R T cap ts k) :
    Calls Tryz.prog 83 #[.pointer (some ⟨R, 0, none⟩), .string text] w (Rds w R T cap ts (fun _ v _ => v = .tuple #[]) (wantP ts text.toList k)) := by
  have hnot : ∀ (x : Bool) (w : World), (Op.unary .not (.bool x)).run Tryz.prog w = .ok (.bool (!x)) w := fun _ _ => rfl
  cases he : (tx ts k == text.toList) with
  | true =>
    have hw : wantP ts text.toList k = .ok () (k + 1) := by simp only [wantP, he, if_true]
    rw [hw]
    have HE := hide he
    have HR : Hid (Rd w R T cap ts k) := h
    have HL := hide (h.fit.more h.lt he hne)
    clear h he hw hne
    go_enter Tryz.func83, Tryz.ntmps83
    go_wp2_with fail
    refine (took_yes text HR.out HL.out HE.out).mono ?_
    rintro e w1 ⟨rfl, hd, hk⟩
    have HD := hide hd
    have HK := hide hk
    clear hd hk
    go_wp2_with fail
    go_end0
    exact ⟨HK.out, HD.out, _, rfl, rfl⟩
  | false =>
    have hw : wantP ts text.toList k = .bad 3 (tk ts k).pos := by simp only [wantP, he, Bool.false_eq_true, if_false]
    rw [hw]
    have HE := hide he
    have HR : Hid (Rd w R T cap ts k) := h
    clear h he hw hne
    go_enter Tryz.func83, Tryz.ntmps83
    go_wp2_with fail
    refine (took_no text HR.out HE.out).mono ?_
    rintro e w1 ⟨rfl, hd, hb⟩
    have HD := hide hd
    have HB := hide hb
    clear hd hb
    go_wp2_with fail
    refine (wrong_at 3 HD.out).mono ?_
    rintro e w2 ⟨A, rfl, hA, hb⟩
    have HA := hide hA
    have HC := hide hb
    clear hA hb
    go_wp2_with fail
    exact ⟨rfl, (Kept.of HB.out).below HC.out, A, rfl, HA.out⟩

theorem lit_toList (l : List UInt8) : (⟨l.toArray⟩ : ByteArray).toList = l := by rw [ByteArray.toList_eq]
theorem yes_at {w : World} {R T cap : Nat} {ts : List Tok} {k : Nat} (l : List UInt8) (hne : l ≠ []) (h : Rd w R T cap ts k) (he : (tx ts k == l) = true) :
    Calls Tryz.prog 120 #[.pointer (some ⟨R, 0, none⟩), .string ⟨l.toArray⟩] w fun e w' => e = .returned (.bool true) ∧ Rd w' R T cap ts (k + 1) ∧ Kept R w w' :=
  took_yes ⟨l.toArray⟩ h (h.fit.more h.lt he hne) (by rw [lit_toList]; exact he)
theorem no_at {w : World} {R T cap : Nat} {ts : List Tok} {k : Nat} (l : List UInt8) (h : Rd w R T cap ts k) (he : (tx ts k == l) = false) :
    Calls Tryz.prog 120 #[.pointer (some ⟨R, 0, none⟩), .string ⟨l.toArray⟩] w fun e w' => e = .returned (.bool false) ∧ Rd w' R T cap ts k ∧ Kept R w w' :=
  (took_no ⟨l.toArray⟩ h (by rw [lit_toList]; exact he)).mono fun _ _ h => ⟨h.1, h.2.1, Kept.of h.2.2⟩
theorem need_at {w : World} {R T cap : Nat} {ts : List Tok} {k : Nat} (l : List UInt8) (hne : l ≠ []) (h : Rd w R T cap ts k) :
    Calls Tryz.prog 83 #[.pointer (some ⟨R, 0, none⟩), .string ⟨l.toArray⟩] w (Rds w R T cap ts (fun _ v _ => v = .tuple #[]) (wantP ts l k)) := by
  have := want_at ⟨l.toArray⟩ (by rw [lit_toList]; exact hne) h
  rw [lit_toList] at this
  exact this
end Go.Proofs.YtgncgbngjdcpgaaGreatDoor
