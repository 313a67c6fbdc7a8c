/-
  CONTRACTS of valueText, writeExpr, writeTwo, Text: how expressions are written.
-/
import Derived.Sort.Grow
import Derived.Lib.QuietBelow
import Derived.Deep.RegionHeld3
import Derived.Test.YtpblellbffmolaaGreatDoorBuild
import Derived.Test.YtpblellbffmolaaGreatDoorJPrt
import Derived.Test.YtpblellbffmolaaGreatDoorOne
import Derived.Test.YtpblellbffmolaaGreatDoorJWords
set_option linter.unusedSimpArgs false
set_option linter.unusedVariables false
namespace Go.Proofs.YtpblellbffmolaaGreatDoor
open Go.RowKit

abbrev Tab (w : World) : Prop := Lib.TabIs Tryz.prog w "internal/strconv.uint64pow10" .u64 Lib.pow10Tab
theorem below_grow (w : World) (q : Nat) (os : Array Obj) : Below w.heap.size w (Sort.grow (w.drewN q) os) :=
  ⟨rfl, rfl, rfl, by simp [Sort.grow], fun k hk => Array.getElem?_append_left (xs := w.heap) (ys := os) hk⟩

set_option maxRecDepth 100000 in
set_option maxHeartbeats 1600000 in
theorem valueText_at (ty n : Nat) (hn : n ≤ 1000000) (w : World) (ht : Tab w) :
    Calls Tryz.prog 46 #[.int .i64 ty, .int .i64 n] w fun e w' => e = .returned (.string ⟨(valP ty n).toArray⟩) ∧ Below w.heap.size w w' := by
  by_cases h1 : ty = 1
  · subst h1
    by_cases h0 : n = 0
    · subst h0
      go_enter Tryz.func46, Tryz.ntmps46
      go_wp2_with fail
      go_ret
      exact ⟨rfl, Below.refl _ _⟩
    · have hni : ((n : Int) != 0) = true := by simp; omega
      have HV : Hid (valP 1 n = [116, 114, 117, 101]) := by show _ = _; simp [valP, h0]
      go_enter Tryz.func46, Tryz.ntmps46
      go_wp2_with fail
      go_ret
      rw [HV.out]
      exact ⟨rfl, Below.refl _ _⟩
  · have hti : ((ty : Int) != 1) = true := by simp; omega
    have HV : Hid (valP ty n = Lib.itoa (n : Int)) := by
      show _ = _
      have : ¬ (n : Int) < 0 := by omega
      simp [valP, h1, Lib.itoa, this]
    have HI := hide (Tryz.strconv_Itoa (n : Int) (by omega) (by omega) w ht)
    go_enter Tryz.func46, Tryz.ntmps46
    go_wp2_with fail
    refine HI.out.mono ?_
    rintro e w1 ⟨rfl, q, os, rfl⟩
    go_wp2_with fail
    go_ret
    rw [HV.out]
    exact ⟨rfl, below_grow _ _ _⟩

/-- writing at a builder, by its bytes -/
theorem writes_at {B b : Nat} {l : List UInt8} (s : ByteArray) {w : World} (h : Lib.IsBuilder 64 5 B b (Lib.byteCells l) w) (hlen : l.length + s.size ≤ 140737488355328) (hBw : B ≤ w.heap.size) :
    Calls Tryz.prog 22 #[.pointer (some ⟨b, 0, none⟩), .string s] w fun e w' => e = .returned (.tuple #[.int .i64 s.size, .nilIface]) ∧ Lib.IsBuilder 64 5 B b (Lib.byteCells (l ++ s.data.toList)) w' ∧ Wrote B w w' := by
  refine (write_at B b (Lib.byteCells l) s w h (by rw [Lib.byteCells_length]; exact hlen) hBw).mono ?_
  rintro e w' ⟨rfl, h1, h2⟩
  refine ⟨rfl, .inr ?_, h2⟩
  rw [Lib.byteCells_append]
  exact h1

theorem isBuilder_below {B b : Nat} {bs : List Value} {w w' : World} (h : Lib.IsBuilder 64 5 B b bs w) (hb : Below w.heap.size w w') : Lib.IsBuilder 64 5 B b bs w' := by
  have carry : ∀ p, Lib.BuilderAt 64 5 B b p bs w → Lib.BuilderAt 64 5 B b p bs w' := by
    intro p ⟨h1, v, h2, h3, h4⟩
    refine ⟨h1, v, Below.blk hb h2, ⟨h3.1, ?_⟩, h4⟩
    rcases h3.2 with hn | ⟨g, cap, cur, hv, hg, hgg, rest⟩
    · exact .inl hn
    · exact .inr ⟨g, cap, cur, hv, hg, Below.blk hb hgg, rest⟩
  exact h.imp (carry _) (carry _)

def WriteOK (x : Ex) : Prop := ∀ (S : Nat → Prop) (w : World) (v : Value) (B b : Nat) (l : List UInt8) (least : Nat), IsEx S w x v → (∀ c, S c → c < B) → Lib.IsBuilder 64 5 B b (Lib.byteCells l) w → B ≤ w.heap.size → least ≤ 6 → l.length + (textP x least).length ≤ 140737488355328 → (∀ w', Below B w w' → Tab w') →
  Calls Tryz.prog 78 #[.pointer (some ⟨b, 0, none⟩), v, .int .i64 least] w fun e w' => e = .returned (.tuple #[]) ∧ Lib.IsBuilder 64 5 B b (Lib.byteCells (l ++ textP x least)) w' ∧ Wrote B w w'

set_option maxRecDepth 100000 in
set_option maxHeartbeats 3200000 in
theorem write_name (p : Nat) (s : ByteArray) : WriteOK (.name p s) := by
  intro S w v B b l least hx hS hb hBw hl6 hlen htab
  obtain ⟨X, rfl, hSX, hX⟩ := hx
  have hq : ∀ (A : Addr) (w : World), (binOp .eql 96 (.pointer (some A)) (.pointer none)).run Tryz.prog w = .ok (.bool false) w := fun _ _ => rfl
  have c0 : w.cell? ⟨X, 0, none⟩ = some (.int .i64 2) := by rw [blk_cell hX]; rfl
  have c4 : w.cell? ⟨X, 4, none⟩ = some (.string s) := by rw [blk_cell hX]; rfl
  have HB := hide hb
  have HL := hide (show l.length + s.size ≤ 140737488355328 by simpa [textP] using hlen)
  clear hS hSX hX hb hlen htab
  go_enter Tryz.func78, Tryz.ntmps78
  go_wp2_with fail
  refine (writes_at s HB.out HL.out hBw).mono ?_
  rintro e w1 ⟨rfl, h1, h2⟩
  have H1 := hide h1
  have H2 := hide h2
  clear h1 h2
  go_wp2_with fail
  go_end0
  exact ⟨rfl, H1.out, H2.out⟩

set_option maxRecDepth 100000 in
set_option maxHeartbeats 3200000 in
theorem write_num (p n ty : Nat) (hn : n ≤ 1000000) : WriteOK (.num p n ty) := by
  intro S w v B b l least hx hS hb hBw hl6 hlen htab
  obtain ⟨X, rfl, hSX, hX⟩ := hx
  have hq : ∀ (A : Addr) (w : World), (binOp .eql 96 (.pointer (some A)) (.pointer none)).run Tryz.prog w = .ok (.bool false) w := fun _ _ => rfl
  have c0 : w.cell? ⟨X, 0, none⟩ = some (.int .i64 1) := by rw [blk_cell hX]; rfl
  have c2 : w.cell? ⟨X, 2, none⟩ = some (.int .i64 n) := by rw [blk_cell hX]; rfl
  have c3 : w.cell? ⟨X, 3, none⟩ = some (.int .i64 ty) := by rw [blk_cell hX]; rfl
  have HB := hide hb
  have HL := hide (show l.length + (valP ty n).length ≤ 140737488355328 by simpa [textP] using hlen)
  have HXB := hide (hS X hSX)
  have HV := hide fun w' h => valueText_at ty n hn w' (htab w' h)
  clear hS hSX hX hb hlen htab
  go_enter Tryz.func78, Tryz.ntmps78
  go_wp2_with fail
  go_region_held3 (fun w' => w'.cell? ⟨X, 2, none⟩ = some (.int .i64 n) ∧ w'.cell? ⟨X, 3, none⟩ = some (.int .i64 ty)) (first | exact ⟨d2, d3⟩ | go_keep) ((first | (go_at_call 46; refine (HV.out w.drew ((Below.refl B w).drew)).mono ?_; rintro e w1 ⟨rfl, h1⟩; have H1 := hide (Below.step ((Below.refl w.heap.size w).drew) h1); have d2 : w1.cell? ⟨X, 2, none⟩ = some (.int .i64 n) := (H1.out.cell (cell_lt c2)).trans c2; have d3 : w1.cell? ⟨X, 3, none⟩ = some (.int .i64 ty) := (H1.out.cell (cell_lt c3)).trans c3; have HB1 := hide (isBuilder_below HB.out H1.out); clear h1) | (go_at_call 22; refine (writes_at ⟨(valP ty n).toArray⟩ HB1.out (by simpa [ByteArray.size] using HL.out) (Nat.le_trans hBw H1.out.size)).mono ?_; rintro e w2 ⟨rfl, h2, h3⟩; have H2 := hide h2; have H3 := hide h3; have d2 : w2.cell? ⟨X, 2, none⟩ = some (.int .i64 n) := (h3.cell HXB.out).trans d2; have d3 : w2.cell? ⟨X, 3, none⟩ = some (.int .i64 ty) := (h3.cell HXB.out).trans d3; clear h2 h3)))
  go_wp2_with fail
  go_end0
  exact ⟨rfl, H2.out, (Wrote.of H1.out hBw).trans H3.out⟩

set_option maxRecDepth 100000 in
set_option maxHeartbeats 3200000 in
theorem write_field (p : Nat) (s g : ByteArray) (hs1 : s.size ≤ 1000000) (hg1 : g.size ≤ 1000000) : WriteOK (.field p s g) := by
  intro S w v B b l least hx hS hb hBw hl6 hlen htab
  obtain ⟨X, rfl, hSX, hX⟩ := hx
  have hq : ∀ (A : Addr) (w : World), (binOp .eql 96 (.pointer (some A)) (.pointer none)).run Tryz.prog w = .ok (.bool false) w := fun _ _ => rfl
  have c0 : w.cell? ⟨X, 0, none⟩ = some (.int .i64 3) := by rw [blk_cell hX]; rfl
  have c4 : w.cell? ⟨X, 4, none⟩ = some (.string s) := by rw [blk_cell hX]; rfl
  have c5 : w.cell? ⟨X, 5, none⟩ = some (.string g) := by rw [blk_cell hX]; rfl
  have HB := hide hb
  have HL := hide (show l.length + (s ++ ⟨#[46]⟩ ++ g).size ≤ 140737488355328 by simp [textP] at hlen; have e1 : (⟨#[46]⟩ : ByteArray).size = 1 := rfl; rw [ByteArray.size_append, ByteArray.size_append, e1]; omega)
  have hsz : (s ++ ⟨#[46]⟩ : ByteArray).size = s.size + 1 := by rw [ByteArray.size_append]; rfl
  have hcat1 : ∀ w, (Op.stringOp .add s ⟨#[46]⟩).run Tryz.prog w = .ok (.string (s ++ ⟨#[46]⟩)) w := fun w => run_string_add_sum w _ _ (by have e46 : (⟨#[46]⟩ : ByteArray).size = 1 := rfl; rw [e46]; omega)
  have hcat2 : ∀ w, (Op.stringOp .add (s ++ ⟨#[46]⟩) g).run Tryz.prog w = .ok (.string (s ++ ⟨#[46]⟩ ++ g)) w := fun w => run_string_add_sum w _ _ (by rw [hsz]; omega)
  clear hsz
  have HE := hide (show (s ++ ⟨#[46]⟩ ++ g : ByteArray).data.toList = textP (.field p s g) least by simp [textP])
  have HXB := hide (hS X hSX)
  clear hS hSX hX hb hlen htab
  go_enter Tryz.func78, Tryz.ntmps78
  go_wp2_with fail
  clear c0
  go_region_held3 (fun w' => w'.cell? ⟨X, 4, none⟩ = some (.string s) ∧ w'.cell? ⟨X, 5, none⟩ = some (.string g)) (first | exact ⟨d4, d5⟩ | go_keep) ((go_at_call 22; refine (writes_at _ (isBuilder_below HB.out ((Below.refl w.heap.size w).drew)) HL.out hBw).mono ?_; rintro e w2 ⟨rfl, h2, h3⟩; have H2 := hide h2; have H3 := hide h3; have d4 : w2.cell? ⟨X, 4, none⟩ = some (.string s) := (h3.cell HXB.out).trans c4; have d5 : w2.cell? ⟨X, 5, none⟩ = some (.string g) := (h3.cell HXB.out).trans c5; clear h2 h3))
  go_wp2_with fail
  go_end0
  rw [← HE.out]
  exact ⟨rfl, H2.out, (Wrote.of ((Below.refl w.heap.size w).drew) hBw).trans H3.out⟩

set_option maxRecDepth 100000 in
set_option maxHeartbeats 3200000 in
theorem write_not (p : Nat) (x : Ex) (ih : WriteOK x) : WriteOK (.not p x) := by
  intro S w v B b l least hx hS hb hBw hl6 hlen htab
  obtain ⟨X, a, rfl, hSX, hX, hxa⟩ := hx
  obtain ⟨Q, rfl⟩ := hxa.ptr
  have hq : ∀ (A : Addr) (w : World), (binOp .eql 96 (.pointer (some A)) (.pointer none)).run Tryz.prog w = .ok (.bool false) w := fun _ _ => rfl
  have c0 : w.cell? ⟨X, 0, none⟩ = some (.int .i64 4) := by rw [blk_cell hX]; rfl
  have c7 : w.cell? ⟨X, 7, none⟩ = some (.pointer (some ⟨Q, 0, none⟩)) := by rw [blk_cell hX]; rfl
  have HB := hide hb
  have HL := hide (show l.length + 4 + (textP x 6).length ≤ 140737488355328 by simp [textP] at hlen; omega)
  have HXB := hide (hS X hSX)
  have HS := hide hS
  have HX := hide hxa
  have HTB := hide htab
  have IH := hide ih
  clear hS hSX hX hb hlen htab hxa ih
  go_enter Tryz.func78, Tryz.ntmps78
  go_wp2_with fail
  refine (writes_at ⟨#[110, 111, 116, 32]⟩ HB.out (by have := HL.out; show l.length + 4 ≤ _; omega) hBw).mono ?_
  rintro e w1 ⟨rfl, h1, h2⟩
  have H1 := hide h1
  have H2 := hide h2
  have d7 : w1.cell? ⟨X, 7, none⟩ = some (.pointer (some ⟨Q, 0, none⟩)) := (h2.cell HXB.out).trans c7
  clear h1 h2
  go_wp2_with fail
  refine (IH.out S w1 _ B b _ 6 (HX.out.same fun c h1 _ => H2.out.block c (HS.out c h1)) HS.out H1.out (Nat.le_trans hBw H2.out.size) (Nat.le_refl _) (by have := HL.out; simp; omega) (fun w' h => HTB.out w' (H2.out.below.trans h))).mono ?_
  rintro e w2 ⟨rfl, h3, h4⟩
  have H3 := hide h3
  have H4 := hide (H2.out.trans h4)
  clear h3 h4
  go_wp2_with fail
  go_end0
  refine ⟨rfl, ?_, H4.out⟩
  have := H3.out
  simpa [textP] using this

set_option maxRecDepth 100000 in
set_option maxHeartbeats 3200000 in
theorem write_two (p : Nat) (op : ByteArray) (x y : Ex) (ho1 : op.size ≤ 1000000) (hlv : levelN op.toList ≤ 5) (ihx : WriteOK x) (ihy : WriteOK y) (S : Nat → Prop) (w : World) (v : Value) (B b : Nat) (l : List UInt8) (least : Nat) (hx : IsEx S w (.bin p op x y) v) (hS : ∀ c, S c → c < B) (hb : Lib.IsBuilder 64 5 B b (Lib.byteCells l) w) (hBw : B ≤ w.heap.size) (hl6 : least ≤ 6) (hlen : l.length + (textP (.bin p op x y) least).length ≤ 140737488355328) (htab : ∀ w', Below B w w' → Tab w') :
    Calls Tryz.prog 101 #[.pointer (some ⟨b, 0, none⟩), v, .int .i64 least] w fun e w' => e = .returned (.tuple #[]) ∧ Lib.IsBuilder 64 5 B b (Lib.byteCells (l ++ textP (.bin p op x y) least)) w' ∧ Wrote B w w' := by
  obtain ⟨X, a, c, rfl, hSX, hX, hxa, hyc⟩ := hx
  obtain ⟨Q, rfl⟩ := hxa.ptr
  obtain ⟨U, rfl⟩ := hyc.ptr
  have c6 : w.cell? ⟨X, 6, none⟩ = some (.string op) := by rw [blk_cell hX]; rfl
  have c7 : w.cell? ⟨X, 7, none⟩ = some (.pointer (some ⟨Q, 0, none⟩)) := by rw [blk_cell hX]; rfl
  have c8 : w.cell? ⟨X, 8, none⟩ = some (.pointer (some ⟨U, 0, none⟩)) := by rw [blk_cell hX]; rfl
  have HB := hide hb
  have HXB := hide (hS X hSX)
  have HS := hide hS
  have HXA := hide hxa
  have HYC := hide hyc
  have HTB := hide htab
  have IHX := hide ihx
  have IHY := hide ihy
  have HLV := hide (level_at op w)
  have HC6 := hide c6
  have HC7 := hide c7
  have HC8 := hide c8
  have e1 : (⟨#[32]⟩ : ByteArray).size = 1 := rfl
  have HE := hide (show (⟨#[32]⟩ ++ op ++ ⟨#[32]⟩ : ByteArray).data.toList = [32] ++ op.data.toList ++ [32] by simp)
  have HSZ := hide (show (⟨#[32]⟩ ++ op ++ ⟨#[32]⟩ : ByteArray).size = op.size + 2 by rw [ByteArray.size_append, ByteArray.size_append, e1]; omega)
  have hoz : op.data.toList.length = op.size := Array.length_toList
  have HT : Hid (∀ n, textP (.bin p op x y) n = (if levelN op.toList < n then [40] else []) ++ textP x (levelN op.toList) ++ ([32] ++ op.data.toList ++ [32]) ++ textP y (levelN op.toList + 1) ++ (if levelN op.toList < n then [41] else [])) := fun n => rfl
  rw [HT.out] at hlen ⊢
  generalize levelN op.toList = lv at *
  have HOZ := hide hoz
  clear hS hSX hX hb htab hxa hyc ihx ihy e1 hoz
  by_cases hp : lv < least
  · have hpi : (lv : Int) < (least : Int) := by omega
    rw [if_pos hp, if_pos hp] at hlen ⊢
    have HL := hide hlen
    clear hlen
    go_enter Tryz.func101, Tryz.ntmps101
    go_wp2_with fail
    refine HLV.out.mono ?_
    rintro e w0 ⟨rfl, rfl⟩
    go_wp2_with fail
    refine (writes_at ⟨#[40]⟩ HB.out (by have := HL.out; have e2 : (⟨#[40]⟩ : ByteArray).size = 1 := rfl; rw [e2]; simp only [HE.out, List.length_append, List.length_cons, List.length_nil, HOZ.out, HSZ.out] at this ⊢; omega) hBw).mono ?_
    rintro e w1 ⟨rfl, hb1, hs1⟩
    have HB1 := hide hb1
    have HS1 := hide hs1
    have d6_w1 : w1.cell? ⟨X, 6, none⟩ = some (.string op) := (HS1.out.cell HXB.out).trans HC6.out
    have d7_w1 : w1.cell? ⟨X, 7, none⟩ = some (.pointer (some ⟨Q, 0, none⟩)) := (HS1.out.cell HXB.out).trans HC7.out
    have d8_w1 : w1.cell? ⟨X, 8, none⟩ = some (.pointer (some ⟨U, 0, none⟩)) := (HS1.out.cell HXB.out).trans HC8.out
    clear hb1 hs1 c6 c7 c8
    go_wp2_with fail
    refine (IHX.out S w1 _ B b _ lv (HXA.out.same fun c h1 _ => HS1.out.block c (HS.out c h1)) HS.out HB1.out (Nat.le_trans hBw HS1.out.size) (by omega) (by have := HL.out; simp only [HE.out, List.length_append, List.length_cons, List.length_nil, HOZ.out] at this ⊢; omega) (fun w' h => HTB.out w' (HS1.out.below.trans h))).mono ?_
    rintro e w2 ⟨rfl, hb2, hs2⟩
    have HB2 := hide hb2
    have HS2 := hide (HS1.out.trans hs2)
    have d6_w2 : w2.cell? ⟨X, 6, none⟩ = some (.string op) := (HS2.out.cell HXB.out).trans HC6.out
    have d7_w2 : w2.cell? ⟨X, 7, none⟩ = some (.pointer (some ⟨Q, 0, none⟩)) := (HS2.out.cell HXB.out).trans HC7.out
    have d8_w2 : w2.cell? ⟨X, 8, none⟩ = some (.pointer (some ⟨U, 0, none⟩)) := (HS2.out.cell HXB.out).trans HC8.out
    clear hb2 hs2 d6_w1 d7_w1 d8_w1
    go_wp2_with fail
    refine (writes_at _ HB2.out (by have := HL.out; simp only [HE.out, List.length_append, List.length_cons, List.length_nil, HOZ.out, HSZ.out] at this ⊢; omega) (Nat.le_trans hBw HS2.out.size)).mono ?_
    rintro e w3 ⟨rfl, hb3, hs3⟩
    have HB3 := hide hb3
    have HS3 := hide (HS2.out.trans hs3)
    have d6_w3 : w3.cell? ⟨X, 6, none⟩ = some (.string op) := (HS3.out.cell HXB.out).trans HC6.out
    have d7_w3 : w3.cell? ⟨X, 7, none⟩ = some (.pointer (some ⟨Q, 0, none⟩)) := (HS3.out.cell HXB.out).trans HC7.out
    have d8_w3 : w3.cell? ⟨X, 8, none⟩ = some (.pointer (some ⟨U, 0, none⟩)) := (HS3.out.cell HXB.out).trans HC8.out
    clear hb3 hs3 d6_w2 d7_w2 d8_w2
    go_wp2_with fail
    rw [show ((lv : Int) + 1) = ((lv + 1 : Nat) : Int) by omega]
    refine (IHY.out S w3 _ B b _ (lv + 1) (HYC.out.same fun c h1 _ => HS3.out.block c (HS.out c h1)) HS.out HB3.out (Nat.le_trans hBw HS3.out.size) (by omega) (by have := HL.out; simp only [HE.out, List.length_append, List.length_cons, List.length_nil, HOZ.out] at this ⊢; omega) (fun w' h => HTB.out w' (HS3.out.below.trans h))).mono ?_
    rintro e w4 ⟨rfl, hb4, hs4⟩
    have HB4 := hide hb4
    have HS4 := hide (HS3.out.trans hs4)
    have d6_w4 : w4.cell? ⟨X, 6, none⟩ = some (.string op) := (HS4.out.cell HXB.out).trans HC6.out
    have d7_w4 : w4.cell? ⟨X, 7, none⟩ = some (.pointer (some ⟨Q, 0, none⟩)) := (HS4.out.cell HXB.out).trans HC7.out
    have d8_w4 : w4.cell? ⟨X, 8, none⟩ = some (.pointer (some ⟨U, 0, none⟩)) := (HS4.out.cell HXB.out).trans HC8.out
    clear hb4 hs4 d6_w3 d7_w3 d8_w3
    go_wp2_with fail
    refine (writes_at ⟨#[41]⟩ HB4.out (by have := HL.out; have e2 : (⟨#[41]⟩ : ByteArray).size = 1 := rfl; rw [e2]; simp only [HE.out, List.length_append, List.length_cons, List.length_nil, HOZ.out, HSZ.out] at this ⊢; omega) (Nat.le_trans hBw HS4.out.size)).mono ?_
    rintro e w5 ⟨rfl, hb5, hs5⟩
    have HB5 := hide hb5
    have HS5 := hide (HS4.out.trans hs5)
    have d6_w5 : w5.cell? ⟨X, 6, none⟩ = some (.string op) := (HS5.out.cell HXB.out).trans HC6.out
    have d7_w5 : w5.cell? ⟨X, 7, none⟩ = some (.pointer (some ⟨Q, 0, none⟩)) := (HS5.out.cell HXB.out).trans HC7.out
    have d8_w5 : w5.cell? ⟨X, 8, none⟩ = some (.pointer (some ⟨U, 0, none⟩)) := (HS5.out.cell HXB.out).trans HC8.out
    clear hb5 hs5 d6_w4 d7_w4 d8_w4
    go_wp2_with fail
    go_end0
    refine ⟨rfl, ?_, HS5.out⟩
    have := HB5.out
    rw [HE.out] at this
    simpa using this
  · have hpi : ¬ (lv : Int) < (least : Int) := by omega
    rw [if_neg hp, if_neg hp] at hlen ⊢
    have HL := hide hlen
    clear hlen
    go_enter Tryz.func101, Tryz.ntmps101
    go_wp2_with fail
    refine HLV.out.mono ?_
    rintro e w0 ⟨rfl, rfl⟩
    go_wp2_with fail
    refine (IHX.out S w0 _ B b _ lv HXA.out HS.out HB.out hBw (by omega) (by have := HL.out; simp only [HE.out, List.length_append, List.length_cons, List.length_nil, HOZ.out] at this ⊢; omega) HTB.out).mono ?_
    rintro e w1 ⟨rfl, hb1, hs1⟩
    have HB1 := hide hb1
    have HS1 := hide hs1
    have d6_w1 : w1.cell? ⟨X, 6, none⟩ = some (.string op) := (HS1.out.cell HXB.out).trans HC6.out
    have d7_w1 : w1.cell? ⟨X, 7, none⟩ = some (.pointer (some ⟨Q, 0, none⟩)) := (HS1.out.cell HXB.out).trans HC7.out
    have d8_w1 : w1.cell? ⟨X, 8, none⟩ = some (.pointer (some ⟨U, 0, none⟩)) := (HS1.out.cell HXB.out).trans HC8.out
    clear hb1 hs1 c6 c7 c8
    go_wp2_with fail
    refine (writes_at _ HB1.out (by have := HL.out; simp only [HE.out, List.length_append, List.length_cons, List.length_nil, HOZ.out, HSZ.out] at this ⊢; omega) (Nat.le_trans hBw HS1.out.size)).mono ?_
    rintro e w2 ⟨rfl, hb2, hs2⟩
    have HB2 := hide hb2
    have HS2 := hide (HS1.out.trans hs2)
    have d6_w2 : w2.cell? ⟨X, 6, none⟩ = some (.string op) := (HS2.out.cell HXB.out).trans HC6.out
    have d7_w2 : w2.cell? ⟨X, 7, none⟩ = some (.pointer (some ⟨Q, 0, none⟩)) := (HS2.out.cell HXB.out).trans HC7.out
    have d8_w2 : w2.cell? ⟨X, 8, none⟩ = some (.pointer (some ⟨U, 0, none⟩)) := (HS2.out.cell HXB.out).trans HC8.out
    clear hb2 hs2 d6_w1 d7_w1 d8_w1
    go_wp2_with fail
    rw [show ((lv : Int) + 1) = ((lv + 1 : Nat) : Int) by omega]
    refine (IHY.out S w2 _ B b _ (lv + 1) (HYC.out.same fun c h1 _ => HS2.out.block c (HS.out c h1)) HS.out HB2.out (Nat.le_trans hBw HS2.out.size) (by omega) (by have := HL.out; simp only [HE.out, List.length_append, List.length_cons, List.length_nil, HOZ.out] at this ⊢; omega) (fun w' h => HTB.out w' (HS2.out.below.trans h))).mono ?_
    rintro e w3 ⟨rfl, hb3, hs3⟩
    have HB3 := hide hb3
    have HS3 := hide (HS2.out.trans hs3)
    have d6_w3 : w3.cell? ⟨X, 6, none⟩ = some (.string op) := (HS3.out.cell HXB.out).trans HC6.out
    have d7_w3 : w3.cell? ⟨X, 7, none⟩ = some (.pointer (some ⟨Q, 0, none⟩)) := (HS3.out.cell HXB.out).trans HC7.out
    have d8_w3 : w3.cell? ⟨X, 8, none⟩ = some (.pointer (some ⟨U, 0, none⟩)) := (HS3.out.cell HXB.out).trans HC8.out
    clear hb3 hs3 d6_w2 d7_w2 d8_w2
    go_wp2_with fail
    go_end0
    refine ⟨rfl, ?_, HS3.out⟩
    have := HB3.out
    rw [HE.out] at this
    simpa using this

set_option maxRecDepth 100000 in
set_option maxHeartbeats 3200000 in
theorem write_bin (p : Nat) (op : ByteArray) (x y : Ex) (ho1 : op.size ≤ 1000000) (hlv : levelN op.toList ≤ 5) (ihx : WriteOK x) (ihy : WriteOK y) : WriteOK (.bin p op x y) := by
  intro S w v B b l least hx hS hb hBw hl6 hlen htab
  have HW := hide (write_two p op x y ho1 hlv ihx ihy S w v B b l least hx hS hb hBw hl6 hlen htab)
  obtain ⟨X, a, c, rfl, hSX, hX, hxa, hyc⟩ := hx
  have hq : ∀ (A : Addr) (w : World), (binOp .eql 96 (.pointer (some A)) (.pointer none)).run Tryz.prog w = .ok (.bool false) w := fun _ _ => rfl
  have c0 : w.cell? ⟨X, 0, none⟩ = some (.int .i64 5) := by rw [blk_cell hX]; rfl
  clear hS hSX hX hxa hyc hb hlen htab
  go_enter Tryz.func78, Tryz.ntmps78
  go_wp2_with fail
  refine HW.out.mono ?_
  rintro e w1 ⟨rfl, h1, h2⟩
  have H1 := hide h1
  have H2 := hide h2
  clear h1 h2
  go_wp2_with fail
  go_end0
  exact ⟨rfl, H1.out, H2.out⟩
end Go.Proofs.YtpblellbffmolaaGreatDoor
