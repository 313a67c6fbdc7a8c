/-
  CONTRACT of rest of the reference's reader: what stands behind if, or elsif.
-/
import Derived.Test.YtlbgdoajaplabaaGreatDoorRCall
import Derived.Test.YtlbgdoajaplabaaGreatDoorBranch
namespace Go.Proofs.YtlbgdoajaplabaaGreatDoor
open Go.RowKit
set_option linter.unusedSimpArgs false
set_option linter.unusedVariables false

/-- all blocks but two are as they were -/
structure Kept2 (R S : Nat) (w w' : World) : Prop where
  os : w'.os = w.os
  tape : w'.tape = w.tape
  output : w'.output = w.output
  size : w.heap.size ≤ w'.heap.size
  block : ∀ k, k < w.heap.size → k ≠ R → k ≠ S → w'.heap[k]? = w.heap[k]?
theorem Kept2.refl (R S : Nat) (w : World) : Kept2 R S w w := ⟨rfl, rfl, rfl, Nat.le_refl _, fun _ _ _ _ => rfl⟩
theorem Kept2.kept {R S : Nat} {w a b : World} (h : Kept2 R S w a) (k : Kept R a b) : Kept2 R S w b :=
  ⟨k.os.trans h.os, k.tape.trans h.tape, k.output.trans h.output, Nat.le_trans h.size k.size, fun i hi h1 h2 => (k.block i (Nat.lt_of_lt_of_le hi h.size) h1).trans (h.block i hi h1 h2)⟩
theorem Kept2.set {R S : Nat} {w a : World} (h : Kept2 R S w a) (i : Nat) (v : Value) : Kept2 R S w (a.setCell ⟨S, i, none⟩ v) :=
  ⟨h.os, h.tape, h.output, by simp only [World.setCell, Array.size_modify]; exact h.size, fun k hk h1 h2 => (Below.heap_setCell a ⟨S, i, none⟩ v k h2).trans (h.block k hk h1 h2)⟩
/-- another local one may turn, too -/
theorem Kept2.fresh {R S X : Nat} {w a b : World} (h : Kept2 R S w a) (k : Kept2 R X a b) (hX : w.heap.size ≤ X) : Kept2 R S w b :=
  ⟨k.os.trans h.os, k.tape.trans h.tape, k.output.trans h.output, Nat.le_trans h.size k.size, fun i hi h1 h2 => (k.block i (Nat.lt_of_lt_of_le hi h.size) h1 (by omega)).trans (h.block i hi h1 h2)⟩
theorem Kept.fresh {R X : Nat} {w a b : World} (h : Kept R w a) (k : Kept2 R X a b) (hX : w.heap.size ≤ X) : Kept R w b :=
  ⟨k.os.trans h.os, k.tape.trans h.tape, k.output.trans h.output, Nat.le_trans h.size k.size, fun i hi h1 => (k.block i (Nat.lt_of_lt_of_le hi h.size) h1 (by omega)).trans (h.block i hi h1)⟩

def RBodyOK (f : Nat) : Prop := ∀ (w : World) (R T : Nat) (ts : List Tok) (deep k : Nat), Rr w R T ts k 0 (-1) → deep ≤ 8 → bodyP ts f deep k [] ≠ .out →
  Calls Tryz.prog 18 #[.pointer (some ⟨R, 0, none⟩), .int .i64 deep] w (Rfs w R T ts (fun w' v l => IsSts (From w.heap.size) w' l v) isL (bodyP ts f deep k []))

/-- what is told of a rest -/
def Rested (w : World) (R T S : Nat) (ts : List Tok) (pos : Nat) (r : Res (Ex × List St × List St)) (e : Ending) (w' : World) : Prop :=
  e = .returned (.tuple #[]) ∧ Kept2 R S w w' ∧ Rst w' R T ts r.un ∧ ∃ x t u : Value, isP x ∧ isL t ∧ isL u ∧ w'.heap[S]? = some (stObj 2 pos ⟨#[]⟩ x (.slice none 0 0) 0 t u) ∧
    ∀ q k', r = .ok q k' → IsEx (From w.heap.size) w' q.1 x ∧ IsSts (From w.heap.size) w' q.2.1 t ∧ IsSts (From w.heap.size) w' q.2.2 u
def RRestOK (f : Nat) : Prop := ∀ (w : World) (R T S : Nat) (ts : List Tok) (deep k pos : Nat), Rr w R T ts k 0 (-1) → w.heap[S]? = some (stZero pos) → S ≠ R → S ≠ T → 12 ≤ S → deep ≤ 8 → restP ts f deep k ≠ .out →
  Calls Tryz.prog 72 #[.pointer (some ⟨R, 0, none⟩), .pointer (some ⟨S, 0, none⟩), .int .i64 deep] w (Rested w R T S ts pos (restP ts f deep k))

set_option maxRecDepth 100000 in
set_option maxHeartbeats 3200000 in
theorem rbody_bad {w : World} {R T : Nat} {ts : List Tok} {deep : Nat} {er : Int} {p : Nat} (h : Rst w R T ts (.bad er p)) :
    Calls Tryz.prog 18 #[.pointer (some ⟨R, 0, none⟩), .int .i64 deep] w fun e w' => e = .returned (.slice none 0 0) ∧ Rst w' R T ts (.bad er p) ∧ Kept R w w' := by
  have HR := hide h
  clear h
  go_enter Tryz.func18, Tryz.ntmps18
  go_wp2_with fail
  go_loopw [5] (fun v wr => v = .slice none 0 0 ∧ Hid (Rst wr R T ts (.bad er p)) ∧ Hid (Kept R w wr)) (fun _ _ => 0)
  case atStart => exact ⟨rfl, HR, Kept.refl R w⟩
  case round =>
    obtain ⟨rfl, hs, hk⟩ := hrel
    go_wp2_with fail
    refine (rok_bad hs.out).mono ?_
    rintro e w1 ⟨rfl, hb⟩
    have HB := hide hb
    clear hb
    go_wp2_with fail
    go_ret
    exact ⟨rfl, Rst.below HB.out hs.out, hk.out.below HB.out⟩

theorem rbody_any (f : Nat) (ih : RBodyOK f) {w : World} {R T : Nat} {ts : List Tok} {deep : Nat} {r : Res Unit} (h : Rst w R T ts r) (hd : deep ≤ 8) (hout : (r.bind fun _ k => bodyP ts f deep k []) ≠ .out) :
    Calls Tryz.prog 18 #[.pointer (some ⟨R, 0, none⟩), .int .i64 deep] w (Rfs w R T ts (fun w' v l => IsSts (From w.heap.size) w' l v) isL (r.bind fun _ k => bodyP ts f deep k [])) := by
  cases r with
  | out => exact h.elim
  | bad er p =>
    refine (rbody_bad h).mono ?_
    rintro e w' ⟨rfl, hs, hk⟩
    exact Rfs.bad rfl hk hs ⟨_, _, _, rfl⟩
  | ok u k => exact ih w R T ts deep k h hd hout

/-- what is read, step by step -/
def r3P (ts : List Tok) (f deep k : Nat) : Res (List St) := (mustR ts [116, 104, 101, 110] (twoP ts f 1 0 k).un).bind fun _ k2 => bodyP ts f (deep + 1) k2 []
def restG (ts : List Tok) (f deep : Nat) (x : Ex) (th : List St) (k3 : Nat) : Res (Ex × List St × List St) :=
  if tx ts k3 == [101, 108, 115, 105, 102] then (restP ts f (deep + 1) (k3 + 1)).bind fun q k4 => .ok (x, th, [.cond (tk ts k3).pos q.1 q.2.1 q.2.2]) k4
  else if tx ts k3 == [101, 108, 115, 101] then (bodyP ts f (deep + 1) (k3 + 1) []).bind fun el k4 => .ok (x, th, el) k4
  else .ok (x, th, []) k3
theorem rest_split (ts : List Tok) (f deep k : Nat) (hd : ¬ 8 ≤ deep) :
    (∃ er p, r3P ts f deep k = .bad er p ∧ restP ts (f + 1) deep k = .bad er p) ∨ (∃ x k1 th k3, twoP ts f 1 0 k = .ok x k1 ∧ r3P ts f deep k = .ok th k3 ∧ restP ts (f + 1) deep k = restG ts f deep x th k3) ∨ restP ts (f + 1) deep k = .out := by
  have e : restP ts (f + 1) deep k = (twoP ts f 1 0 k).bind fun x k1 => (wantP ts [116, 104, 101, 110] k1).bind fun _ k2 => (bodyP ts f (deep + 1) k2 []).bind fun th k3 => restG ts f deep x th k3 := by
    simp only [restP, if_neg hd, restG]
  rw [e]
  unfold r3P mustR
  cases h1 : twoP ts f 1 0 k with
  | out => exact .inr (.inr rfl)
  | bad er p => exact .inl ⟨er, p, rfl, rfl⟩
  | ok x k1 =>
    simp only [Res.un, Res.bind_ok]
    cases h2 : wantP ts [116, 104, 101, 110] k1 with
    | out => exact .inr (.inr rfl)
    | bad er p => exact .inl ⟨er, p, rfl, rfl⟩
    | ok u k2 =>
      simp only [Res.bind_ok]
      cases h3 : bodyP ts f (deep + 1) k2 [] with
      | out => exact .inr (.inr rfl)
      | bad er p => exact .inl ⟨er, p, rfl, rfl⟩
      | ok th k3 => exact .inr (.inl ⟨x, k1, th, k3, rfl, rfl, rfl⟩)
theorem r3_out {ts : List Tok} {f deep k : Nat} (hd : ¬ 8 ≤ deep) (h : restP ts (f + 1) deep k ≠ .out) : r3P ts f deep k ≠ .out := by
  rcases rest_split ts f deep k hd with ⟨er, p, h1, _⟩ | ⟨x, k1, th, k3, _, h1, _⟩ | h1
  · rw [h1]; intro e; cases e
  · rw [h1]; intro e; cases e
  · exact absurd h1 h

set_option maxRecDepth 100000 in
set_option maxHeartbeats 3200000 in
theorem rrest_main (f : Nat) (ihb : RBodyOK f) (ihr : RRestOK f) {w : World} {R T S : Nat} {ts : List Tok} {deep k pos : Nat} (h : Rr w R T ts k 0 (-1)) (hS : w.heap[S]? = some (stZero pos)) (hSR : S ≠ R) (hST : S ≠ T) (hSG : 12 ≤ S) (hd : ¬ 8 ≤ deep) (hout : restP ts (f + 1) deep k ≠ .out) :
    Calls Tryz.prog 72 #[.pointer (some ⟨R, 0, none⟩), .pointer (some ⟨S, 0, none⟩), .int .i64 deep] w (Rested w R T S ts pos (restP ts (f + 1) deep k)) := by
  have HSP := hide (rest_split ts f deep k hd)
  have HO3 := hide (r3_out hd hout)
  have HO1 : Hid (twoP ts f 1 0 k ≠ .out) := hide fun e => HO3.out (by simp only [r3P, e, Res.un, mustR, Res.bind])
  have HO := hide hout
  have HR := hide h
  have IHB := hide ihb
  have IHR := hide ihr
  have hlt := h.Rlt
  have htl := h.Tlt
  have hsl := blk_lt hS
  have hd8 : ¬ ((8 : Int) ≤ (deep : Int)) := by omega
  have hdd : deep + 1 ≤ 8 := by omega
  have hwr : IntKind.i64.wrap ((deep : Int) + 1) = (deep : Int) + 1 := wrap_small (by omega) (by omega)
  have s0 : w.cell? ⟨S, 0, none⟩ = some (.int .i64 0) := by rw [blk_cell hS]; rfl
  have sf0 : w.frozen? ⟨S, 0, none⟩ = false := blk_frozen hS 0
  have HS1 : Hid ((w.setCell ⟨S, 0, none⟩ (.int .i64 2)).heap[S]? = some (stObj 2 pos ⟨#[]⟩ (.pointer none) (.slice none 0 0) 0 (.slice none 0 0) (.slice none 0 0))) := hide (by rw [blk_set hS 0 _]; rfl)
  have HD1 := hide (Rst.set (r := .ok () k) h (S := S) 0 (.int .i64 2) hSR hST hSG)
  have HK1 := hide ((Kept2.refl R S w).set 0 (.int .i64 2))
  generalize restP ts (f + 1) deep k = whole at *
  clear h hS hout ihb ihr hd
  go_enter Tryz.func72, Tryz.ntmps72
  go_wp2_with fail
  generalize w.setCell ⟨S, 0, none⟩ (.int .i64 2) = w1 at *
  refine (rok_good HD1.out.good).mono ?_
  rintro e w2 ⟨rfl, hb2⟩
  have HD2 := hide (Rr.below HD1.out hb2)
  have HK2 := hide (HK1.out.kept (Kept.of hb2))
  have HS2 := hide (Below.blk hb2 HS1.out)
  clear hb2 s0 sf0
  go_wp2_with fail
  refine (rexpr_at f HD2.out HO1.out).mono ?_
  rintro e w3 ⟨hk3, hs3, v3, rfl, ⟨o3, rfl⟩, hp3⟩
  have hb3 := hk3.blk HS2.out hSR
  have HZ2 := hide HK2.out.size
  have s3 : w3.cell? ⟨S, 3, none⟩ = some (.pointer none) := by rw [blk_cell hb3]; rfl
  have sf3 : w3.frozen? ⟨S, 3, none⟩ = false := blk_frozen hb3 3
  have HS4 : Hid ((w3.setCell ⟨S, 3, none⟩ (.pointer o3)).heap[S]? = some (stObj 2 pos ⟨#[]⟩ (.pointer o3) (.slice none 0 0) 0 (.slice none 0 0) (.slice none 0 0))) := hide (by rw [blk_set hb3 3 _]; rfl)
  have HD4 := hide (hs3.set (S := S) 3 (.pointer o3) hSR hST hSG)
  have HK4 := hide ((HK2.out.kept hk3).set 3 (.pointer o3))
  have HX4 : Hid (∀ x k1, twoP ts f 1 0 k = .ok x k1 → IsEx (From w.heap.size) (w3.setCell ⟨S, 3, none⟩ (.pointer o3)) x (.pointer o3)) := hide fun x k1 e => ((hp3 x k1 e).low HZ2.out).same fun b h1 h2 => set_other _ 3 _ (by have h1 : w.heap.size ≤ b := h1; omega)
  clear hk3 hs3 hp3 hb3
  go_wp2_with fail
  generalize w3.setCell ⟨S, 3, none⟩ (.pointer o3) = w4 at *
  refine (rneed_at [116, 104, 101, 110] (by decide) HD4.out).mono ?_
  rintro e w5 ⟨rfl, hs5, hk5⟩
  have HD5 := hide hs5
  have HS5 := hide (hk5.blk HS4.out hSR)
  have HK5 := hide (HK4.out.kept hk5)
  have HX5 : Hid (∀ x k1, twoP ts f 1 0 k = .ok x k1 → IsEx (From w.heap.size) w5 x (.pointer o3)) := hide fun x k1 e => (HX4.out x k1 e).kept hk5 hlt
  clear hs5 hk5 s3 sf3
  go_wp2_with fail
  rw [show ((deep : Int) + 1) = ((deep + 1 : Nat) : Int) by omega]
  refine (rbody_any f IHB.out HD5.out hdd HO3.out).mono ?_
  rintro e w6 ⟨hk6, hs6, v6, rfl, ⟨ta, tn, tc, rfl⟩, hp6⟩
  have hb6 := hk6.blk HS5.out hSR
  have HZ5 := hide HK5.out.size
  have s6 : w6.cell? ⟨S, 6, none⟩ = some (.slice none 0 0) := by rw [blk_cell hb6]; rfl
  have sf6 : w6.frozen? ⟨S, 6, none⟩ = false := blk_frozen hb6 6
  have HS7 : Hid ((w6.setCell ⟨S, 6, none⟩ (.slice ta tn tc)).heap[S]? = some (stObj 2 pos ⟨#[]⟩ (.pointer o3) (.slice none 0 0) 0 (.slice ta tn tc) (.slice none 0 0))) := hide (by rw [blk_set hb6 6 _]; rfl)
  have HD7 : Hid (Rst (w6.setCell ⟨S, 6, none⟩ (.slice ta tn tc)) R T ts (r3P ts f deep k).un) := hide (hs6.set (S := S) 6 (.slice ta tn tc) hSR hST hSG)
  have HK7 := hide ((HK5.out.kept hk6).set 6 (.slice ta tn tc))
  have HX7 : Hid (∀ x k1, twoP ts f 1 0 k = .ok x k1 → IsEx (From w.heap.size) (w6.setCell ⟨S, 6, none⟩ (.slice ta tn tc)) x (.pointer o3)) := hide fun x k1 e => ((HX5.out x k1 e).kept hk6 hlt).same fun b h1 h2 => set_other _ 6 _ (by have h1 : w.heap.size ≤ b := h1; omega)
  have HT7 : Hid (∀ th k3, r3P ts f deep k = .ok th k3 → IsSts (From w.heap.size) (w6.setCell ⟨S, 6, none⟩ (.slice ta tn tc)) th (.slice ta tn tc)) := hide fun th k3 e => ((hp6 th k3 e).imp fun b _ h => Nat.le_trans HZ5.out h).same fun b h1 h2 => set_other _ 6 _ (by have h1 : w.heap.size ≤ b := h1; omega)
  clear hk6 hs6 hp6 hb6
  rcases HSP.out with ⟨er, q, hr3, hwh⟩ | ⟨x, k1, th, k3, hr1, hr3, hwh⟩ | hwh
  · -- something was wrong
    rw [hr3] at HD7
    have HW := hide hwh
    obtain ⟨kk, hkk⟩ := HD7.out
    obtain ⟨n, c, h0, _, _, r0, _, _, c2, _, _⟩ := hkk.cells
    clear hkk hwh HSP
    go_wp2_with fail
    refine (rno_at (r := .bad er q) [101, 108, 115, 105, 102] (by decide) HD7.out rfl).mono ?_
    rintro e w8 ⟨rfl, hs8, hk8⟩
    have HD8 := hide hs8
    have HK8 := hide (HK7.out.kept hk8)
    have HS8 := hide (hk8.blk HS7.out hSR)
    clear hs8 hk8 r0 c2
    go_wp2_with fail
    refine (rno_at (r := .bad er q) [101, 108, 115, 101] (by decide) HD8.out rfl).mono ?_
    rintro e w9 ⟨rfl, hs9, hk9⟩
    have HD9 := hide hs9
    have HK9 := hide (HK8.out.kept hk9)
    have HS9 := hide (hk9.blk HS8.out hSR)
    clear hs9 hk9
    go_wp2_with fail
    go_end0
    rw [HW.out]
    exact ⟨rfl, HK9.out, HD9.out, _, _, _, ⟨_, rfl⟩, ⟨_, _, _, rfl⟩, ⟨_, _, _, rfl⟩, HS9.out, fun q k' e => by cases e⟩
  · rw [hr3] at HD7
    have HW := hide hwh
    have HXX := hide (HX7.out x k1 hr1)
    have HTT := hide (HT7.out th k3 hr3)
    obtain ⟨n, c, h0, _, _, r0, _, _, c2, _, _⟩ := HD7.out.good.cells
    clear hwh HSP HX7 HT7
    cases hef : (tx ts k3 == [101, 108, 115, 105, 102]) with
    | true =>
      have HW2 : Hid (whole = (restP ts f (deep + 1) (k3 + 1)).bind fun q k4 => .ok (x, th, [.cond (tk ts k3).pos q.1 q.2.1 q.2.2]) k4) := hide (by rw [HW.out]; simp only [restG, hef, if_true])
      have HOR : Hid (restP ts f (deep + 1) (k3 + 1) ≠ .out) := hide fun e => HO.out (by rw [HW2.out, e]; rfl)
      go_wp2_with fail
      refine (ryes_at [101, 108, 115, 105, 102] (by decide) HD7.out.good hef).mono ?_
      rintro e w8 ⟨rfl, hs8, hk8⟩
      have HD8 := hide hs8
      have HK8 := hide (HK7.out.kept hk8)
      have HS8 := hide (hk8.blk HS7.out hSR)
      have HX8 := hide (HXX.out.kept hk8 hlt)
      have HT8 := hide (HTT.out.same fun b h1 h2 => hk8.block b h2 (by have h1 : w.heap.size ≤ b := h1; omega))
      clear hs8 hk8 r0 c2
      go_wp2_with fail
      generalize hpp : (tk ts k3).pos = pp at *
      have hX8 : w.heap.size ≤ w8.heap.size := HK8.out.size
      have hXG : 12 ≤ w8.heap.size := by have := HR.out.big; omega
      have HX8' : Hid (IsEx (fun b => w.heap.size ≤ b ∧ b < w8.heap.size) w8 x (.pointer o3)) := hide (HX8.out.imp fun b h1 h2 => ⟨h2, h1⟩)
      have HT8' : Hid (IsSts (fun b => w.heap.size ≤ b ∧ b < w8.heap.size) w8 th (.slice ta tn tc)) := hide (HT8.out.imp fun b h1 h2 => ⟨h2, h1⟩)
      have HD9 := hide (HD8.out.below (below_alloc w8 (stZero pp)))
      have HS9 := hide (Below.blk (below_alloc w8 (stZero pp)) HS8.out)
      have HK9 := hide (HK8.out.kept (Kept.of (R := R) (below_alloc w8 (stZero pp))))
      have HN9 := hide (blk_new w8 (stZero pp))
      have HF9 : Hid (∀ b, b < w8.heap.size → (w8.alloc (stZero pp)).heap[b]? = w8.heap[b]? ∧ b < (w8.alloc (stZero pp)).heap.size) := hide fun b hb => ⟨Below.heap_alloc w8 _ b hb, by simp; omega⟩
      generalize w8.alloc (stZero pp) = w9 at *
      generalize hX : w8.heap.size = X at *
      rw [show ((deep : Int) + 1) = ((deep + 1 : Nat) : Int) by omega]
      refine (IHR.out w9 R T X ts (deep + 1) (k3 + 1) pp HD9.out HN9.out (by omega) (by omega) hXG hdd HOR.out).mono ?_
      rintro e wA ⟨rfl, hkA, hsA, x', t', u', ⟨ox, rfl⟩, ⟨ta', tn', tc', rfl⟩, ⟨ua', un', uc', rfl⟩, hXA, hpA⟩
      have hSX : S ≠ X := by omega
      have HSA := hide ((hkA.block S (blk_lt HS9.out) hSR hSX).trans HS9.out)
      have HDA := hide hsA
      have HPA := hide hpA
      have HKA := hide (HK9.out.fresh hkA hX8)
      have HSZA : Hid (w.heap.size ≤ w9.heap.size ∧ w9.heap.size ≤ wA.heap.size) := hide ⟨HK9.out.size, hkA.size⟩
      have HFA : Hid (∀ b, (w.heap.size ≤ b ∧ b < X) → b < w8.heap.size → wA.heap[b]? = w8.heap[b]?) := hide fun b h1 h2 => (hkA.block b (HF9.out b h1.2).2 (by omega) (by omega)).trans (HF9.out b h1.2).1
      have HXA := hide (IsEx.imp (S' := From w.heap.size) (fun b _ h => h.1) (HX8'.out.same HFA.out))
      have HTA := hide (IsSts.imp (S' := From w.heap.size) (HT8'.out.same HFA.out) fun b _ h => h.1)
      obtain ⟨x0, x1, x2, x3, x4, x5, x6, x7⟩ := st_cells hXA
      have s7 := cell_alloc (show wA.cell? ⟨S, 7, none⟩ = some (.slice none 0 0) by rw [blk_cell HSA.out]; rfl) (.cells #[.int .i64 2, .int .i64 pp, .string ⟨#[]⟩, .pointer ox, .slice none 0 0, .int .i64 0, .slice ta' tn' tc', .slice ua' un' uc'] 68)
      have HSB := hide (Below.blk (below_alloc wA (stObj 2 pp ⟨#[]⟩ (.pointer ox) (.slice none 0 0) 0 (.slice ta' tn' tc') (.slice ua' un' uc'))) HSA.out)
      have sf7 : (wA.alloc (.cells #[.int .i64 2, .int .i64 pp, .string ⟨#[]⟩, .pointer ox, .slice none 0 0, .int .i64 0, .slice ta' tn' tc', .slice ua' un' uc'] 68)).frozen? ⟨S, 7, none⟩ = false := blk_frozen HSB.out 7
      clear hkA hsA hpA hXA
      go_wp2_with fail
      go_end0
      have hz := HSZA.out
      have hbA := below_alloc wA (stObj 2 pp ⟨#[]⟩ (.pointer ox) (.slice none 0 0) 0 (.slice ta' tn' tc') (.slice ua' un' uc'))
      refine ⟨rfl, (HKA.out.kept (Kept.of hbA)).set 7 _, ?_, _, _, _, ⟨_, rfl⟩, ⟨_, _, _, rfl⟩, ⟨_, _, _, rfl⟩, by rw [blk_set HSB.out 7 _]; rfl, fun q k' e => ?_⟩
      · rw [HW2.out, un_ok]
        exact (Rst.below hbA HDA.out).set (S := S) 7 _ hSR hST hSG
      · obtain ⟨q2, hq2, rfl⟩ := ok_inv (HW2.out.symm.trans e)
        obtain ⟨p1, p2, p3⟩ := HPA.out q2 k' hq2
        have far : ∀ b, From w.heap.size b → b < wA.heap.size → ((wA.alloc (stObj 2 pp ⟨#[]⟩ (.pointer ox) (.slice none 0 0) 0 (.slice ta' tn' tc') (.slice ua' un' uc'))).setCell ⟨S, 7, none⟩ (.slice (some ⟨wA.heap.size, 0, none⟩) 1 1)).heap[b]? = wA.heap[b]? := fun b h1 h2 => (set_other _ 7 _ (by have h1 : w.heap.size ≤ b := h1; omega)).trans (hbA.block b h2)
        refine ⟨HXA.out.same far, HTA.out.same far, ?_⟩
        have lr := lit_row wA [.int .i64 2, .int .i64 pp, .string ⟨#[]⟩, .pointer ox, .slice none 0 0, .int .i64 0, .slice ta' tn' tc', .slice ua' un' uc'] rfl (N := w.heap.size) (by omega)
        refine ⟨[[.int .i64 2, .int .i64 pp, .string ⟨#[]⟩, .pointer ox, .slice none 0 0, .int .i64 0, .slice ta' tn' tc', .slice ua' un' uc']], IsRow.same lr fun b h1 h2 => set_other _ 7 _ (by have h1 : w.heap.size ≤ b := h1; omega), ?_⟩
        obtain ⟨cs, g1, g2⟩ := p2
        obtain ⟨ds, g3, g4⟩ := p3
        have low : ∀ b, b < wA.heap.size → From w9.heap.size b → From w.heap.size b := fun b _ h => Nat.le_trans hz.1 h
        simp only [IsStL, IsSt, and_true]
        exact ⟨_, _, _, cs, ds, rfl, (p1.imp low).same far, (g1.imp low).same far, IsStL.same far _ _ (IsStL.imp low _ _ g2), (g3.imp low).same far, IsStL.same far _ _ (IsStL.imp low _ _ g4)⟩
    | false =>
      have hef' : seeB ts [101, 108, 115, 105, 102] (.ok () k3) = false := hef
      go_wp2_with fail
      refine (rno_at (r := .ok () k3) [101, 108, 115, 105, 102] (by decide) HD7.out hef').mono ?_
      rintro e w8 ⟨rfl, hs8, hk8⟩
      have HD8 := hide hs8
      have HK8 := hide (HK7.out.kept hk8)
      have HS8 := hide (hk8.blk HS7.out hSR)
      have HX8 := hide (HXX.out.kept hk8 hlt)
      have HT8 := hide (HTT.out.same fun b h1 h2 => hk8.block b h2 (by have h1 : w.heap.size ≤ b := h1; omega))
      clear hs8 hk8 r0 c2
      go_wp2_with fail
      cases hel : (tx ts k3 == [101, 108, 115, 101]) with
      | true =>
        have HW2 : Hid (whole = (bodyP ts f (deep + 1) (k3 + 1) []).bind fun el k4 => .ok (x, th, el) k4) := hide (by rw [HW.out]; simp only [restG, hef, hel, Bool.false_eq_true, if_false, if_true])
        have HOR : Hid (bodyP ts f (deep + 1) (k3 + 1) [] ≠ .out) := hide fun e => HO.out (by rw [HW2.out, e]; rfl)
        refine (ryes_at [101, 108, 115, 101] (by decide) HD8.out.good hel).mono ?_
        rintro e w9 ⟨rfl, hs9, hk9⟩
        have HD9 := hide hs9
        have HK9 := hide (HK8.out.kept hk9)
        have HS9 := hide (hk9.blk HS8.out hSR)
        have HX9 := hide (HX8.out.kept hk9 hlt)
        have HT9 := hide (HT8.out.same fun b h1 h2 => hk9.block b h2 (by have h1 : w.heap.size ≤ b := h1; omega))
        clear hs9 hk9
        go_wp2_with fail
        rw [show ((deep : Int) + 1) = ((deep + 1 : Nat) : Int) by omega]
        refine (IHB.out w9 R T ts (deep + 1) (k3 + 1) HD9.out hdd HOR.out).mono ?_
        rintro e wA ⟨hkA, hsA, vA, rfl, ⟨ea, en, ec, rfl⟩, hpA⟩
        have hbA := hkA.blk HS9.out hSR
        have s7 : wA.cell? ⟨S, 7, none⟩ = some (.slice none 0 0) := by rw [blk_cell hbA]; rfl
        have sf7 : wA.frozen? ⟨S, 7, none⟩ = false := blk_frozen hbA 7
        have HSB := hide hbA
        have HSA := hide hsA
        have HPA := hide hpA
        have HKA := hide hkA
        clear hkA hsA hpA hbA
        go_wp2_with fail
        go_end0
        have hz := HK9.out.size
        refine ⟨rfl, (HK9.out.kept HKA.out).set 7 _, ?_, _, _, _, ⟨_, rfl⟩, ⟨_, _, _, rfl⟩, ⟨_, _, _, rfl⟩, by rw [blk_set HSB.out 7 _]; rfl, fun q k' e => ?_⟩
        · rw [HW2.out, un_ok]
          exact HSA.out.set (S := S) 7 _ hSR hST hSG
        · obtain ⟨el, hel2, rfl⟩ := ok_inv (HW2.out.symm.trans e)
          have far : ∀ b, From w.heap.size b → b < wA.heap.size → (wA.setCell ⟨S, 7, none⟩ (.slice ea en ec)).heap[b]? = wA.heap[b]? := fun b h1 h2 => set_other _ 7 _ (by have h1 : w.heap.size ≤ b := h1; omega)
          refine ⟨IsEx.same far (HX9.out.kept HKA.out hlt), (HT9.out.same fun b h1 h2 => HKA.out.block b h2 (by have h1 : w.heap.size ≤ b := h1; omega)).same far, ((HPA.out el k' hel2).imp fun b _ h => Nat.le_trans hz h).same far⟩
      | false =>
        have HW2 : Hid (whole = .ok (x, th, []) k3) := hide (by rw [HW.out]; simp only [restG, hef, hel, Bool.false_eq_true, if_false])
        have hel' : seeB ts [101, 108, 115, 101] (.ok () k3) = false := hel
        refine (rno_at (r := .ok () k3) [101, 108, 115, 101] (by decide) HD8.out hel').mono ?_
        rintro e w9 ⟨rfl, hs9, hk9⟩
        have HD9 := hide hs9
        have HK9 := hide (HK8.out.kept hk9)
        have HS9 := hide (hk9.blk HS8.out hSR)
        have HX9 := hide (HX8.out.kept hk9 hlt)
        have HT9 := hide (HT8.out.same fun b h1 h2 => hk9.block b h2 (by have h1 : w.heap.size ≤ b := h1; omega))
        clear hs9 hk9
        go_wp2_with fail
        go_end0
        rw [HW2.out]
        exact ⟨rfl, HK9.out, HD9.out, _, _, _, ⟨_, rfl⟩, ⟨_, _, _, rfl⟩, ⟨_, _, _, rfl⟩, HS9.out, fun q k' e => by cases e; exact ⟨HX9.out, HT9.out, IsSts.nil _ _⟩⟩
  · exact absurd hwh HO.out
end Go.Proofs.YtlbgdoajaplabaaGreatDoor
