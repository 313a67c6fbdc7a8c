/-
  CONTRACTS of want, set and call.
-/
import Derived.Test.YtgncgbngjdcpgaaGreatDoorKind3
import Derived.Test.YtgncgbngjdcpgaaGreatDoorStm
set_option linter.unusedSimpArgs false
set_option linter.unusedVariables false
namespace Go.Proofs.YtgncgbngjdcpgaaGreatDoor
open Go.RowKit

abbrev NoRep : Value → Unit → Prop := fun v _ => v = .tuple #[]
theorem IsEx.at {S : Nat → Prop} {w : World} : ∀ {x : Ex} {v : Value}, IsEx S w x v → ∃ X : Nat, v = .pointer (some ⟨X, 0, none⟩) ∧ w.cell? ⟨X, 1, none⟩ = some (.int .i64 (posE x : Nat))
  | .num .., _, ⟨B, e, _, h⟩ => ⟨B, e, by rw [blk_cell h]; rfl⟩
  | .name .., _, ⟨B, e, _, h⟩ => ⟨B, e, by rw [blk_cell h]; rfl⟩
  | .field .., _, ⟨B, e, _, h⟩ => ⟨B, e, by rw [blk_cell h]; rfl⟩
  | .not .., _, ⟨B, _, e, _, h, _⟩ => ⟨B, e, by rw [blk_cell h]; rfl⟩
  | .bin .., _, ⟨B, _, _, e, _, h, _⟩ => ⟨B, e, by rw [blk_cell h]; rfl⟩

set_option maxRecDepth 100000 in
set_option maxHeartbeats 6400000 in
theorem want_it {w : World} {LV : Value} {ds : List De} (hl : ds.length ≤ 30) (h : Fd w LV ds) (x : Ex) (ty : Nat) (S : Nat → Prop) (v : Value) (hx : IsEx S w x v) (k n : Int) (p : Nat) (s : ByteArray) (ao bo co uo : Option Addr) (bl bc tl tc ul uc : Nat) :
    Calls Tryz.prog 105 #[lkV LV, .agg #[.int .i64 k, .int .i64 p, .string s, .pointer ao, .slice bo bl bc, .int .i64 n, .slice co tl tc, .slice uo ul uc], v, .int .i64 ty] w (Cks w NoRep (wantC (findC ds) x ty)) := by
  have hq : ∀ (A : Addr) (w : World), (binOp .eql 96 (.pointer (some A)) (.pointer none)).run Tryz.prog w = .ok (.bool false) w := fun _ _ => rfl
  obtain ⟨F, cs, rfl⟩ := h.fn
  have hb1 := below_alloc w (.cells #[.func F #[] cs] 122)
  have hb2 := below_alloc (w.alloc (.cells #[.func F #[] cs] 122)) (.cells #[.int .i64 k, .int .i64 p, .string s, .pointer ao, .slice bo bl bc, .int .i64 n, .slice co tl tc, .slice uo ul uc] 99)
  have HB := hide (Below.step hb1 hb2)
  have HN := hide (Below.blk hb2 (blk_new w (.cells #[.func F #[] cs] 122)))
  have HF := hide (h.below HB.out)
  have HX := hide (hx.below HB.out)
  have HE : Hid (wantC (findC ds) x ty = (kindC (findC ds) x).bind fun t => if t = ty then .ok () else .bad 1 (posE x)) := rfl
  clear h hx hb1 hb2
  obtain ⟨X, rfl, _⟩ := HX.out.at
  go_enter Tryz.func105, Tryz.ntmps105
  go_wp2_with fail
  generalize ((w.alloc (.cells #[.func F #[] cs] 122)).alloc (.cells #[.int .i64 k, .int .i64 p, .string s, .pointer ao, .slice bo bl bc, .int .i64 n, .slice co tl tc, .slice uo ul uc] 99)) = w1 at *
  have c0 : w1.cell? ⟨w.heap.size, 0, none⟩ = some (.func F #[] cs) := by rw [blk_cell HN.out]; rfl
  refine (kind_all x S w1 _ _ ds hl HF.out HX.out).mono ?_
  rintro e w3 h3
  rcases h3.cases with ⟨er, q, A, hr, rfl, hA, hb3⟩ | ⟨a, v, hr, rfl, hv, hb3⟩
  · have HR := hide hr
    have HA := hide hA
    have HB3 := hide (Below.step HB.out hb3)
    clear h3 hr hA hb3 c0
    go_wp2_with fail
    exact ⟨rfl, Cks.bad (by rw [HE.out, HR.out]; rfl) HB3.out HA.out⟩
  · have hv : v = .int .i64 (a : Nat) := hv
    subst hv
    have HR := hide hr
    have HB3 := hide (Below.step HB.out hb3)
    obtain ⟨X', e', cx⟩ := (HX.out.below hb3).at
    cases e'
    clear h3 hr hb3 c0
    by_cases ha : a = ty
    · subst ha
      have HR2 : Hid (wantC (findC ds) x a = .ok ()) := hide (by rw [HE.out, HR.out]; simp only [Ck.bind, if_true])
      go_wp2_with fail
      go_end0
      exact Cks.ok HR2.out HB3.out rfl
    · have HR2 : Hid (wantC (findC ds) x ty = .bad 1 (posE x)) := hide (by rw [HE.out, HR.out]; simp only [Ck.bind, if_neg ha])
      have hai : ((a : Int) != (ty : Int)) = true := by simp; omega
      go_wp2_with fail
      refine (throw_at 1 (posE x) _).mono ?_
      rintro e w8 ⟨⟨A, rfl, hA⟩, hb7⟩
      have HA := hide hA
      have HB7 := hide (Below.step HB3.out hb7)
      clear hA hb7
      go_wp2_with fail
      exact ⟨rfl, Cks.bad HR2.out HB7.out HA.out⟩

set_option maxRecDepth 100000 in
set_option maxHeartbeats 6400000 in
theorem lset_at {w : World} {LV : Value} {ds : List De} (hl : ds.length ≤ 30) (h : Fd w LV ds) (p : Nat) (s : ByteArray) (x : Ex) (S : Nat → Prop) (v : Value) (hx : IsEx S w x v) :
    Calls Tryz.prog 103 #[lkV LV, .agg #[.int .i64 1, .int .i64 p, .string s, v, .slice none 0 0, .int .i64 0, .slice none 0 0, .slice none 0 0]] w (Cks w NoRep (setC (findC ds) p s x)) := by
  obtain ⟨X, rfl⟩ := hx.ptr
  obtain ⟨F, cs, rfl⟩ := h.fn
  have hb1 := below_alloc w (.cells #[.func F #[] cs] 122)
  have hb2 := below_alloc (w.alloc (.cells #[.func F #[] cs] 122)) (.cells #[.int .i64 1, .int .i64 p, .string s, .pointer (some ⟨X, 0, none⟩), .slice none 0 0, .int .i64 0, .slice none 0 0, .slice none 0 0] 99)
  have HB := hide (Below.step hb1 hb2)
  have HN := hide (Below.blk hb2 (blk_new w (.cells #[.func F #[] cs] 122)))
  have HM : Hid (((w.alloc (.cells #[.func F #[] cs] 122)).alloc (.cells #[.int .i64 1, .int .i64 p, .string s, .pointer (some ⟨X, 0, none⟩), .slice none 0 0, .int .i64 0, .slice none 0 0, .slice none 0 0] 99)).heap[w.heap.size + 1]? = some (.cells #[.int .i64 1, .int .i64 p, .string s, .pointer (some ⟨X, 0, none⟩), .slice none 0 0, .int .i64 0, .slice none 0 0, .slice none 0 0] 99 (0, 0))) := hide (by
    have h := blk_new (w.alloc (.cells #[.func F #[] cs] 122)) (.cells #[.int .i64 1, .int .i64 p, .string s, .pointer (some ⟨X, 0, none⟩), .slice none 0 0, .int .i64 0, .slice none 0 0, .slice none 0 0] 99)
    rw [show (w.alloc (.cells #[.func F #[] cs] 122)).heap.size = w.heap.size + 1 by simp] at h
    exact h)
  have HF := hide (h.below HB.out)
  have HX := hide (hx.below HB.out)
  have HE : Hid (setC (findC ds) p s x = (declC (findC ds) s p).bind fun d => if widthN d.ty = 0 then .bad 1 p else if d.way = 1 then .bad 6 p else wantC (findC ds) x d.ty) := rfl
  clear h hx hb1 hb2
  go_enter Tryz.func103, Tryz.ntmps103
  go_wp2_with fail
  generalize ((w.alloc (.cells #[.func F #[] cs] 122)).alloc (.cells #[.int .i64 1, .int .i64 p, .string s, .pointer (some ⟨X, 0, none⟩), .slice none 0 0, .int .i64 0, .slice none 0 0, .slice none 0 0] 99)) = w1 at *
  refine (ldecl_at hl HF.out s p).mono ?_
  rintro e w3 h3
  rcases h3.cases with ⟨er, q, A, hr, rfl, hA, hb3⟩ | ⟨d, v, hr, rfl, hv, hb3⟩
  · have HR := hide hr
    have HA := hide hA
    have HB3 := hide (Below.step HB.out hb3)
    clear h3 hr hA hb3
    go_wp2_with fail
    exact ⟨rfl, Cks.bad (by rw [HE.out, HR.out]; rfl) HB3.out HA.out⟩
  · have hv : v = deV d := hv
    subst hv
    obtain ⟨nm, way, ty, init⟩ := d
    have HR := hide hr
    have hbd := below_alloc w3 (.cells #[.string nm, .int .i64 way, .int .i64 ty, .int .i64 init] 60)
    have HD := hide (blk_new w3 (.cells #[.string nm, .int .i64 way, .int .i64 ty, .int .i64 init] 60))
    have HB4 := hide (Below.step hb3 hbd)
    have HM4 := hide (Below.blk HB4.out HM.out)
    have HN4 := hide (Below.blk HB4.out HN.out)
    have HF4 := hide (HF.out.below HB4.out)
    have HX4 := hide (HX.out.below HB4.out)
    have HWI := hide fun W => width_at ty W
    clear h3 hr hb3 hbd
    go_wp2_with fail
    generalize (w3.alloc (.cells #[.string nm, .int .i64 way, .int .i64 ty, .int .i64 init] 60)) = w4 at *
    have m1 : w4.cell? ⟨w.heap.size + 1, 1, none⟩ = some (.int .i64 p) := by rw [blk_cell HM4.out]; rfl
    have d1 : w4.cell? ⟨w3.heap.size, 1, none⟩ = some (.int .i64 way) := by rw [blk_cell HD.out]; rfl
    have d2 : w4.cell? ⟨w3.heap.size, 2, none⟩ = some (.int .i64 ty) := by rw [blk_cell HD.out]; rfl
    refine (HWI.out w4).mono ?_
    rintro e w5 ⟨rfl, rfl⟩
    by_cases hw0 : widthN ty = 0
    · have HR2 : Hid (setC (findC ds) p s x = .bad 1 p) := hide (by rw [HE.out, HR.out]; simp only [Ck.bind, if_pos hw0])
      rw [hw0]
      go_wp2_with fail
      refine (throw_at 1 p _).mono ?_
      rintro e w8 ⟨⟨A, rfl, hA⟩, hb7⟩
      have HA := hide hA
      have HB7 := hide (Below.step HB.out (Below.step HB4.out hb7))
      clear hA hb7
      go_wp2_with fail
      exact ⟨rfl, Cks.bad HR2.out HB7.out HA.out⟩
    · have hwi : (((widthN ty : Nat) : Int) == 0) = false := by simp; omega
      have HW0 := hide hw0
      clear hw0
      by_cases hy : way = 1
      · subst hy
        have HR2 : Hid (setC (findC ds) p s x = .bad 6 p) := hide (by rw [HE.out, HR.out]; simp only [Ck.bind, if_neg HW0.out, if_true])
        generalize widthN ty = wd at *
        go_wp2_with fail
        refine (throw_at 6 p _).mono ?_
        rintro e w8 ⟨⟨A, rfl, hA⟩, hb7⟩
        have HA := hide hA
        have HB7 := hide (Below.step HB.out (Below.step HB4.out hb7))
        clear hA hb7
        go_wp2_with fail
        exact ⟨rfl, Cks.bad HR2.out HB7.out HA.out⟩
      · have HR2 : Hid (setC (findC ds) p s x = wantC (findC ds) x ty) := hide (by rw [HE.out, HR.out]; simp only [Ck.bind, if_neg HW0.out, if_neg hy])
        have hyi : ((way : Int) == 1) = false := by simp; omega
        have m0 : w5.cell? ⟨w.heap.size + 1, 0, none⟩ = some (.int .i64 1) := by rw [blk_cell HM4.out]; rfl
        have m2 : w5.cell? ⟨w.heap.size + 1, 2, none⟩ = some (.string s) := by rw [blk_cell HM4.out]; rfl
        have m3 : w5.cell? ⟨w.heap.size + 1, 3, none⟩ = some (.pointer (some ⟨X, 0, none⟩)) := by rw [blk_cell HM4.out]; rfl
        have m4 : w5.cell? ⟨w.heap.size + 1, 4, none⟩ = some (.slice none 0 0) := by rw [blk_cell HM4.out]; rfl
        have m5 : w5.cell? ⟨w.heap.size + 1, 5, none⟩ = some (.int .i64 0) := by rw [blk_cell HM4.out]; rfl
        have m6 : w5.cell? ⟨w.heap.size + 1, 6, none⟩ = some (.slice none 0 0) := by rw [blk_cell HM4.out]; rfl
        have m7 : w5.cell? ⟨w.heap.size + 1, 7, none⟩ = some (.slice none 0 0) := by rw [blk_cell HM4.out]; rfl
        have n0 : w5.cell? ⟨w.heap.size, 0, none⟩ = some (.func F #[] cs) := by rw [blk_cell HN4.out]; rfl
        have HWA := hide (want_it hl HF4.out x ty S _ HX4.out 1 0 p s (some ⟨X, 0, none⟩) none none none 0 0 0 0 0 0)
        generalize widthN ty = wd at *
        clear hy
        go_wp2_with fail
        refine HWA.out.mono ?_
        rintro e w6 h6
        rcases h6.cases with ⟨er, q, A, hr, rfl, hA, hb6⟩ | ⟨u, v, hr, rfl, hv, hb6⟩
        · have HR6 := hide hr
          have HA := hide hA
          have HB6 := hide (Below.step HB.out (Below.step HB4.out hb6))
          clear h6 hr hA hb6
          go_wp2_with fail
          exact ⟨rfl, Cks.bad (HR2.out.trans HR6.out) HB6.out HA.out⟩
        · have hv : v = .tuple #[] := hv
          subst hv
          have HR6 := hide hr
          have HB6 := hide (Below.step HB.out (Below.step HB4.out hb6))
          clear h6 hr hb6
          go_wp2_with fail
          go_end0
          exact Cks.ok (HR2.out.trans HR6.out) HB6.out rfl
end Go.Proofs.YtgncgbngjdcpgaaGreatDoor
