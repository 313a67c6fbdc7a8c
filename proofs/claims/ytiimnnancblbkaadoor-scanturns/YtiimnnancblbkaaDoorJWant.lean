/-
  CONTRACTS of want, set and call.
  CONTRACT of call.
  CONTRACT of stmts.
-/
import Derived.Test.YtiimnnancblbkaaDoorJLook
import Derived.Test.YtiimnnancblbkaaDoorJStm
import Derived.Test.YtiimnnancblbkaaDoorJPrt
set_option linter.unusedSimpArgs false
set_option linter.unusedVariables false
namespace Go.Proofs.YtiimnnancblbkaaDoor
open Go.RowKit

abbrev NoRep : Value → Unit → Prop := fun v _ => v = .tuple #[]
theorem IsEx.at {S : Nat → Prop} {w : World} : ∀ {x : Ex} {v : Value}, IsEx S w x v → ∃ X : Nat, v = .pointer (some ⟨X, 0, none⟩) ∧ w.cell? ⟨X, 1, none⟩ = some (.int .i64 (posE x : Nat))
  | .num .., _, ⟨B, e, _, h⟩ => ⟨B, e, by rw [blk_cell h]; rfl⟩
  | .name .., _, ⟨B, e, _, h⟩ => ⟨B, e, by rw [blk_cell h]; rfl⟩
  | .field .., _, ⟨B, e, _, h⟩ => ⟨B, e, by rw [blk_cell h]; rfl⟩
  | .not .., _, ⟨B, _, e, _, h, _⟩ => ⟨B, e, by rw [blk_cell h]; rfl⟩
  | .bin .., _, ⟨B, _, _, e, _, h, _⟩ => ⟨B, e, by rw [blk_cell h]; rfl⟩

set_option maxRecDepth 100000 in
set_option maxHeartbeats 6400000 in
theorem want_it {w : World} {LV : Value} {ds : List De} (hl : ds.length ≤ 30) (h : Fd w LV ds) (x : Ex) (ty : Nat) (S : Nat → Prop) (v : Value) (hx : IsEx S w x v) (k n : Int) (p : Nat) (s : ByteArray) (ao bo co uo : Option Addr) (bl bc tl tc ul uc : Nat) :
    Calls Tryd.prog 40 #[lkV LV, .agg #[.int .i64 k, .int .i64 p, .string s, .pointer ao, .slice bo bl bc, .int .i64 n, .slice co tl tc, .slice uo ul uc], v, .int .i64 ty] w (Cks w NoRep (wantC (findC ds) x ty)) := by
  have hq : ∀ (A : Addr) (w : World), (binOp .eql 45 (.pointer (some A)) (.pointer none)).run Tryd.prog w = .ok (.bool false) w := fun _ _ => rfl
  obtain ⟨F, cs, rfl⟩ := h.fn
  have hb1 := below_alloc w (.cells #[.func F #[] cs] 67)
  have hb2 := below_alloc (w.alloc (.cells #[.func F #[] cs] 67)) (.cells #[.int .i64 k, .int .i64 p, .string s, .pointer ao, .slice bo bl bc, .int .i64 n, .slice co tl tc, .slice uo ul uc] 48)
  have HB := hide (Below.step hb1 hb2)
  have HN := hide (Below.blk hb2 (blk_new w (.cells #[.func F #[] cs] 67)))
  have HF := hide (h.below HB.out)
  have HX := hide (hx.below HB.out)
  have HE : Hid (wantC (findC ds) x ty = (kindC (findC ds) x).bind fun t => if t = ty then .ok () else .bad 1 (posE x)) := rfl
  clear h hx hb1 hb2
  obtain ⟨X, rfl, _⟩ := HX.out.at
  go_enter Tryd.func40, Tryd.ntmps40
  go_wp2_with fail
  generalize ((w.alloc (.cells #[.func F #[] cs] 67)).alloc (.cells #[.int .i64 k, .int .i64 p, .string s, .pointer ao, .slice bo bl bc, .int .i64 n, .slice co tl tc, .slice uo ul uc] 48)) = w1 at *
  have c0 : w1.cell? ⟨w.heap.size, 0, none⟩ = some (.func F #[] cs) := by rw [blk_cell HN.out]; rfl
  refine (kind_all x S w1 _ _ ds hl HF.out HX.out).mono ?_
  rintro e w3 h3
  rcases h3.cases with ⟨er, q, A, hr, rfl, hA, hb3⟩ | ⟨a, v, hr, rfl, hv, hb3⟩
  · have HR := hide hr
    have HA := hide hA
    have HB3 := hide (Below.step HB.out hb3)
    clear h3 hr hA hb3 c0
    go_wp2_with fail
    exact ⟨rfl, Cks.bad (by rw [HE.out, HR.out]; rfl) HB3.out HA.out⟩
  · have hv : v = .int .i64 (a : Nat) := hv
    subst hv
    have HR := hide hr
    have HB3 := hide (Below.step HB.out hb3)
    obtain ⟨X', e', cx⟩ := (HX.out.below hb3).at
    cases e'
    clear h3 hr hb3 c0
    by_cases ha : a = ty
    · subst ha
      have HR2 : Hid (wantC (findC ds) x a = .ok ()) := hide (by rw [HE.out, HR.out]; simp only [Ck.bind, if_true])
      go_wp2_with fail
      go_end0
      exact Cks.ok HR2.out HB3.out rfl
    · have HR2 : Hid (wantC (findC ds) x ty = .bad 1 (posE x)) := hide (by rw [HE.out, HR.out]; simp only [Ck.bind, if_neg ha])
      have hai : ((a : Int) != (ty : Int)) = true := by simp; omega
      go_wp2_with fail
      refine (throw_at 1 (posE x) _).mono ?_
      rintro e w8 ⟨⟨A, rfl, hA⟩, hb7⟩
      have HA := hide hA
      have HB7 := hide (Below.step HB3.out hb7)
      clear hA hb7
      go_wp2_with fail
      exact ⟨rfl, Cks.bad HR2.out HB7.out HA.out⟩

set_option maxRecDepth 100000 in
set_option maxHeartbeats 6400000 in
theorem lset_at {w : World} {LV : Value} {ds : List De} (hl : ds.length ≤ 30) (h : Fd w LV ds) (p : Nat) (s : ByteArray) (x : Ex) (S : Nat → Prop) (v : Value) (hx : IsEx S w x v) :
    Calls Tryd.prog 38 #[lkV LV, .agg #[.int .i64 1, .int .i64 p, .string s, v, .slice none 0 0, .int .i64 0, .slice none 0 0, .slice none 0 0]] w (Cks w NoRep (setC (findC ds) p s x)) := by
  obtain ⟨X, rfl⟩ := hx.ptr
  obtain ⟨F, cs, rfl⟩ := h.fn
  have hb1 := below_alloc w (.cells #[.func F #[] cs] 67)
  have hb2 := below_alloc (w.alloc (.cells #[.func F #[] cs] 67)) (.cells #[.int .i64 1, .int .i64 p, .string s, .pointer (some ⟨X, 0, none⟩), .slice none 0 0, .int .i64 0, .slice none 0 0, .slice none 0 0] 48)
  have HB := hide (Below.step hb1 hb2)
  have HN := hide (Below.blk hb2 (blk_new w (.cells #[.func F #[] cs] 67)))
  have HM : Hid (((w.alloc (.cells #[.func F #[] cs] 67)).alloc (.cells #[.int .i64 1, .int .i64 p, .string s, .pointer (some ⟨X, 0, none⟩), .slice none 0 0, .int .i64 0, .slice none 0 0, .slice none 0 0] 48)).heap[w.heap.size + 1]? = some (.cells #[.int .i64 1, .int .i64 p, .string s, .pointer (some ⟨X, 0, none⟩), .slice none 0 0, .int .i64 0, .slice none 0 0, .slice none 0 0] 48 (0, 0))) := hide (by
    have h := blk_new (w.alloc (.cells #[.func F #[] cs] 67)) (.cells #[.int .i64 1, .int .i64 p, .string s, .pointer (some ⟨X, 0, none⟩), .slice none 0 0, .int .i64 0, .slice none 0 0, .slice none 0 0] 48)
    rw [show (w.alloc (.cells #[.func F #[] cs] 67)).heap.size = w.heap.size + 1 by simp] at h
    exact h)
  have HF := hide (h.below HB.out)
  have HX := hide (hx.below HB.out)
  have HE : Hid (setC (findC ds) p s x = (declC (findC ds) s p).bind fun d => if widthN d.ty = 0 then .bad 1 p else if d.way = 1 then .bad 6 p else wantC (findC ds) x d.ty) := rfl
  clear h hx hb1 hb2
  go_enter Tryd.func38, Tryd.ntmps38
  go_wp2_with fail
  generalize ((w.alloc (.cells #[.func F #[] cs] 67)).alloc (.cells #[.int .i64 1, .int .i64 p, .string s, .pointer (some ⟨X, 0, none⟩), .slice none 0 0, .int .i64 0, .slice none 0 0, .slice none 0 0] 48)) = w1 at *
  refine (ldecl_at hl HF.out s p).mono ?_
  rintro e w3 h3
  rcases h3.cases with ⟨er, q, A, hr, rfl, hA, hb3⟩ | ⟨d, v, hr, rfl, hv, hb3⟩
  · have HR := hide hr
    have HA := hide hA
    have HB3 := hide (Below.step HB.out hb3)
    clear h3 hr hA hb3
    go_wp2_with fail
    exact ⟨rfl, Cks.bad (by rw [HE.out, HR.out]; rfl) HB3.out HA.out⟩
  · have hv : v = deV d := hv
    subst hv
    obtain ⟨nm, way, ty, init⟩ := d
    have HR := hide hr
    have hbd := below_alloc w3 (.cells #[.string nm, .int .i64 way, .int .i64 ty, .int .i64 init] 32)
    have HD := hide (blk_new w3 (.cells #[.string nm, .int .i64 way, .int .i64 ty, .int .i64 init] 32))
    have HB4 := hide (Below.step hb3 hbd)
    have HM4 := hide (Below.blk HB4.out HM.out)
    have HN4 := hide (Below.blk HB4.out HN.out)
    have HF4 := hide (HF.out.below HB4.out)
    have HX4 := hide (HX.out.below HB4.out)
    have HWI := hide fun W => width_at ty W
    clear h3 hr hb3 hbd
    go_wp2_with fail
    generalize (w3.alloc (.cells #[.string nm, .int .i64 way, .int .i64 ty, .int .i64 init] 32)) = w4 at *
    have m1 : w4.cell? ⟨w.heap.size + 1, 1, none⟩ = some (.int .i64 p) := by rw [blk_cell HM4.out]; rfl
    have d1 : w4.cell? ⟨w3.heap.size, 1, none⟩ = some (.int .i64 way) := by rw [blk_cell HD.out]; rfl
    have d2 : w4.cell? ⟨w3.heap.size, 2, none⟩ = some (.int .i64 ty) := by rw [blk_cell HD.out]; rfl
    refine (HWI.out w4).mono ?_
    rintro e w5 ⟨rfl, rfl⟩
    by_cases hw0 : widthN ty = 0
    · have HR2 : Hid (setC (findC ds) p s x = .bad 1 p) := hide (by rw [HE.out, HR.out]; simp only [Ck.bind, if_pos hw0])
      rw [hw0]
      go_wp2_with fail
      refine (throw_at 1 p _).mono ?_
      rintro e w8 ⟨⟨A, rfl, hA⟩, hb7⟩
      have HA := hide hA
      have HB7 := hide (Below.step HB.out (Below.step HB4.out hb7))
      clear hA hb7
      go_wp2_with fail
      exact ⟨rfl, Cks.bad HR2.out HB7.out HA.out⟩
    · have hwi : (((widthN ty : Nat) : Int) == 0) = false := by simp; omega
      have HW0 := hide hw0
      clear hw0
      by_cases hy : way = 1
      · subst hy
        have HR2 : Hid (setC (findC ds) p s x = .bad 6 p) := hide (by rw [HE.out, HR.out]; simp only [Ck.bind, if_neg HW0.out, if_true])
        generalize widthN ty = wd at *
        go_wp2_with fail
        refine (throw_at 6 p _).mono ?_
        rintro e w8 ⟨⟨A, rfl, hA⟩, hb7⟩
        have HA := hide hA
        have HB7 := hide (Below.step HB.out (Below.step HB4.out hb7))
        clear hA hb7
        go_wp2_with fail
        exact ⟨rfl, Cks.bad HR2.out HB7.out HA.out⟩
      · have HR2 : Hid (setC (findC ds) p s x = wantC (findC ds) x ty) := hide (by rw [HE.out, HR.out]; simp only [Ck.bind, if_neg HW0.out, if_neg hy])
        have hyi : ((way : Int) == 1) = false := by simp; omega
        have m0 : w5.cell? ⟨w.heap.size + 1, 0, none⟩ = some (.int .i64 1) := by rw [blk_cell HM4.out]; rfl
        have m2 : w5.cell? ⟨w.heap.size + 1, 2, none⟩ = some (.string s) := by rw [blk_cell HM4.out]; rfl
        have m3 : w5.cell? ⟨w.heap.size + 1, 3, none⟩ = some (.pointer (some ⟨X, 0, none⟩)) := by rw [blk_cell HM4.out]; rfl
        have m4 : w5.cell? ⟨w.heap.size + 1, 4, none⟩ = some (.slice none 0 0) := by rw [blk_cell HM4.out]; rfl
        have m5 : w5.cell? ⟨w.heap.size + 1, 5, none⟩ = some (.int .i64 0) := by rw [blk_cell HM4.out]; rfl
        have m6 : w5.cell? ⟨w.heap.size + 1, 6, none⟩ = some (.slice none 0 0) := by rw [blk_cell HM4.out]; rfl
        have m7 : w5.cell? ⟨w.heap.size + 1, 7, none⟩ = some (.slice none 0 0) := by rw [blk_cell HM4.out]; rfl
        have n0 : w5.cell? ⟨w.heap.size, 0, none⟩ = some (.func F #[] cs) := by rw [blk_cell HN4.out]; rfl
        have HWA := hide (want_it hl HF4.out x ty S _ HX4.out 1 0 p s (some ⟨X, 0, none⟩) none none none 0 0 0 0 0 0)
        generalize widthN ty = wd at *
        clear hy
        go_wp2_with fail
        refine HWA.out.mono ?_
        rintro e w6 h6
        rcases h6.cases with ⟨er, q, A, hr, rfl, hA, hb6⟩ | ⟨u, v, hr, rfl, hv, hb6⟩
        · have HR6 := hide hr
          have HA := hide hA
          have HB6 := hide (Below.step HB.out (Below.step HB4.out hb6))
          clear h6 hr hA hb6
          go_wp2_with fail
          exact ⟨rfl, Cks.bad (HR2.out.trans HR6.out) HB6.out HA.out⟩
        · have hv : v = .tuple #[] := hv
          subst hv
          have HR6 := hide hr
          have HB6 := hide (Below.step HB.out (Below.step HB4.out hb6))
          clear h6 hr hb6
          go_wp2_with fail
          go_end0
          exact Cks.ok (HR2.out.trans HR6.out) HB6.out rfl
end Go.Proofs.YtiimnnancblbkaaDoor
set_option linter.unusedSimpArgs false
set_option linter.unusedVariables false
namespace Go.Proofs.YtiimnnancblbkaaDoor
open Go.RowKit

theorem exs_get {S : Nat → Prop} {w : World} : ∀ {l : List Ex} {vs : List Value}, All2 (IsEx S w) l vs → ∀ i (h : i < l.length), ∃ b, vs[i]? = some b ∧ IsEx S w l[i] b
  | a :: l, b :: m, ⟨h1, h2⟩, 0, _ => ⟨b, rfl, h1⟩
  | a :: l, b :: m, ⟨h1, h2⟩, i + 1, h => by
    obtain ⟨c, hc, hp⟩ := exs_get h2 i (by simpa using h)
    exact ⟨c, by simpa using hc, by simpa using hp⟩
theorem row_cell {S : Nat → Prop} {e size n : Nat} {w : World} {v : Value} {xs : List Value} (h : IsRow S w e size v n xs) {g cap m : Nat} (hv : v = .slice (some ⟨g, 0, none⟩) m cap) {j : Nat} {u : Value} (hj : xs[j]? = some u) : w.cell? ⟨g, j, none⟩ = some u := by
  subst hv
  have := h.1.cells (g := g) rfl j u hj
  unfold Addr.add at this
  split at this
  · rename_i e; subst e; exact this
  · simpa using this
theorem row_addr {S : Nat → Prop} {e size n : Nat} {w : World} {v : Value} {xs : List Value} (h : IsRow S w e size v n xs) (hn : 0 < n) : ∃ g cap : Nat, v = .slice (some ⟨g, 0, none⟩) n cap ∧ S g := by
  rcases h.1.2 with ⟨rfl, rfl⟩ | ⟨g, cap, cur, rfl, _⟩
  · omega
  · exact ⟨g, cap, rfl, h.2 g rfl⟩
theorem argsC_drop (f : Find) (l : List Ex) (j : Nat) (h : j < l.length) : argsC f (l.drop j) = (wantC f l[j] 1).bind fun _ => argsC f (l.drop (j + 1)) := by
  rw [List.drop_eq_getElem_cons h, argsC]

set_option maxRecDepth 100000 in
set_option maxHeartbeats 6400000 in
theorem lcall_at {w : World} {LV : Value} {ds : List De} (hl : ds.length ≤ 30) (h : Fd w LV ds) (p : Nat) (s : ByteArray) (l : List Ex) (n : Nat) (hll : l.length ≤ 1000000) (S : Nat → Prop) (v : Value) (hx : IsExs S w l v) :
    Calls Tryd.prog 39 #[lkV LV, .agg #[.int .i64 3, .int .i64 p, .string s, .pointer none, v, .int .i64 n, .slice none 0 0, .slice none 0 0]] w (Cks w NoRep (callC (findC ds) p s l n)) := by
  obtain ⟨vs, hrow, hall⟩ := hx
  obtain ⟨ao, cap, rfl⟩ := hrow.val
  obtain ⟨F, cs, rfl⟩ := h.fn
  have hb1 := below_alloc w (.cells #[.func F #[] cs] 67)
  have hb2 := below_alloc (w.alloc (.cells #[.func F #[] cs] 67)) (.cells #[.int .i64 3, .int .i64 p, .string s, .pointer none, .slice ao l.length cap, .int .i64 n, .slice none 0 0, .slice none 0 0] 48)
  have HB := hide (Below.step hb1 hb2)
  have HN := hide (Below.blk hb2 (blk_new w (.cells #[.func F #[] cs] 67)))
  have HM : Hid (((w.alloc (.cells #[.func F #[] cs] 67)).alloc (.cells #[.int .i64 3, .int .i64 p, .string s, .pointer none, .slice ao l.length cap, .int .i64 n, .slice none 0 0, .slice none 0 0] 48)).heap[w.heap.size + 1]? = some (.cells #[.int .i64 3, .int .i64 p, .string s, .pointer none, .slice ao l.length cap, .int .i64 n, .slice none 0 0, .slice none 0 0] 48 (0, 0))) := hide (by
    have h := blk_new (w.alloc (.cells #[.func F #[] cs] 67)) (.cells #[.int .i64 3, .int .i64 p, .string s, .pointer none, .slice ao l.length cap, .int .i64 n, .slice none 0 0, .slice none 0 0] 48)
    rw [show (w.alloc (.cells #[.func F #[] cs] 67)).heap.size = w.heap.size + 1 by simp] at h
    exact h)
  have HF := hide (h.below HB.out)
  have HROW := hide (hrow.same (w' := ((w.alloc (.cells #[.func F #[] cs] 67)).alloc (.cells #[.int .i64 3, .int .i64 p, .string s, .pointer none, .slice ao l.length cap, .int .i64 n, .slice none 0 0, .slice none 0 0] 48))) fun c _ h => HB.out.block c h)
  have HALL := hide (hall.imp fun _ _ (h : IsEx S w _ _) => h.below HB.out)
  have HE : Hid (callC (findC ds) p s l n = (declC (findC ds) s p).bind fun d => if (argsN d.ty).1 = 0 then .bad 1 p else if l.length ≠ (argsN d.ty).1 ∨ (n ≠ 0 ∧ (argsN d.ty).2 = false) then .bad 2 p else argsC (findC ds) l) := rfl
  clear h hrow hall hb1 hb2
  go_enter Tryd.func39, Tryd.ntmps39
  go_wp2_with fail
  generalize ((w.alloc (.cells #[.func F #[] cs] 67)).alloc (.cells #[.int .i64 3, .int .i64 p, .string s, .pointer none, .slice ao l.length cap, .int .i64 n, .slice none 0 0, .slice none 0 0] 48)) = w1 at *
  refine (ldecl_at hl HF.out s p).mono ?_
  rintro e w3 h3
  rcases h3.cases with ⟨er, q, A, hr, rfl, hA, hb3⟩ | ⟨d, v, hr, rfl, hv, hb3⟩
  · have HR := hide hr
    have HA := hide hA
    have HB3 := hide (Below.step HB.out hb3)
    clear h3 hr hA hb3
    go_wp2_with fail
    exact ⟨rfl, Cks.bad (by rw [HE.out, HR.out]; rfl) HB3.out HA.out⟩
  · have hv : v = deV d := hv
    subst hv
    obtain ⟨nm, way, ty, init⟩ := d
    have HR := hide hr
    have hbd := below_alloc w3 (.cells #[.string nm, .int .i64 way, .int .i64 ty, .int .i64 init] 32)
    have HD := hide (blk_new w3 (.cells #[.string nm, .int .i64 way, .int .i64 ty, .int .i64 init] 32))
    have HB4 := hide (Below.step hb3 hbd)
    have HM4 := hide (Below.blk HB4.out HM.out)
    have HN4 := hide (Below.blk HB4.out HN.out)
    have HF4 := hide (HF.out.below HB4.out)
    have HROW4 := hide (HROW.out.same (w' := (w3.alloc (.cells #[.string nm, .int .i64 way, .int .i64 ty, .int .i64 init] 32))) fun c _ h => HB4.out.block c h)
    have HALL4 := hide (HALL.out.imp fun _ _ (h : IsEx S w1 _ _) => h.below HB4.out)
    have HWI := hide fun W => args_kind_at ty W
    have HE2 : Hid (callC (findC ds) p s l n = if (argsN ty).1 = 0 then .bad 1 p else if l.length ≠ (argsN ty).1 ∨ (n ≠ 0 ∧ (argsN ty).2 = false) then .bad 2 p else argsC (findC ds) l) := hide (by rw [HE.out, HR.out]; rfl)
    clear h3 hr hb3 hbd HROW HALL HE HR
    go_wp2_with fail
    generalize (w3.alloc (.cells #[.string nm, .int .i64 way, .int .i64 ty, .int .i64 init] 32)) = w4 at *
    have m1 : w4.cell? ⟨w.heap.size + 1, 1, none⟩ = some (.int .i64 p) := by rw [blk_cell HM4.out]; rfl
    have m4 : w4.cell? ⟨w.heap.size + 1, 4, none⟩ = some (.slice ao l.length cap) := by rw [blk_cell HM4.out]; rfl
    have m5 : w4.cell? ⟨w.heap.size + 1, 5, none⟩ = some (.int .i64 n) := by rw [blk_cell HM4.out]; rfl
    have d2 : w4.cell? ⟨w3.heap.size, 2, none⟩ = some (.int .i64 ty) := by rw [blk_cell HD.out]; rfl
    refine (HWI.out w4).mono ?_
    rintro e w5 ⟨rfl, rfl⟩
    clear HWI
    generalize (argsN ty).1 = many at *
    generalize (argsN ty).2 = nb at *
    by_cases hm0 : many = 0
    · subst hm0
      have HR2 : Hid (callC (findC ds) p s l n = .bad 1 p) := hide (by rw [HE2.out]; simp)
      clear m4 m5
      go_wp2_with fail
      refine (throw_at 1 p _).mono ?_
      rintro e w8 ⟨⟨A, rfl, hA⟩, hb7⟩
      have HA := hide hA
      have HB7 := hide (Below.step HB.out (Below.step HB4.out hb7))
      clear hA hb7
      go_wp2_with fail
      exact ⟨rfl, Cks.bad HR2.out HB7.out HA.out⟩
    · have hmi : ((many : Int) == 0) = false := by simp; omega
      have HM0 := hide hm0
      clear hm0
      by_cases hlm : l.length = many
      · have hli : ((l.length : Int) != (many : Int)) = false := by simp; omega
        have HLM := hide hlm
        clear hlm
        by_cases hn0 : n = 0
        · subst hn0
          have HR2 : Hid (callC (findC ds) p s l 0 = argsC (findC ds) l) := hide (by rw [HE2.out, if_neg HM0.out, if_neg (by have := HLM.out; simp [this])])
          go_wp2_with fail
          go_loopw [8, 46] (fun _ i wr => ∃ j : Nat, j ≤ l.length ∧ i = .int .i64 j ∧ Hid (Below w5.heap.size w5 wr) ∧ Hid (argsC (findC ds) l = argsC (findC ds) (l.drop j))) (fun _ i _ => l.length - (intOf i).toNat)
          case atStart => exact ⟨0, Nat.zero_le _, rfl, hide (Below.refl _ _), hide (by simp)⟩
          case round =>
            obtain ⟨j, hj, rfl, hbr, hac⟩ := hrel
            by_cases hlt : j < l.length
            · have hji : (j : Int) < (l.length : Int) := by omega
              obtain ⟨g, cap', hv, hSg⟩ := row_addr HROW4.out (by omega)
              obtain ⟨rfl, rfl⟩ : ao = some ⟨g, 0, none⟩ ∧ cap = cap' := by cases hv; exact ⟨rfl, rfl⟩
              obtain ⟨u, hu, hxu⟩ := exs_get HALL4.out j hlt
              obtain ⟨X, rfl⟩ := hxu.ptr
              have cj0 := row_cell HROW4.out rfl hu
              have cj : wr.cell? ⟨g, j, none⟩ = some (.pointer (some ⟨X, 0, none⟩)) := (hbr.out.cell (cell_lt cj0)).trans cj0
              have HMR := hide (Below.blk hbr.out HM4.out)
              have HNR := hide (Below.blk hbr.out HN4.out)
              have HFR := hide (HF4.out.below hbr.out)
              have HAD := hide (argsC_drop (findC ds) l j hlt)
              have HWA := hide (want_it hl HFR.out l[j] 1 S _ (hxu.below hbr.out) 3 0 p s none (some ⟨g, 0, none⟩) none none l.length cap 0 0 0 0)
              have k0 : wr.cell? ⟨w.heap.size + 1, 0, none⟩ = some (.int .i64 3) := by rw [blk_cell HMR.out]; rfl
              have k1 : wr.cell? ⟨w.heap.size + 1, 1, none⟩ = some (.int .i64 p) := by rw [blk_cell HMR.out]; rfl
              have k2 : wr.cell? ⟨w.heap.size + 1, 2, none⟩ = some (.string s) := by rw [blk_cell HMR.out]; rfl
              have k3 : wr.cell? ⟨w.heap.size + 1, 3, none⟩ = some (.pointer none) := by rw [blk_cell HMR.out]; rfl
              have k4 : wr.cell? ⟨w.heap.size + 1, 4, none⟩ = some (.slice (some ⟨g, 0, none⟩) l.length cap) := by rw [blk_cell HMR.out]; rfl
              have k5 : wr.cell? ⟨w.heap.size + 1, 5, none⟩ = some (.int .i64 0) := by rw [blk_cell HMR.out]; rfl
              have k6 : wr.cell? ⟨w.heap.size + 1, 6, none⟩ = some (.slice none 0 0) := by rw [blk_cell HMR.out]; rfl
              have k7 : wr.cell? ⟨w.heap.size + 1, 7, none⟩ = some (.slice none 0 0) := by rw [blk_cell HMR.out]; rfl
              have n0 : wr.cell? ⟨w.heap.size, 0, none⟩ = some (.func F #[] cs) := by rw [blk_cell HNR.out]; rfl
              clear hv hu hxu cj0 m1 m4 m5 d2
              go_wp2_with fail
              refine HWA.out.mono ?_
              rintro e w6 h6
              rcases h6.cases with ⟨er, q, A, hr, rfl, hA, hb6⟩ | ⟨u, v, hr, rfl, hv, hb6⟩
              · have HR6 := hide hr
                have HA := hide hA
                have HB6 := hide (Below.step HB.out (Below.step HB4.out (Below.step hbr.out hb6)))
                clear h6 hr hA hb6
                go_wp2_with fail
                exact ⟨rfl, Cks.bad (by rw [HR2.out, hac.out, HAD.out, HR6.out]; rfl) HB6.out HA.out⟩
              · have hv : v = .tuple #[] := hv
                subst hv
                have HR6 := hide hr
                have HB6 := hide (Below.step hbr.out hb6)
                clear h6 hr hb6
                go_wp2_with fail
                exact ⟨⟨j + 1, by omega, by go_num, HB6, hide (by rw [hac.out, HAD.out, HR6.out]; rfl)⟩, by simp [intOf]; omega⟩
            · have HJ : Hid (j = l.length) := (by omega : j = l.length)
              go_wp2_with fail
              go_end0
              refine Cks.ok (a := ()) ?_ (Below.step HB.out (Below.step HB4.out hbr.out)) rfl
              rw [HR2.out, hac.out, HJ.out, List.drop_length, argsC]
        · have hni : ((n : Int) != 0) = true := by simp; omega
          cases nb with
          | true =>
            have HR2 : Hid (callC (findC ds) p s l n = argsC (findC ds) l) := hide (by rw [HE2.out, if_neg HM0.out, if_neg (by have := HLM.out; simp [this])])
            go_wp2_with fail
            go_loopw [8, 46] (fun _ i wr => ∃ j : Nat, j ≤ l.length ∧ i = .int .i64 j ∧ Hid (Below w5.heap.size w5 wr) ∧ Hid (argsC (findC ds) l = argsC (findC ds) (l.drop j))) (fun _ i _ => l.length - (intOf i).toNat)
            case atStart => exact ⟨0, Nat.zero_le _, rfl, hide (Below.refl _ _), hide (by simp)⟩
            case round =>
              obtain ⟨j, hj, rfl, hbr, hac⟩ := hrel
              by_cases hlt : j < l.length
              · have hji : (j : Int) < (l.length : Int) := by omega
                obtain ⟨g, cap', hv, hSg⟩ := row_addr HROW4.out (by omega)
                obtain ⟨rfl, rfl⟩ : ao = some ⟨g, 0, none⟩ ∧ cap = cap' := by cases hv; exact ⟨rfl, rfl⟩
                obtain ⟨u, hu, hxu⟩ := exs_get HALL4.out j hlt
                obtain ⟨X, rfl⟩ := hxu.ptr
                have cj0 := row_cell HROW4.out rfl hu
                have cj : wr.cell? ⟨g, j, none⟩ = some (.pointer (some ⟨X, 0, none⟩)) := (hbr.out.cell (cell_lt cj0)).trans cj0
                have HMR := hide (Below.blk hbr.out HM4.out)
                have HNR := hide (Below.blk hbr.out HN4.out)
                have HFR := hide (HF4.out.below hbr.out)
                have HAD := hide (argsC_drop (findC ds) l j hlt)
                have HWA := hide (want_it hl HFR.out l[j] 1 S _ (hxu.below hbr.out) 3 n p s none (some ⟨g, 0, none⟩) none none l.length cap 0 0 0 0)
                have k0 : wr.cell? ⟨w.heap.size + 1, 0, none⟩ = some (.int .i64 3) := by rw [blk_cell HMR.out]; rfl
                have k1 : wr.cell? ⟨w.heap.size + 1, 1, none⟩ = some (.int .i64 p) := by rw [blk_cell HMR.out]; rfl
                have k2 : wr.cell? ⟨w.heap.size + 1, 2, none⟩ = some (.string s) := by rw [blk_cell HMR.out]; rfl
                have k3 : wr.cell? ⟨w.heap.size + 1, 3, none⟩ = some (.pointer none) := by rw [blk_cell HMR.out]; rfl
                have k4 : wr.cell? ⟨w.heap.size + 1, 4, none⟩ = some (.slice (some ⟨g, 0, none⟩) l.length cap) := by rw [blk_cell HMR.out]; rfl
                have k5 : wr.cell? ⟨w.heap.size + 1, 5, none⟩ = some (.int .i64 n) := by rw [blk_cell HMR.out]; rfl
                have k6 : wr.cell? ⟨w.heap.size + 1, 6, none⟩ = some (.slice none 0 0) := by rw [blk_cell HMR.out]; rfl
                have k7 : wr.cell? ⟨w.heap.size + 1, 7, none⟩ = some (.slice none 0 0) := by rw [blk_cell HMR.out]; rfl
                have n0 : wr.cell? ⟨w.heap.size, 0, none⟩ = some (.func F #[] cs) := by rw [blk_cell HNR.out]; rfl
                clear hv hu hxu cj0 m1 m4 m5 d2
                go_wp2_with fail
                refine HWA.out.mono ?_
                rintro e w6 h6
                rcases h6.cases with ⟨er, q, A, hr, rfl, hA, hb6⟩ | ⟨u, v, hr, rfl, hv, hb6⟩
                · have HR6 := hide hr
                  have HA := hide hA
                  have HB6 := hide (Below.step HB.out (Below.step HB4.out (Below.step hbr.out hb6)))
                  clear h6 hr hA hb6
                  go_wp2_with fail
                  exact ⟨rfl, Cks.bad (by rw [HR2.out, hac.out, HAD.out, HR6.out]; rfl) HB6.out HA.out⟩
                · have hv : v = .tuple #[] := hv
                  subst hv
                  have HR6 := hide hr
                  have HB6 := hide (Below.step hbr.out hb6)
                  clear h6 hr hb6
                  go_wp2_with fail
                  exact ⟨⟨j + 1, by omega, by go_num, HB6, hide (by rw [hac.out, HAD.out, HR6.out]; rfl)⟩, by simp [intOf]; omega⟩
              · have HJ : Hid (j = l.length) := (by omega : j = l.length)
                go_wp2_with fail
                go_end0
                refine Cks.ok (a := ()) ?_ (Below.step HB.out (Below.step HB4.out hbr.out)) rfl
                rw [HR2.out, hac.out, HJ.out, List.drop_length, argsC]
          | false =>
            have HR2 : Hid (callC (findC ds) p s l n = .bad 2 p) := hide (by rw [HE2.out, if_neg HM0.out, if_pos (.inr ⟨hn0, rfl⟩)])
            go_wp2_with fail
            refine (throw_at 2 p _).mono ?_
            rintro e w8 ⟨⟨A, rfl, hA⟩, hb7⟩
            have HA := hide hA
            have HB7 := hide (Below.step HB.out (Below.step HB4.out hb7))
            clear hA hb7
            go_wp2_with fail
            exact ⟨rfl, Cks.bad HR2.out HB7.out HA.out⟩
      · have hli : ((l.length : Int) != (many : Int)) = true := by simp; omega
        have HR2 : Hid (callC (findC ds) p s l n = .bad 2 p) := hide (by rw [HE2.out, if_neg HM0.out, if_pos (.inl hlm)])
        clear hlm
        go_wp2_with fail
        refine (throw_at 2 p _).mono ?_
        rintro e w8 ⟨⟨A, rfl, hA⟩, hb7⟩
        have HA := hide hA
        have HB7 := hide (Below.step HB.out (Below.step HB4.out hb7))
        clear hA hb7
        go_wp2_with fail
        exact ⟨rfl, Cks.bad HR2.out HB7.out HA.out⟩
end Go.Proofs.YtiimnnancblbkaaDoor
set_option linter.unusedSimpArgs false
set_option linter.unusedVariables false
namespace Go.Proofs.YtiimnnancblbkaaDoor
open Go.RowKit

mutual
/-- rows of a size that is met -/
def SmS : St → Prop
  | .set .. => True
  | .call _ _ l _ => l.length ≤ 1000000
  | .cond _ _ th el => SmL th ∧ SmL el ∧ th.length ≤ 1000000 ∧ el.length ≤ 1000000
def SmL : List St → Prop
  | [] => True
  | s :: l => SmS s ∧ SmL l
end
theorem argsK_ge : ∀ l : List Ex, l.length ≤ (argsK l).length
  | [] => by simp
  | x :: l => by have := argsK_ge l; simp only [argsK, List.length_append, List.length_cons, List.length_nil]; omega
theorem stsK_ge : ∀ l : List St, l.length ≤ (stsK l).length
  | [] => by simp
  | s :: l => by have := stsK_ge l; have := stK_pos s; simp only [stsK, List.length_append, List.length_cons]; omega
mutual
theorem sm_st : ∀ s : St, (stK s).length ≤ 1000000 → SmS s
  | .set .., _ => by simp only [SmS]
  | .call _ _ l _, h => by
    simp only [stK, List.length_append, List.length_cons, List.length_nil] at h
    have := argsK_ge l
    simp only [SmS]; omega
  | .cond _ _ th [], h => by
    simp only [stK, List.length_append, List.length_cons, List.length_nil] at h
    have := stsK_ge th
    have h1 := sm_sts th (by omega)
    simp only [SmS, SmL, List.length_nil]
    exact ⟨h1, trivial, by omega, by omega⟩
  | .cond _ _ th (e :: el), h => by
    simp only [stK, List.length_append, List.length_cons, List.length_nil] at h
    have := stsK_ge th
    have := stsK_ge (e :: el)
    have h1 := sm_sts th (by omega)
    have h2 := sm_sts (e :: el) (by omega)
    simp only [SmS]
    exact ⟨h1, h2, by omega, by omega⟩
theorem sm_sts : ∀ l : List St, (stsK l).length ≤ 1000000 → SmL l
  | [], _ => by simp only [SmL]
  | s :: l, h => by
    simp only [stsK, List.length_append] at h
    simp only [SmL]
    exact ⟨sm_st s (by omega), sm_sts l (by omega)⟩
end
theorem smL_mem : ∀ {l : List St}, SmL l → ∀ s ∈ l, SmS s
  | s :: l, h, t, ht => by
    simp only [SmL] at h
    rcases List.mem_cons.1 ht with e | e
    · rw [e]; exact h.1
    · exact smL_mem h.2 t e
theorem stl_get {S : Nat → Prop} {w : World} : ∀ {l : List St} {cs : List (List Value)}, IsStL S w l cs → ∀ i (h : i < l.length), ∃ c, cs[i]? = some c ∧ IsSt S w l[i] c
  | s :: l, c :: cs, h, 0, _ => by simp only [IsStL] at h; exact ⟨c, rfl, h.1⟩
  | s :: l, c :: cs, h, i + 1, hi => by
    simp only [IsStL] at h
    obtain ⟨d, hd, hs⟩ := stl_get h.2 i (by simpa using hi)
    exact ⟨d, by simpa using hd, by simpa using hs⟩
  | _ :: _, [], h, _, _ => by simp only [IsStL] at h
theorem stl_eight {S : Nat → Prop} {w : World} : ∀ {l : List St} {cs : List (List Value)}, IsStL S w l cs → ∀ c ∈ cs, c.length = 8
  | [], [], _, c, hc => by simp at hc
  | s :: l, d :: cs, h, c, hc => by
    simp only [IsStL] at h
    rcases List.mem_cons.1 hc with e | e
    · rw [e]; exact (IsSt.form s d h.1).1
    · exact stl_eight h.2 c e
  | [], _ :: _, h, _, _ => by simp only [IsStL] at h
  | _ :: _, [], h, _, _ => by simp only [IsStL] at h
theorem flat_nth {α : Type} (m : Nat) : ∀ (cs : List (List α)), (∀ c ∈ cs, c.length = m) → ∀ (i : Nat) (c : List α), cs[i]? = some c → ∀ k, k < m → cs.flatten[i * m + k]? = c[k]?
  | [], _, i, c, h, _, _ => by simp at h
  | d :: cs, h8, 0, c, h, k, hk => by
    simp at h; subst h
    rw [List.flatten_cons, List.getElem?_append_left (by rw [h8 d (by simp)]; omega)]
    simp
  | d :: cs, h8, i + 1, c, h, k, hk => by
    have hd := h8 d (by simp)
    have e : (i + 1) * m + k = d.length + (i * m + k) := by rw [hd, Nat.add_mul]; omega
    rw [List.flatten_cons, e, List.getElem?_append_right (by omega), Nat.add_sub_cancel_left]
    exact flat_nth m cs (fun c hc => h8 c (by simp [hc])) i c (by simpa using h) k hk
theorem stsC_drop (f : Find) (l : List St) (j : Nat) (h : j < l.length) : stsC f (l.drop j) = (stC f l[j]).bind fun _ => stsC f (l.drop (j + 1)) := by
  rw [List.drop_eq_getElem_cons h, stsC]

def LS (l : List St) : Prop := ∀ (S : Nat → Prop) (w : World) (v LV : Value) (ds : List De), ds.length ≤ 30 → Fd w LV ds → IsSts S w l v → Calls Tryd.prog 21 #[lkV LV, v] w (Cks w NoRep (stsC (findC ds) l))

set_option maxRecDepth 100000 in
set_option maxHeartbeats 6400000 in
theorem lsts_at (l : List St) (hll : l.length ≤ 1000000) (hsm : SmL l) (ih : ∀ p x th el, St.cond p x th el ∈ l → LS th ∧ LS el) : LS l := by
  intro S w v LV ds hl h hx
  obtain ⟨cs1, hrow, hall⟩ := hx
  obtain ⟨ao, cap, rfl⟩ := hrow.val
  obtain ⟨F, cs, rfl⟩ := h.fn
  have HB := hide (below_alloc w (.cells #[.func F #[] cs] 67))
  have HN := hide (blk_new w (.cells #[.func F #[] cs] 67))
  have HF := hide (h.below HB.out)
  have HROW := hide (hrow.same (w' := (w.alloc (.cells #[.func F #[] cs] 67))) fun c _ h => HB.out.block c h)
  have HALL := hide (IsStL.same (w' := (w.alloc (.cells #[.func F #[] cs] 67))) (fun c _ h => HB.out.block c h) l cs1 hall)
  have HSM := hide (smL_mem hsm)
  have IH := hide ih
  clear h hrow hall hsm ih
  go_enter Tryd.func21, Tryd.ntmps21
  go_wp2_with fail
  generalize (w.alloc (.cells #[.func F #[] cs] 67)) = w1 at *
  go_loopw [5, 8] (fun _ i wr => ∃ j : Nat, j ≤ l.length ∧ i = .int .i64 j ∧ Hid (Below w1.heap.size w1 wr) ∧ Hid (stsC (findC ds) l = stsC (findC ds) (l.drop j))) (fun _ i _ => l.length - (intOf i).toNat)
  case atStart => exact ⟨0, Nat.zero_le _, rfl, hide (Below.refl _ _), hide (by simp)⟩
  case round =>
    obtain ⟨j, hj, rfl, hbr, hac⟩ := hrel
    by_cases hlt : j < l.length
    · have hji : (j : Int) < (l.length : Int) := by omega
      obtain ⟨g, cap', hv, hSg⟩ := row_addr HROW.out (by omega)
      obtain ⟨rfl, rfl⟩ : ao = some ⟨g, 0, none⟩ ∧ cap = cap' := by cases hv; exact ⟨rfl, rfl⟩
      obtain ⟨c, hc, hst⟩ := stl_get HALL.out j hlt
      have HCELL : Hid (∀ k u, c[k]? = some u → k < 8 → wr.cell? ⟨g, j * 8 + k, none⟩ = some u) := hide (fun k u hk h8 => by
        have h0 : w1.cell? ⟨g, j * 8 + k, none⟩ = some u := row_cell HROW.out rfl (by rw [flat_nth 8 cs1 (stl_eight HALL.out) j c hc k h8]; exact hk)
        exact (hbr.out.cell (cell_lt h0)).trans h0)
      have HAD := hide (stsC_drop (findC ds) l j hlt)
      have HMEM := hide (List.getElem_mem hlt)
      have HSJ := hide (HSM.out _ HMEM.out)
      generalize l[j] = st at *
      have HST := hide (IsSt.same (w' := wr) (fun c _ h => hbr.out.block c h) st c hst)
      have HFR := hide (HF.out.below hbr.out)
      have HNR := hide (Below.blk hbr.out HN.out)
      clear hv hc hst
      cases st with
      | set p nm x =>
        have hst := HST.out
        simp only [IsSt] at hst
        obtain ⟨a, rfl, hxa⟩ := hst
        obtain ⟨X, rfl⟩ := hxa.ptr
        have r0 : wr.cell? ⟨g, j * 8, none⟩ = some (.int .i64 1) := HCELL.out 0 _ rfl (by decide)
        have r1 : wr.cell? ⟨g, j * 8 + 1, none⟩ = some (.int .i64 p) := HCELL.out 1 _ rfl (by decide)
        have r2 : wr.cell? ⟨g, j * 8 + 2, none⟩ = some (.string nm) := HCELL.out 2 _ rfl (by decide)
        have r3 : wr.cell? ⟨g, j * 8 + 3, none⟩ = some (.pointer (some ⟨X, 0, none⟩)) := HCELL.out 3 _ rfl (by decide)
        have r4 : wr.cell? ⟨g, j * 8 + 4, none⟩ = some (.slice none 0 0) := HCELL.out 4 _ rfl (by decide)
        have r5 : wr.cell? ⟨g, j * 8 + 5, none⟩ = some (.int .i64 0) := HCELL.out 5 _ rfl (by decide)
        have r6 : wr.cell? ⟨g, j * 8 + 6, none⟩ = some (.slice none 0 0) := HCELL.out 6 _ rfl (by decide)
        have r7 : wr.cell? ⟨g, j * 8 + 7, none⟩ = some (.slice none 0 0) := HCELL.out 7 _ rfl (by decide)
        have HO := hide (below_alloc wr (.cells #[.int .i64 1, .int .i64 p, .string nm, .pointer (some ⟨X, 0, none⟩), .slice none 0 0, .int .i64 0, .slice none 0 0, .slice none 0 0] 48))
        have HN2 := hide (blk_new wr (.cells #[.int .i64 1, .int .i64 p, .string nm, .pointer (some ⟨X, 0, none⟩), .slice none 0 0, .int .i64 0, .slice none 0 0, .slice none 0 0] 48))
        have HF2 := hide (HFR.out.below HO.out)
        have HK2 := hide (Below.blk HO.out HNR.out)
        have lk0 : (wr.alloc (.cells #[.int .i64 1, .int .i64 p, .string nm, .pointer (some ⟨X, 0, none⟩), .slice none 0 0, .int .i64 0, .slice none 0 0, .slice none 0 0] 48)).cell? ⟨w.heap.size, 0, none⟩ = some (.func F #[] cs) := by rw [blk_cell HK2.out]; rfl
        have HCA := hide (lset_at hl HF2.out p nm x S _ (hxa.below HO.out))
        clear hxa
        go_wp2_with fail
        refine HCA.out.mono ?_
        rintro e w6 h6
        rcases h6.cases with ⟨er, q, A, hr, rfl, hA, hb6⟩ | ⟨u6, v6, hr, rfl, hv, hb6⟩
        · have HR6 := hide hr
          have HA := hide hA
          have HB6 := hide (Below.step HB.out (Below.step hbr.out (Below.step HO.out hb6)))
          clear h6 hr hA hb6
          go_wp2_with fail
          exact ⟨rfl, Cks.bad (by rw [hac.out, HAD.out]; simp only [stC, Ck.bind, HR6.out]) HB6.out HA.out⟩
        · have hv : v6 = .tuple #[] := hv
          subst hv
          have HR6 := hide hr
          have HB6 := hide (Below.step hbr.out (Below.step HO.out hb6))
          clear h6 hr hb6
          go_wp2_with fail
          exact ⟨⟨j + 1, by omega, by go_num, HB6, hide (by rw [hac.out, HAD.out]; simp only [stC, Ck.bind, HR6.out])⟩, by simp [intOf]; omega⟩
      | call p nm xs n =>
        have hst := HST.out
        simp only [IsSt] at hst
        obtain ⟨a, rfl, hxa⟩ := hst
        obtain ⟨aa, ac, rfl⟩ := (show ∃ (x : Option Addr) (c : Nat), a = .slice x xs.length c from by obtain ⟨vs, hr, _⟩ := hxa; exact hr.val)
        have r0 : wr.cell? ⟨g, j * 8, none⟩ = some (.int .i64 3) := HCELL.out 0 _ rfl (by decide)
        have r1 : wr.cell? ⟨g, j * 8 + 1, none⟩ = some (.int .i64 p) := HCELL.out 1 _ rfl (by decide)
        have r2 : wr.cell? ⟨g, j * 8 + 2, none⟩ = some (.string nm) := HCELL.out 2 _ rfl (by decide)
        have r3 : wr.cell? ⟨g, j * 8 + 3, none⟩ = some (.pointer none) := HCELL.out 3 _ rfl (by decide)
        have r4 : wr.cell? ⟨g, j * 8 + 4, none⟩ = some (.slice aa xs.length ac) := HCELL.out 4 _ rfl (by decide)
        have r5 : wr.cell? ⟨g, j * 8 + 5, none⟩ = some (.int .i64 n) := HCELL.out 5 _ rfl (by decide)
        have r6 : wr.cell? ⟨g, j * 8 + 6, none⟩ = some (.slice none 0 0) := HCELL.out 6 _ rfl (by decide)
        have r7 : wr.cell? ⟨g, j * 8 + 7, none⟩ = some (.slice none 0 0) := HCELL.out 7 _ rfl (by decide)
        have HO := hide (below_alloc wr (.cells #[.int .i64 3, .int .i64 p, .string nm, .pointer none, .slice aa xs.length ac, .int .i64 n, .slice none 0 0, .slice none 0 0] 48))
        have HN2 := hide (blk_new wr (.cells #[.int .i64 3, .int .i64 p, .string nm, .pointer none, .slice aa xs.length ac, .int .i64 n, .slice none 0 0, .slice none 0 0] 48))
        have HF2 := hide (HFR.out.below HO.out)
        have HK2 := hide (Below.blk HO.out HNR.out)
        have lk0 : (wr.alloc (.cells #[.int .i64 3, .int .i64 p, .string nm, .pointer none, .slice aa xs.length ac, .int .i64 n, .slice none 0 0, .slice none 0 0] 48)).cell? ⟨w.heap.size, 0, none⟩ = some (.func F #[] cs) := by rw [blk_cell HK2.out]; rfl
        have HSX := HSJ.out
        simp only [SmS] at HSX
        have HCA := hide (lcall_at hl HF2.out p nm xs n HSX S _ (hxa.same fun c _ h => HO.out.block c h))
        clear hxa HSX
        go_wp2_with fail
        refine HCA.out.mono ?_
        rintro e w6 h6
        rcases h6.cases with ⟨er, q, A, hr, rfl, hA, hb6⟩ | ⟨u6, v6, hr, rfl, hv, hb6⟩
        · have HR6 := hide hr
          have HA := hide hA
          have HB6 := hide (Below.step HB.out (Below.step hbr.out (Below.step HO.out hb6)))
          clear h6 hr hA hb6
          go_wp2_with fail
          exact ⟨rfl, Cks.bad (by rw [hac.out, HAD.out]; simp only [stC, Ck.bind, HR6.out]) HB6.out HA.out⟩
        · have hv : v6 = .tuple #[] := hv
          subst hv
          have HR6 := hide hr
          have HB6 := hide (Below.step hbr.out (Below.step HO.out hb6))
          clear h6 hr hb6
          go_wp2_with fail
          exact ⟨⟨j + 1, by omega, by go_num, HB6, hide (by rw [hac.out, HAD.out]; simp only [stC, Ck.bind, HR6.out])⟩, by simp [intOf]; omega⟩
      | cond p x th el =>
        have hst := HST.out
        simp only [IsSt] at hst
        obtain ⟨a, t, u, cs3, ds3, rfl, hxa, ht1, ht2, he1, he2⟩ := hst
        have hth : IsSts S wr th t := ⟨cs3, ht1, ht2⟩
        have hel : IsSts S wr el u := ⟨ds3, he1, he2⟩
        obtain ⟨X, rfl⟩ := hxa.ptr
        obtain ⟨ta, tc, rfl⟩ := ht1.val
        obtain ⟨ua, uc, rfl⟩ := he1.val
        clear ht1 ht2 he1 he2
        have r0 : wr.cell? ⟨g, j * 8, none⟩ = some (.int .i64 2) := HCELL.out 0 _ rfl (by decide)
        have r1 : wr.cell? ⟨g, j * 8 + 1, none⟩ = some (.int .i64 p) := HCELL.out 1 _ rfl (by decide)
        have r2 : wr.cell? ⟨g, j * 8 + 2, none⟩ = some (.string ⟨#[]⟩) := HCELL.out 2 _ rfl (by decide)
        have r3 : wr.cell? ⟨g, j * 8 + 3, none⟩ = some (.pointer (some ⟨X, 0, none⟩)) := HCELL.out 3 _ rfl (by decide)
        have r4 : wr.cell? ⟨g, j * 8 + 4, none⟩ = some (.slice none 0 0) := HCELL.out 4 _ rfl (by decide)
        have r5 : wr.cell? ⟨g, j * 8 + 5, none⟩ = some (.int .i64 0) := HCELL.out 5 _ rfl (by decide)
        have r6 : wr.cell? ⟨g, j * 8 + 6, none⟩ = some (.slice ta th.length tc) := HCELL.out 6 _ rfl (by decide)
        have r7 : wr.cell? ⟨g, j * 8 + 7, none⟩ = some (.slice ua el.length uc) := HCELL.out 7 _ rfl (by decide)
        have HO := hide (below_alloc wr (.cells #[.int .i64 2, .int .i64 p, .string ⟨#[]⟩, .pointer (some ⟨X, 0, none⟩), .slice none 0 0, .int .i64 0, .slice ta th.length tc, .slice ua el.length uc] 48))
        have HN2 := hide (blk_new wr (.cells #[.int .i64 2, .int .i64 p, .string ⟨#[]⟩, .pointer (some ⟨X, 0, none⟩), .slice none 0 0, .int .i64 0, .slice ta th.length tc, .slice ua el.length uc] 48))
        have HF2 := hide (HFR.out.below HO.out)
        have HK2 := hide (Below.blk HO.out HNR.out)
        have lk0 : (wr.alloc (.cells #[.int .i64 2, .int .i64 p, .string ⟨#[]⟩, .pointer (some ⟨X, 0, none⟩), .slice none 0 0, .int .i64 0, .slice ta th.length tc, .slice ua el.length uc] 48)).cell? ⟨w.heap.size, 0, none⟩ = some (.func F #[] cs) := by rw [blk_cell HK2.out]; rfl
        obtain ⟨ih1, ih2⟩ := IH.out p x th el HMEM.out
        have HWA := hide (want_it hl HF2.out x 1 S _ (hxa.below HO.out) 2 0 p ⟨#[]⟩ (some ⟨X, 0, none⟩) none ta ua 0 0 th.length tc el.length uc)
        have HTH := hide fun W hb => ih1 S W _ _ ds hl (HF2.out.below hb) ((hth.same (w' := (wr.alloc (.cells #[.int .i64 2, .int .i64 p, .string ⟨#[]⟩, .pointer (some ⟨X, 0, none⟩), .slice none 0 0, .int .i64 0, .slice ta th.length tc, .slice ua el.length uc] 48))) fun c _ h => HO.out.block c h).same fun c _ h => hb.block c h)
        have HEL := hide fun W hb => ih2 S W _ _ ds hl (HF2.out.below hb) ((hel.same (w' := (wr.alloc (.cells #[.int .i64 2, .int .i64 p, .string ⟨#[]⟩, .pointer (some ⟨X, 0, none⟩), .slice none 0 0, .int .i64 0, .slice ta th.length tc, .slice ua el.length uc] 48))) fun c _ h => HO.out.block c h).same fun c _ h => hb.block c h)
        clear hxa hth hel ih1 ih2
        go_wp2_with fail
        generalize (wr.alloc (.cells #[.int .i64 2, .int .i64 p, .string ⟨#[]⟩, .pointer (some ⟨X, 0, none⟩), .slice none 0 0, .int .i64 0, .slice ta th.length tc, .slice ua el.length uc] 48)) = w2 at *
        have z0 : w2.cell? ⟨wr.heap.size, 0, none⟩ = some (.int .i64 2) := by rw [blk_cell HN2.out]; rfl
        refine HWA.out.mono ?_
        rintro e w6 h6
        rcases h6.cases with ⟨er, q, A, hr, rfl, hA, hb6⟩ | ⟨u6, v6, hr, rfl, hv, hb6⟩
        · have HR6 := hide hr
          have HA := hide hA
          have HB6 := hide (Below.step HB.out (Below.step hbr.out (Below.step HO.out hb6)))
          clear h6 hr hA hb6
          go_wp2_with fail
          exact ⟨rfl, Cks.bad (by rw [hac.out, HAD.out]; simp only [stC, Ck.bind, HR6.out]) HB6.out HA.out⟩
        · have hv : v6 = .tuple #[] := hv
          subst hv
          have HR6 := hide hr
          have HB26 := hide hb6
          have HN6 := hide (Below.blk hb6 HN2.out)
          have HK6 := hide (Below.blk hb6 HK2.out)
          have y6 : w6.cell? ⟨wr.heap.size, 6, none⟩ = some (.slice ta th.length tc) := by rw [blk_cell HN6.out]; rfl
          have y0 : w6.cell? ⟨w.heap.size, 0, none⟩ = some (.func F #[] cs) := by rw [blk_cell HK6.out]; rfl
          clear h6 hr hb6 z0
          go_wp2_with fail
          refine (HTH.out w6 HB26.out).mono ?_
          rintro e w7 h7
          rcases h7.cases with ⟨er, q, A, hr, rfl, hA, hb7⟩ | ⟨u7, v7, hr, rfl, hv, hb7⟩
          · have HR7 := hide hr
            have HA := hide hA
            have HB7 := hide (Below.step HB.out (Below.step hbr.out (Below.step HO.out (Below.step HB26.out hb7))))
            clear h7 hr hA hb7
            go_wp2_with fail
            exact ⟨rfl, Cks.bad (by rw [hac.out, HAD.out]; simp only [stC, Ck.bind, HR6.out, HR7.out]) HB7.out HA.out⟩
          · have hv : v7 = .tuple #[] := hv
            subst hv
            have HR7 := hide hr
            have HB27 := hide (Below.step HB26.out hb7)
            have HN7 := hide (Below.blk hb7 HN6.out)
            have HK7 := hide (Below.blk hb7 HK6.out)
            have y7 : w7.cell? ⟨wr.heap.size, 7, none⟩ = some (.slice ua el.length uc) := by rw [blk_cell HN7.out]; rfl
            have z1 : w7.cell? ⟨w.heap.size, 0, none⟩ = some (.func F #[] cs) := by rw [blk_cell HK7.out]; rfl
            clear h7 hr hb7 y6 y0
            go_wp2_with fail
            refine (HEL.out w7 HB27.out).mono ?_
            rintro e w8 h8
            rcases h8.cases with ⟨er, q, A, hr, rfl, hA, hb8⟩ | ⟨u8, v8, hr, rfl, hv, hb8⟩
            · have HR8 := hide hr
              have HA := hide hA
              have HB8 := hide (Below.step HB.out (Below.step hbr.out (Below.step HO.out (Below.step HB27.out hb8))))
              clear h8 hr hA hb8
              go_wp2_with fail
              exact ⟨rfl, Cks.bad (by rw [hac.out, HAD.out]; simp only [stC, Ck.bind, HR6.out, HR7.out, HR8.out]) HB8.out HA.out⟩
            · have hv : v8 = .tuple #[] := hv
              subst hv
              have HR8 := hide hr
              have HB28 := hide (Below.step hbr.out (Below.step HO.out (Below.step HB27.out hb8)))
              clear h8 hr hb8 y7 z1
              go_wp2_with fail
              exact ⟨⟨j + 1, by omega, by go_num, HB28, hide (by rw [hac.out, HAD.out]; simp only [stC, Ck.bind, HR6.out, HR7.out, HR8.out])⟩, by simp [intOf]; omega⟩
    · have HJ : Hid (j = l.length) := (by omega : j = l.length)
      go_wp2_with fail
      go_end0
      refine Cks.ok (a := ()) ?_ (Below.step HB.out hbr.out) rfl
      rw [hac.out, HJ.out, List.drop_length, stsC]

theorem ls_all : ∀ (n : Nat) (l : List St), depL l ≤ n → l.length ≤ 1000000 → SmL l → LS l := by
  intro n
  induction n with
  | zero =>
    intro l hd hll hg
    refine lsts_at l hll hg fun p x th el hm => ?_
    exfalso
    have : ∀ (l : List St), St.cond p x th el ∈ l → 1 ≤ depL l := by
      intro l
      induction l with
      | nil => intro h; cases h
      | cons s l ih =>
        intro h
        simp only [depL]
        rcases List.mem_cons.1 h with e | e
        · rw [← e]; simp only [depS]; omega
        · have := ih e; omega
    have := this l hm
    omega
  | succ n ih =>
    intro l hd hll hg
    refine lsts_at l hll hg fun p x th el hm => ?_
    have hdep : ∀ (l : List St), St.cond p x th el ∈ l → 1 + max (depL th) (depL el) ≤ depL l := by
      intro l
      induction l with
      | nil => intro h; cases h
      | cons s l ih =>
        intro h
        simp only [depL]
        rcases List.mem_cons.1 h with e | e
        · rw [← e]; simp only [depS]; omega
        · have := ih e; omega
    have h1 := hdep l hm
    have h2 := smL_mem hg _ hm
    simp only [SmS] at h2
    exact ⟨ih th (by omega) h2.2.2.1 h2.1, ih el (by omega) h2.2.2.2 h2.2.1⟩
end Go.Proofs.YtiimnnancblbkaaDoor
