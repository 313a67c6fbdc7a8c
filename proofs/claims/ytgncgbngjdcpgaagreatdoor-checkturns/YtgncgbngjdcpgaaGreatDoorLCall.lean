/-
  CONTRACT of call.
-/
import Derived.Test.YtgncgbngjdcpgaaGreatDoorWant
set_option linter.unusedSimpArgs false
set_option linter.unusedVariables false
namespace Go.Proofs.YtgncgbngjdcpgaaGreatDoor
open Go.RowKit

theorem exs_get {S : Nat → Prop} {w : World} : ∀ {l : List Ex} {vs : List Value}, All2 (IsEx S w) l vs → ∀ i (h : i < l.length), ∃ b, vs[i]? = some b ∧ IsEx S w l[i] b
  | a :: l, b :: m, ⟨h1, h2⟩, 0, _ => ⟨b, rfl, h1⟩
  | a :: l, b :: m, ⟨h1, h2⟩, i + 1, h => by
    obtain ⟨c, hc, hp⟩ := exs_get h2 i (by simpa using h)
    exact ⟨c, by simpa using hc, by simpa using hp⟩
theorem row_cell {S : Nat → Prop} {e size n : Nat} {w : World} {v : Value} {xs : List Value} (h : IsRow S w e size v n xs) {g cap m : Nat} (hv : v = .slice (some ⟨g, 0, none⟩) m cap) {j : Nat} {u : Value} (hj : xs[j]? = some u) : w.cell? ⟨g, j, none⟩ = some u := by
  subst hv
  have := h.1.cells (g := g) rfl j u hj
  unfold Addr.add at this
  split at this
  · rename_i e; subst e; exact this
  · simpa using this
theorem row_addr {S : Nat → Prop} {e size n : Nat} {w : World} {v : Value} {xs : List Value} (h : IsRow S w e size v n xs) (hn : 0 < n) : ∃ g cap : Nat, v = .slice (some ⟨g, 0, none⟩) n cap ∧ S g := by
  rcases h.1.2 with ⟨rfl, rfl⟩ | ⟨g, cap, cur, rfl, _⟩
  · omega
  · exact ⟨g, cap, rfl, h.2 g rfl⟩
theorem argsC_drop (f : Find) (l : List Ex) (j : Nat) (h : j < l.length) : argsC f (l.drop j) = (wantC f l[j] 1).bind fun _ => argsC f (l.drop (j + 1)) := by
  rw [List.drop_eq_getElem_cons h, argsC]

set_option maxRecDepth 100000 in
set_option maxHeartbeats 6400000 in
theorem lcall_at {w : World} {LV : Value} {ds : List De} (hl : ds.length ≤ 30) (h : Fd w LV ds) (p : Nat) (s : ByteArray) (l : List Ex) (n : Nat) (hll : l.length ≤ 1000000) (S : Nat → Prop) (v : Value) (hx : IsExs S w l v) :
    Calls Tryz.prog 104 #[lkV LV, .agg #[.int .i64 3, .int .i64 p, .string s, .pointer none, v, .int .i64 n, .slice none 0 0, .slice none 0 0]] w (Cks w NoRep (callC (findC ds) p s l n)) := by
  obtain ⟨vs, hrow, hall⟩ := hx
  obtain ⟨ao, cap, rfl⟩ := hrow.val
  obtain ⟨F, cs, rfl⟩ := h.fn
  have hb1 := below_alloc w (.cells #[.func F #[] cs] 122)
  have hb2 := below_alloc (w.alloc (.cells #[.func F #[] cs] 122)) (.cells #[.int .i64 3, .int .i64 p, .string s, .pointer none, .slice ao l.length cap, .int .i64 n, .slice none 0 0, .slice none 0 0] 99)
  have HB := hide (Below.step hb1 hb2)
  have HN := hide (Below.blk hb2 (blk_new w (.cells #[.func F #[] cs] 122)))
  have HM : Hid (((w.alloc (.cells #[.func F #[] cs] 122)).alloc (.cells #[.int .i64 3, .int .i64 p, .string s, .pointer none, .slice ao l.length cap, .int .i64 n, .slice none 0 0, .slice none 0 0] 99)).heap[w.heap.size + 1]? = some (.cells #[.int .i64 3, .int .i64 p, .string s, .pointer none, .slice ao l.length cap, .int .i64 n, .slice none 0 0, .slice none 0 0] 99 (0, 0))) := hide (by
    have h := blk_new (w.alloc (.cells #[.func F #[] cs] 122)) (.cells #[.int .i64 3, .int .i64 p, .string s, .pointer none, .slice ao l.length cap, .int .i64 n, .slice none 0 0, .slice none 0 0] 99)
    rw [show (w.alloc (.cells #[.func F #[] cs] 122)).heap.size = w.heap.size + 1 by simp] at h
    exact h)
  have HF := hide (h.below HB.out)
  have HROW := hide (hrow.same (w' := ((w.alloc (.cells #[.func F #[] cs] 122)).alloc (.cells #[.int .i64 3, .int .i64 p, .string s, .pointer none, .slice ao l.length cap, .int .i64 n, .slice none 0 0, .slice none 0 0] 99))) fun c _ h => HB.out.block c h)
  have HALL := hide (hall.imp fun _ _ (h : IsEx S w _ _) => h.below HB.out)
  have HE : Hid (callC (findC ds) p s l n = (declC (findC ds) s p).bind fun d => if (argsN d.ty).1 = 0 then .bad 1 p else if l.length ≠ (argsN d.ty).1 ∨ (n ≠ 0 ∧ (argsN d.ty).2 = false) then .bad 2 p else argsC (findC ds) l) := rfl
  clear h hrow hall hb1 hb2
  go_enter Tryz.func104, Tryz.ntmps104
  go_wp2_with fail
  generalize ((w.alloc (.cells #[.func F #[] cs] 122)).alloc (.cells #[.int .i64 3, .int .i64 p, .string s, .pointer none, .slice ao l.length cap, .int .i64 n, .slice none 0 0, .slice none 0 0] 99)) = w1 at *
  refine (ldecl_at hl HF.out s p).mono ?_
  rintro e w3 h3
  rcases h3.cases with ⟨er, q, A, hr, rfl, hA, hb3⟩ | ⟨d, v, hr, rfl, hv, hb3⟩
  · have HR := hide hr
    have HA := hide hA
    have HB3 := hide (Below.step HB.out hb3)
    clear h3 hr hA hb3
    go_wp2_with fail
    exact ⟨rfl, Cks.bad (by rw [HE.out, HR.out]; rfl) HB3.out HA.out⟩
  · have hv : v = deV d := hv
    subst hv
    obtain ⟨nm, way, ty, init⟩ := d
    have HR := hide hr
    have hbd := below_alloc w3 (.cells #[.string nm, .int .i64 way, .int .i64 ty, .int .i64 init] 60)
    have HD := hide (blk_new w3 (.cells #[.string nm, .int .i64 way, .int .i64 ty, .int .i64 init] 60))
    have HB4 := hide (Below.step hb3 hbd)
    have HM4 := hide (Below.blk HB4.out HM.out)
    have HN4 := hide (Below.blk HB4.out HN.out)
    have HF4 := hide (HF.out.below HB4.out)
    have HROW4 := hide (HROW.out.same (w' := (w3.alloc (.cells #[.string nm, .int .i64 way, .int .i64 ty, .int .i64 init] 60))) fun c _ h => HB4.out.block c h)
    have HALL4 := hide (HALL.out.imp fun _ _ (h : IsEx S w1 _ _) => h.below HB4.out)
    have HWI := hide fun W => args_kind_at ty W
    have HE2 : Hid (callC (findC ds) p s l n = if (argsN ty).1 = 0 then .bad 1 p else if l.length ≠ (argsN ty).1 ∨ (n ≠ 0 ∧ (argsN ty).2 = false) then .bad 2 p else argsC (findC ds) l) := hide (by rw [HE.out, HR.out]; rfl)
    clear h3 hr hb3 hbd HROW HALL HE HR
    go_wp2_with fail
    generalize (w3.alloc (.cells #[.string nm, .int .i64 way, .int .i64 ty, .int .i64 init] 60)) = w4 at *
    have m1 : w4.cell? ⟨w.heap.size + 1, 1, none⟩ = some (.int .i64 p) := by rw [blk_cell HM4.out]; rfl
    have m4 : w4.cell? ⟨w.heap.size + 1, 4, none⟩ = some (.slice ao l.length cap) := by rw [blk_cell HM4.out]; rfl
    have m5 : w4.cell? ⟨w.heap.size + 1, 5, none⟩ = some (.int .i64 n) := by rw [blk_cell HM4.out]; rfl
    have d2 : w4.cell? ⟨w3.heap.size, 2, none⟩ = some (.int .i64 ty) := by rw [blk_cell HD.out]; rfl
    refine (HWI.out w4).mono ?_
    rintro e w5 ⟨rfl, rfl⟩
    clear HWI
    generalize (argsN ty).1 = many at *
    generalize (argsN ty).2 = nb at *
    by_cases hm0 : many = 0
    · subst hm0
      have HR2 : Hid (callC (findC ds) p s l n = .bad 1 p) := hide (by rw [HE2.out]; simp)
      clear m4 m5
      go_wp2_with fail
      refine (throw_at 1 p _).mono ?_
      rintro e w8 ⟨⟨A, rfl, hA⟩, hb7⟩
      have HA := hide hA
      have HB7 := hide (Below.step HB.out (Below.step HB4.out hb7))
      clear hA hb7
      go_wp2_with fail
      exact ⟨rfl, Cks.bad HR2.out HB7.out HA.out⟩
    · have hmi : ((many : Int) == 0) = false := by simp; omega
      have HM0 := hide hm0
      clear hm0
      by_cases hlm : l.length = many
      · have hli : ((l.length : Int) != (many : Int)) = false := by simp; omega
        have HLM := hide hlm
        clear hlm
        by_cases hn0 : n = 0
        · subst hn0
          have HR2 : Hid (callC (findC ds) p s l 0 = argsC (findC ds) l) := hide (by rw [HE2.out, if_neg HM0.out, if_neg (by have := HLM.out; simp [this])])
          go_wp2_with fail
          go_loopw [8, 46] (fun _ i wr => ∃ j : Nat, j ≤ l.length ∧ i = .int .i64 j ∧ Hid (Below w5.heap.size w5 wr) ∧ Hid (argsC (findC ds) l = argsC (findC ds) (l.drop j))) (fun _ i _ => l.length - (intOf i).toNat)
          case atStart => exact ⟨0, Nat.zero_le _, rfl, hide (Below.refl _ _), hide (by simp)⟩
          case round =>
            obtain ⟨j, hj, rfl, hbr, hac⟩ := hrel
            by_cases hlt : j < l.length
            · have hji : (j : Int) < (l.length : Int) := by omega
              obtain ⟨g, cap', hv, hSg⟩ := row_addr HROW4.out (by omega)
              obtain ⟨rfl, rfl⟩ : ao = some ⟨g, 0, none⟩ ∧ cap = cap' := by cases hv; exact ⟨rfl, rfl⟩
              obtain ⟨u, hu, hxu⟩ := exs_get HALL4.out j hlt
              obtain ⟨X, rfl⟩ := hxu.ptr
              have cj0 := row_cell HROW4.out rfl hu
              have cj : wr.cell? ⟨g, j, none⟩ = some (.pointer (some ⟨X, 0, none⟩)) := (hbr.out.cell (cell_lt cj0)).trans cj0
              have HMR := hide (Below.blk hbr.out HM4.out)
              have HNR := hide (Below.blk hbr.out HN4.out)
              have HFR := hide (HF4.out.below hbr.out)
              have HAD := hide (argsC_drop (findC ds) l j hlt)
              have HWA := hide (want_it hl HFR.out l[j] 1 S _ (hxu.below hbr.out) 3 0 p s none (some ⟨g, 0, none⟩) none none l.length cap 0 0 0 0)
              have k0 : wr.cell? ⟨w.heap.size + 1, 0, none⟩ = some (.int .i64 3) := by rw [blk_cell HMR.out]; rfl
              have k1 : wr.cell? ⟨w.heap.size + 1, 1, none⟩ = some (.int .i64 p) := by rw [blk_cell HMR.out]; rfl
              have k2 : wr.cell? ⟨w.heap.size + 1, 2, none⟩ = some (.string s) := by rw [blk_cell HMR.out]; rfl
              have k3 : wr.cell? ⟨w.heap.size + 1, 3, none⟩ = some (.pointer none) := by rw [blk_cell HMR.out]; rfl
              have k4 : wr.cell? ⟨w.heap.size + 1, 4, none⟩ = some (.slice (some ⟨g, 0, none⟩) l.length cap) := by rw [blk_cell HMR.out]; rfl
              have k5 : wr.cell? ⟨w.heap.size + 1, 5, none⟩ = some (.int .i64 0) := by rw [blk_cell HMR.out]; rfl
              have k6 : wr.cell? ⟨w.heap.size + 1, 6, none⟩ = some (.slice none 0 0) := by rw [blk_cell HMR.out]; rfl
              have k7 : wr.cell? ⟨w.heap.size + 1, 7, none⟩ = some (.slice none 0 0) := by rw [blk_cell HMR.out]; rfl
              have n0 : wr.cell? ⟨w.heap.size, 0, none⟩ = some (.func F #[] cs) := by rw [blk_cell HNR.out]; rfl
              clear hv hu hxu cj0 m1 m4 m5 d2
              go_wp2_with fail
              refine HWA.out.mono ?_
              rintro e w6 h6
              rcases h6.cases with ⟨er, q, A, hr, rfl, hA, hb6⟩ | ⟨u, v, hr, rfl, hv, hb6⟩
              · have HR6 := hide hr
                have HA := hide hA
                have HB6 := hide (Below.step HB.out (Below.step HB4.out (Below.step hbr.out hb6)))
                clear h6 hr hA hb6
                go_wp2_with fail
                exact ⟨rfl, Cks.bad (by rw [HR2.out, hac.out, HAD.out, HR6.out]; rfl) HB6.out HA.out⟩
              · have hv : v = .tuple #[] := hv
                subst hv
                have HR6 := hide hr
                have HB6 := hide (Below.step hbr.out hb6)
                clear h6 hr hb6
                go_wp2_with fail
                exact ⟨⟨j + 1, by omega, by go_num, HB6, hide (by rw [hac.out, HAD.out, HR6.out]; rfl)⟩, by simp [intOf]; omega⟩
            · have HJ : Hid (j = l.length) := (by omega : j = l.length)
              go_wp2_with fail
              go_end0
              refine Cks.ok (a := ()) ?_ (Below.step HB.out (Below.step HB4.out hbr.out)) rfl
              rw [HR2.out, hac.out, HJ.out, List.drop_length, argsC]
        · have hni : ((n : Int) != 0) = true := by simp; omega
          cases nb with
          | true =>
            have HR2 : Hid (callC (findC ds) p s l n = argsC (findC ds) l) := hide (by rw [HE2.out, if_neg HM0.out, if_neg (by have := HLM.out; simp [this])])
            go_wp2_with fail
            go_loopw [8, 46] (fun _ i wr => ∃ j : Nat, j ≤ l.length ∧ i = .int .i64 j ∧ Hid (Below w5.heap.size w5 wr) ∧ Hid (argsC (findC ds) l = argsC (findC ds) (l.drop j))) (fun _ i _ => l.length - (intOf i).toNat)
            case atStart => exact ⟨0, Nat.zero_le _, rfl, hide (Below.refl _ _), hide (by simp)⟩
            case round =>
              obtain ⟨j, hj, rfl, hbr, hac⟩ := hrel
              by_cases hlt : j < l.length
              · have hji : (j : Int) < (l.length : Int) := by omega
                obtain ⟨g, cap', hv, hSg⟩ := row_addr HROW4.out (by omega)
                obtain ⟨rfl, rfl⟩ : ao = some ⟨g, 0, none⟩ ∧ cap = cap' := by cases hv; exact ⟨rfl, rfl⟩
                obtain ⟨u, hu, hxu⟩ := exs_get HALL4.out j hlt
                obtain ⟨X, rfl⟩ := hxu.ptr
                have cj0 := row_cell HROW4.out rfl hu
                have cj : wr.cell? ⟨g, j, none⟩ = some (.pointer (some ⟨X, 0, none⟩)) := (hbr.out.cell (cell_lt cj0)).trans cj0
                have HMR := hide (Below.blk hbr.out HM4.out)
                have HNR := hide (Below.blk hbr.out HN4.out)
                have HFR := hide (HF4.out.below hbr.out)
                have HAD := hide (argsC_drop (findC ds) l j hlt)
                have HWA := hide (want_it hl HFR.out l[j] 1 S _ (hxu.below hbr.out) 3 n p s none (some ⟨g, 0, none⟩) none none l.length cap 0 0 0 0)
                have k0 : wr.cell? ⟨w.heap.size + 1, 0, none⟩ = some (.int .i64 3) := by rw [blk_cell HMR.out]; rfl
                have k1 : wr.cell? ⟨w.heap.size + 1, 1, none⟩ = some (.int .i64 p) := by rw [blk_cell HMR.out]; rfl
                have k2 : wr.cell? ⟨w.heap.size + 1, 2, none⟩ = some (.string s) := by rw [blk_cell HMR.out]; rfl
                have k3 : wr.cell? ⟨w.heap.size + 1, 3, none⟩ = some (.pointer none) := by rw [blk_cell HMR.out]; rfl
                have k4 : wr.cell? ⟨w.heap.size + 1, 4, none⟩ = some (.slice (some ⟨g, 0, none⟩) l.length cap) := by rw [blk_cell HMR.out]; rfl
                have k5 : wr.cell? ⟨w.heap.size + 1, 5, none⟩ = some (.int .i64 n) := by rw [blk_cell HMR.out]; rfl
                have k6 : wr.cell? ⟨w.heap.size + 1, 6, none⟩ = some (.slice none 0 0) := by rw [blk_cell HMR.out]; rfl
                have k7 : wr.cell? ⟨w.heap.size + 1, 7, none⟩ = some (.slice none 0 0) := by rw [blk_cell HMR.out]; rfl
                have n0 : wr.cell? ⟨w.heap.size, 0, none⟩ = some (.func F #[] cs) := by rw [blk_cell HNR.out]; rfl
                clear hv hu hxu cj0 m1 m4 m5 d2
                go_wp2_with fail
                refine HWA.out.mono ?_
                rintro e w6 h6
                rcases h6.cases with ⟨er, q, A, hr, rfl, hA, hb6⟩ | ⟨u, v, hr, rfl, hv, hb6⟩
                · have HR6 := hide hr
                  have HA := hide hA
                  have HB6 := hide (Below.step HB.out (Below.step HB4.out (Below.step hbr.out hb6)))
                  clear h6 hr hA hb6
                  go_wp2_with fail
                  exact ⟨rfl, Cks.bad (by rw [HR2.out, hac.out, HAD.out, HR6.out]; rfl) HB6.out HA.out⟩
                · have hv : v = .tuple #[] := hv
                  subst hv
                  have HR6 := hide hr
                  have HB6 := hide (Below.step hbr.out hb6)
                  clear h6 hr hb6
                  go_wp2_with fail
                  exact ⟨⟨j + 1, by omega, by go_num, HB6, hide (by rw [hac.out, HAD.out, HR6.out]; rfl)⟩, by simp [intOf]; omega⟩
              · have HJ : Hid (j = l.length) := (by omega : j = l.length)
                go_wp2_with fail
                go_end0
                refine Cks.ok (a := ()) ?_ (Below.step HB.out (Below.step HB4.out hbr.out)) rfl
                rw [HR2.out, hac.out, HJ.out, List.drop_length, argsC]
          | false =>
            have HR2 : Hid (callC (findC ds) p s l n = .bad 2 p) := hide (by rw [HE2.out, if_neg HM0.out, if_pos (.inr ⟨hn0, rfl⟩)])
            go_wp2_with fail
            refine (throw_at 2 p _).mono ?_
            rintro e w8 ⟨⟨A, rfl, hA⟩, hb7⟩
            have HA := hide hA
            have HB7 := hide (Below.step HB.out (Below.step HB4.out hb7))
            clear hA hb7
            go_wp2_with fail
            exact ⟨rfl, Cks.bad HR2.out HB7.out HA.out⟩
      · have hli : ((l.length : Int) != (many : Int)) = true := by simp; omega
        have HR2 : Hid (callC (findC ds) p s l n = .bad 2 p) := hide (by rw [HE2.out, if_neg HM0.out, if_pos (.inl hlm)])
        clear hlm
        go_wp2_with fail
        refine (throw_at 2 p _).mono ?_
        rintro e w8 ⟨⟨A, rfl, hA⟩, hb7⟩
        have HA := hide hA
        have HB7 := hide (Below.step HB.out (Below.step HB4.out hb7))
        clear hA hb7
        go_wp2_with fail
        exact ⟨rfl, Cks.bad HR2.out HB7.out HA.out⟩
end Go.Proofs.YtgncgbngjdcpgaaGreatDoor
