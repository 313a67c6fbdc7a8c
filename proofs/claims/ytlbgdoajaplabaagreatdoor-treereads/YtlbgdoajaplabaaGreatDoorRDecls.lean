/-
  CONTRACT of decls of the reference's reader.
-/
import Derived.Test.YtlbgdoajaplabaaGreatDoorRDecl
namespace Go.Proofs.YtlbgdoajaplabaaGreatDoor
open Go.RowKit
set_option linter.unusedSimpArgs false
set_option linter.unusedVariables false

/-- what the loop over declarations holds to -/
def RDs (w : World) (R T : Nat) (ts : List Tok) (whole : Res (List De)) (v : Value) (wr : World) : Prop :=
  Kept R w wr ∧ ((∃ (g : Nat) (acc : List De) (k2 : Nat), acc.length ≤ 20 ∧ IsDes (From w.heap.size) wr acc v ∧ Rr wr R T ts k2 0 (-1) ∧ whole = declsP ts g k2 acc ∧ declsP ts g k2 acc ≠ .out) ∨
    (∃ (er : Int) (p : Nat), isL v ∧ whole = .bad er p ∧ Rst wr R T ts (.bad er p)))

abbrev deRep (w : World) (v : Value) (d : De) : Prop := v = .agg #[.string d.name, .int .i64 d.way, .int .i64 d.ty, .int .i64 d.init]
theorem rdecl_some {w : World} {R T : Nat} {ts : List Tok} {k : Nat} (h : Rr w R T ts k 0 (-1)) (hc : wayN (tx ts k) ≠ 0 ∨ blkN (tx ts k) ≠ 0) :
    Calls Tryz.prog 41 #[.pointer (some ⟨R, 0, none⟩)] w (fun e w' => ∃ v, e = .returned (.tuple #[v, .bool true]) ∧ Rfs w R T ts deRep isD (declP ts k) (.returned v) w') := by
  by_cases hw : wayN (tx ts k) = 0
  · exact rdecl_blk h hw (by rcases hc with h | h; exact absurd hw h; exact h)
  · refine rdecl_way h hw ?_
    have : (tx ts k == [116, 105, 109, 101, 114]) = false ∧ (tx ts k == [99, 111, 117, 110, 116, 101, 114]) = false ∧ (tx ts k == [101, 100, 103, 101]) = false := by
      unfold wayN at hw
      split at hw
      · rename_i e; rw [beq_iff_eq] at e; rw [e]; exact ⟨rfl, rfl, rfl⟩
      · split at hw
        · rename_i e; rw [beq_iff_eq] at e; rw [e]; exact ⟨rfl, rfl, rfl⟩
        · split at hw
          · rename_i e; rw [beq_iff_eq] at e; rw [e]; exact ⟨rfl, rfl, rfl⟩
          · exact absurd rfl hw
    simp only [blkN, this, Bool.false_eq_true, if_false]

set_option maxRecDepth 100000 in
set_option maxHeartbeats 6400000 in
theorem rdecls_at (f : Nat) {w : World} {R T : Nat} {ts : List Tok} {k : Nat} (h : Rr w R T ts k 0 (-1)) (hout : declsP ts f k [] ≠ .out) :
    Calls Tryz.prog 16 #[.pointer (some ⟨R, 0, none⟩)] w (Rfs w R T ts (fun w' v l => IsDes (From w.heap.size) w' l v) isL (declsP ts f k [])) := by
  obtain ⟨i0, hi, hz0, hz1, hz2⟩ := info_de
  have HR := hide h
  have hlt := h.Rlt
  have htl := h.Tlt
  have hbig := h.big
  have HL : Hid (RDs w R T ts (declsP ts f k []) (.slice none 0 0) w) := hide ⟨Kept.refl R w, .inl ⟨f, [], k, Nat.zero_le _, IsRow.nil .., h, rfl, hout⟩⟩
  generalize declsP ts f k [] = whole at *
  clear h hout
  go_enter Tryz.func16, Tryz.ntmps16
  go_wp2_with fail
  go_loopw [3] (fun v wr => Hid (RDs w R T ts whole v wr)) (fun _ wr => msr R wr)
  case atStart => exact HL
  case round =>
    clear HL
    obtain ⟨hkr, ⟨g, acc, k2, hac, hy, hd2, he2, ho2⟩ | ⟨er, q, ⟨va, vn, vc, rfl⟩, hwh, hst⟩⟩ := hrel.out
    · obtain ⟨va, vc, hv⟩ := hy.val
      subst hv
      have HKR := hide hkr
      have HY := hide hy
      have HD := hide hd2
      have HE := hide he2
      have HO := hide ho2
      have HAC := hide hac
      have HMS := hide (msr_good hd2)
      clear hrel hkr hy hd2 he2 ho2 hac
      cases g with
      | zero => exact absurd (by simp only [declsP]) HO.out
      | succ g =>
      go_wp2_with fail
      refine (rok_good HD.out).mono ?_
      rintro e w3 ⟨rfl, hb3⟩
      have HD3 := hide (HD.out.below hb3)
      have HK3 := hide (HKR.out.below hb3)
      have HY3 := hide (HY.out.same fun b _ h2 => hb3.block b h2)
      obtain ⟨n, c, h0, _, _, r0, c0, c1, c2, _, _⟩ := HD3.out.cells
      clear hb3
      go_wp2_with fail
      by_cases hc : wayN (tx ts k2) ≠ 0 ∨ blkN (tx ts k2) ≠ 0
      · have HE2 : Hid (whole = (declP ts k2).bind fun d k' => if acc.length = 20 then .bad 4 (tk ts k2).pos else declsP ts g k' (acc ++ [d])) := hide (by rw [HE.out]; simp only [declsP, if_pos hc])
        have HO2 : Hid (∀ d k', declP ts k2 = .ok d k' → (if acc.length = 20 then Res.bad 4 (tk ts k2).pos else declsP ts g k' (acc ++ [d])) ≠ .out) := hide fun d k' e e2 => HO.out (by simp only [declsP, if_pos hc, e, Res.bind_ok]; exact e2)
        refine (rdecl_some HD3.out hc).mono ?_
        rintro e w7 ⟨v7, rfl, hk7, hs7, v7', hv7e, ⟨s9, a9, b9, c9, rfl⟩, hp7⟩
        injection hv7e with hv7e
        subst hv7e
        have HS7 := hide hs7
        have HP7 := hide hp7
        have HK7 := hide (HK3.out.trans hk7)
        have HY7 := hide (HY3.out.same fun b h1 h2 => hk7.block b h2 (by have : w.heap.size ≤ b := h1; omega))
        clear hk7 hs7 hp7 r0 c0 c1 c2
        generalize hpos : (tk ts k2).pos = pos at *
        by_cases h20 : acc.length = 20
        · have hi20 : (20 : Int) ≤ (acc.length : Int) := by omega
          have H20 := hide h20
          have HB8 := hide (below_alloc w7 (.cells #[.string s9, .int .i64 a9, .int .i64 b9, .int .i64 c9] 64))
          have HS8 := hide (Rst.below HB8.out HS7.out)
          have HK8 := hide (HK7.out.below HB8.out)
          have HY8 := hide (HY7.out.same fun b _ h2 => HB8.out.block b h2)
          have HN8 := hide (blk_new w7 (.cells #[.string s9, .int .i64 a9, .int .i64 b9, .int .i64 c9] 64))
          have hDR : w7.heap.size ≠ R := by have := HK7.out.size; omega
          clear h20
          go_wp2_with fail
          generalize w7.alloc (.cells #[.string s9, .int .i64 a9, .int .i64 b9, .int .i64 c9] 64) = w8 at *
          cases hr : declP ts k2 with
          | out =>
            rw [hr] at HS8
            exact HS8.out.elim
          | bad er q =>
            rw [hr] at HS8 HE2
            have HWB : Hid (whole = .bad er q) := HE2
            refine (rok_bad HS8.out).mono ?_
            rintro e wA ⟨rfl, hbA⟩
            have HS8 := hide (Rst.below hbA HS8.out)
            have HK8 := hide (HK8.out.below hbA)
            have HY8 := hide (HY8.out.same fun b _ h2 => hbA.block b h2)
            obtain ⟨o0, o1, o2, o3⟩ := de_cells (Below.blk hbA HN8.out)
            clear hbA
            have HOWN := hide (HY8.out.1.alloc (.cells #[.string s9, .int .i64 a9, .int .i64 b9, .int .i64 c9] 64))
            go_wp2_with (at_builtin; (refine append_new rfl (.tmp 35) (.tmp 37) 22 rfl 64 i0 (.agg #[.string ⟨#[]⟩, .int .i64 0, .int .i64 0, .int .i64 0]) 4 40 Tryz.underlying22 hi hz0 hz1 hz2 rfl (by decide) _ acc.length (acc.flatMap deCells) rfl HOWN.out ⟨wA.heap.size, 0, none⟩ 1 [.string s9, .int .i64 a9, .int .i64 b9, .int .i64 c9] rfl rfl ?c1 ?c2 ?c3 (by decide) ?_))
            case c1 => exact row_new _ _ _
            case c2 => simp [Value.oneCell']
            case c3 => have := HAC.out; omega
            intro v9 w9 hown9 hg9 hb9
            obtain ⟨va9, vc9, hv9⟩ : ∃ (a : Option Addr) (c : Nat), v9 = .slice a (acc.length + 1) c := (IsRow.val (S := fun _ => True) ⟨hown9, fun _ _ => trivial⟩)
            subst hv9
            have HLOW : Hid (∀ b, b < w.heap.size → b < wA.heap.size → w9.heap[b]? = wA.heap[b]?) := hide fun b h1 h2 => (hg9.block b (Nat.lt_of_lt_of_le h2 (by simp)) (fun e => by have h3 : w.heap.size ≤ b := HY8.out.2 b e.symm; omega)).trans (Below.heap_alloc wA _ b h2)
            have HK9 : Hid (Kept R w w9) := hide (grown_kept hg9 (fun b hb => HY8.out.2 b hb) (HK8.out.alloc (.cells #[.string s9, .int .i64 a9, .int .i64 b9, .int .i64 c9] 64)) (Nat.le_refl _))
            have HB9 := hide hb9
            have HOWN9 := hide hown9
            have HSZ := hide HK8.out.size
            clear hown9 hg9 hb9
            go_wp2_with fail
            have hst : Rst w9 R T ts (.bad er q) := HS8.out.low HLOW.out hlt htl (by omega)
            refine ⟨⟨HK9.out, .inr ⟨er, q, ⟨_, _, _, rfl⟩, HWB.out, hst⟩⟩, ?_⟩
            rw [msr_bad hst, HMS.out]
            omega
          | ok d k7 =>
            rw [hr] at HS8 HE2
            have HWB : Hid (whole = .bad 4 pos) := hide (by rw [HE2.out]; simp only [Res.bind_ok, if_pos H20.out])
            refine (rok_good HS8.out.good).mono ?_
            rintro e wA ⟨rfl, hbA⟩
            have HDA := hide (Rr.below HS8.out.good hbA)
            obtain ⟨n, c, h0, _, _, r0, _, _, _, rf, hm⟩ := HDA.out.cells
            have e1 : wA.cell? ⟨R, 1, none⟩ = some (.int .i64 0) := by rw [blk_cell hm]; rfl
            have e2 : wA.cell? ⟨R, 2, none⟩ = some (.int .i64 (-1)) := by rw [blk_cell hm]; rfl
            have r1 := rf 1
            have r2 := rf 2
            have hkk : Kept R wA ((wA.setCell ⟨R, 1, none⟩ (.int .i64 4)).setCell ⟨R, 2, none⟩ (.int .i64 pos)) := (Kept.set wA 1 _).step 2 _
            have HS8 : Hid (Rst ((wA.setCell ⟨R, 1, none⟩ (.int .i64 4)).setCell ⟨R, 2, none⟩ (.int .i64 pos)) R T ts (.bad 4 pos)) := hide ⟨k7, HDA.out.noted 4 pos hkk fun n c hm => by rw [blk_set (blk_set hm 1 _) 2 _]; rfl⟩
            have HK8 := hide ((HK8.out.below hbA).trans hkk)
            have HY8 := hide ((HY8.out.same fun b _ h2 => hbA.block b h2).same fun b h1 h2 => hkk.block b h2 (by have : w.heap.size ≤ b := h1; omega))
            have HSE : Hid (((wA.setCell ⟨R, 1, none⟩ (.int .i64 4)).setCell ⟨R, 2, none⟩ (.int .i64 pos)).heap.size = wA.heap.size) := hide (by simp [World.setCell])
            obtain ⟨o0, o1, o2, o3⟩ := de_cells (hkk.blk (Below.blk hbA HN8.out) hDR)
            obtain ⟨p0, p1, p2, p3⟩ := de_cells (Below.blk hbA HN8.out)
            clear hbA hm rf hkk
            have HOWN := hide (HY8.out.1.alloc (.cells #[.string s9, .int .i64 a9, .int .i64 b9, .int .i64 c9] 64))
            go_wp2_with (at_builtin; (refine append_new rfl (.tmp 35) (.tmp 37) 22 rfl 64 i0 (.agg #[.string ⟨#[]⟩, .int .i64 0, .int .i64 0, .int .i64 0]) 4 40 Tryz.underlying22 hi hz0 hz1 hz2 rfl (by decide) _ acc.length (acc.flatMap deCells) rfl HOWN.out ⟨wA.heap.size, 0, none⟩ 1 [.string s9, .int .i64 a9, .int .i64 b9, .int .i64 c9] rfl rfl ?c1 ?c2 ?c3 (by decide) ?_))
            case c1 => rw [← HSE.out]; exact row_new _ _ _
            case c2 => simp [Value.oneCell']
            case c3 => have := HAC.out; omega
            intro v9 w9 hown9 hg9 hb9
            obtain ⟨va9, vc9, hv9⟩ : ∃ (a : Option Addr) (c : Nat), v9 = .slice a (acc.length + 1) c := (IsRow.val (S := fun _ => True) ⟨hown9, fun _ _ => trivial⟩)
            subst hv9
            have HLOW : Hid (∀ b, b < w.heap.size → b < ((wA.setCell ⟨R, 1, none⟩ (.int .i64 4)).setCell ⟨R, 2, none⟩ (.int .i64 pos)).heap.size → w9.heap[b]? = ((wA.setCell ⟨R, 1, none⟩ (.int .i64 4)).setCell ⟨R, 2, none⟩ (.int .i64 pos)).heap[b]?) := hide fun b h1 h2 => (hg9.block b (Nat.lt_of_lt_of_le h2 (by simp)) (fun e => by have h3 : w.heap.size ≤ b := HY8.out.2 b e.symm; omega)).trans (Below.heap_alloc ((wA.setCell ⟨R, 1, none⟩ (.int .i64 4)).setCell ⟨R, 2, none⟩ (.int .i64 pos)) _ b h2)
            have HK9 : Hid (Kept R w w9) := hide (grown_kept hg9 (fun b hb => HY8.out.2 b hb) (HK8.out.alloc (.cells #[.string s9, .int .i64 a9, .int .i64 b9, .int .i64 c9] 64)) (Nat.le_refl _))
            have HB9 := hide hb9
            have HOWN9 := hide hown9
            have HSZ := hide HK8.out.size
            clear hown9 hg9 hb9
            go_wp2_with fail
            have hst : Rst w9 R T ts (.bad 4 pos) := HS8.out.low HLOW.out hlt htl (by omega)
            refine ⟨⟨HK9.out, .inr ⟨4, pos, ⟨_, _, _, rfl⟩, HWB.out, hst⟩⟩, ?_⟩
            rw [msr_bad hst, HMS.out]
            omega
        · have hi20 : ¬ ((20 : Int) ≤ (acc.length : Int)) := by have := HAC.out; omega
          have HB8 := hide (below_alloc w7 (.cells #[.string s9, .int .i64 a9, .int .i64 b9, .int .i64 c9] 64))
          have HS8 := hide (Rst.below HB8.out HS7.out)
          have HK8 := hide (HK7.out.below HB8.out)
          have HY8 := hide (HY7.out.same fun b _ h2 => HB8.out.block b h2)
          have HOWN := hide (HY8.out.1.alloc (.cells #[.string s9, .int .i64 a9, .int .i64 b9, .int .i64 c9] 64))
          go_wp2_with (at_builtin; (refine append_new rfl (.tmp 35) (.tmp 37) 22 rfl 64 i0 (.agg #[.string ⟨#[]⟩, .int .i64 0, .int .i64 0, .int .i64 0]) 4 40 Tryz.underlying22 hi hz0 hz1 hz2 rfl (by decide) _ acc.length (acc.flatMap deCells) rfl HOWN.out ⟨w7.heap.size + 1, 0, none⟩ 1 [.string s9, .int .i64 a9, .int .i64 b9, .int .i64 c9] rfl rfl ?c1 ?c2 ?c3 (by decide) ?_))
          case c2 => simp [Value.oneCell']
          case c3 => have := HAC.out; omega
          intro v9 w9 hown9 hg9 hb9
          obtain ⟨va9, vc9, hv9⟩ : ∃ (a : Option Addr) (c : Nat), v9 = .slice a (acc.length + 1) c := (IsRow.val (S := fun _ => True) ⟨hown9, fun _ _ => trivial⟩)
          subst hv9
          have HLOW : Hid (∀ b, b < w.heap.size → b < (w7.alloc (.cells #[.string s9, .int .i64 a9, .int .i64 b9, .int .i64 c9] 64)).heap.size → w9.heap[b]? = (w7.alloc (.cells #[.string s9, .int .i64 a9, .int .i64 b9, .int .i64 c9] 64)).heap[b]?) := hide fun b h1 h2 => (hg9.block b (Nat.lt_of_lt_of_le h2 (by simp)) (fun e => by have h3 : w.heap.size ≤ b := HY8.out.2 b e.symm; omega)).trans (Below.heap_alloc (w7.alloc (.cells #[.string s9, .int .i64 a9, .int .i64 b9, .int .i64 c9] 64)) _ b h2)
          have HK9 : Hid (Kept R w w9) := hide (grown_kept hg9 (fun b hb => HY8.out.2 b hb) (HK8.out.alloc (.cells #[.string s9, .int .i64 a9, .int .i64 b9, .int .i64 c9] 64)) (Nat.le_refl _))
          have HB9 := hide hb9
          have HOWN9 := hide hown9
          have HSZ := hide HK8.out.size
          clear hown9 hg9 hb9
          go_wp2_with fail
          cases hr : declP ts k2 with
          | out =>
            rw [hr] at HS8
            exact HS8.out.elim
          | bad er q =>
            rw [hr] at HS8 HE2
            have hst : Rst w9 R T ts (.bad er q) := HS8.out.low HLOW.out hlt htl (by omega)
            refine ⟨⟨HK9.out, .inr ⟨er, q, ⟨_, _, _, rfl⟩, HE2.out, hst⟩⟩, ?_⟩
            rw [msr_bad hst, HMS.out]
            omega
          | ok d k7 =>
            rw [hr] at HS8 HE2
            have hst : Rr w9 R T ts k7 0 (-1) := HS8.out.low (r := .ok () k7) HLOW.out hlt htl (by omega)
            have hv := HP7.out d k7 hr
            have hlt7 := declP_ok hr
            have e1 : [.string s9, .int .i64 a9, .int .i64 b9, .int .i64 c9] = deCells d := by
              injection hv with hv
              have := congrArg Array.toList hv
              simpa [deCells] using this
            have hy9 : IsDes (From w.heap.size) w9 (acc ++ [d]) (.slice va9 (acc.length + 1) vc9) := by
              refine ⟨?_, fun b hb => ?_⟩
              · have := HOWN9.out
                rw [e1] at this
                simpa using this
              · rcases HB9.out with e | e
                · exact HY8.out.2 b (by rw [← e]; exact hb)
                · rw [e] at hb
                  simp only [Option.some.injEq] at hb
                  have := HSZ.out
                  try simp at hb
                  try simp at this
                  show w.heap.size ≤ b
                  omega
            refine ⟨⟨HK9.out, .inl ⟨g, acc ++ [d], k7, by have := HAC.out; have := h20; simp; omega, hy9, hst, by rw [HE2.out]; simp only [Res.bind_ok, if_neg h20], fun e => HO2.out d k7 hr (by simp only [if_neg h20, e])⟩⟩, ?_⟩
            rw [msr_good hst, HMS.out]
            have := hst.lt
            omega
      · have HW : Hid (whole = .ok acc k2) := hide (by rw [HE.out]; simp only [declsP, if_neg hc])
        refine (rdecl_none HD3.out (by omega) (by omega)).mono ?_
        rintro e w4 ⟨rfl, hb4⟩
        have HB4 := hide hb4
        clear hb4
        go_wp2_with fail
        go_ret
        have HB5 := Below.step HB4.out (below_alloc w4 (.cells #[.string ⟨#[]⟩, .int .i64 0, .int .i64 0, .int .i64 0] 64))
        exact Rfs.ok HW.out (HK3.out.below HB5) (HD3.out.below HB5) ⟨_, _, _, rfl⟩ (HY3.out.same fun b _ h2 => HB5.block b h2)
    · have HKR := hide hkr
      have HW := hide hwh
      have HST := hide hst
      clear hrel hkr hwh hst
      go_wp2_with fail
      refine (rok_bad HST.out).mono ?_
      rintro e w1 ⟨rfl, hb⟩
      have HB := hide hb
      clear hb
      go_wp2_with fail
      go_ret
      exact Rfs.bad HW.out (HKR.out.below HB.out) (Rst.below HB.out HST.out) ⟨_, _, _, rfl⟩
end Go.Proofs.YtlbgdoajaplabaaGreatDoor
