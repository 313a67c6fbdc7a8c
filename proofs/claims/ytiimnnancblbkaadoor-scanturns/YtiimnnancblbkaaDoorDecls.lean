/-
  CONTRACT of decls: declarations, as many as there are.
-/
import Derived.Test.YtiimnnancblbkaaDoorDecl
import Derived.Test.YtiimnnancblbkaaDoorJStm
namespace Go.Proofs.YtiimnnancblbkaaDoor
open Go.RowKit

/-- a row of declarations -/
def IsDes (S : Nat → Prop) (w : World) (l : List De) (v : Value) : Prop := IsRow S w 32 4 v l.length (l.flatMap deCells)
theorem info_de : ∃ i, Tryd.prog.info? 32 = some i ∧ i.zero = some (.agg #[.string ⟨#[]⟩, .int .i64 0, .int .i64 0, .int .i64 0]) ∧ i.size = 4 ∧ i.bytes = 40 := info_parts (by kernel_rfl)
theorem declP_ok {ts : List Tok} {k k' : Nat} {d : De} (h : declP ts k = .ok d k') : k < k' := by
  unfold declP at h
  obtain ⟨a, k1, e1, e2⟩ := bind_ok h
  have := nameP_ok e1
  split at e2
  · obtain ⟨b, k2, e3, e4⟩ := bind_ok e2
    have := wantP_ok e3
    cases e4; omega
  · obtain ⟨b, k2, e3, e4⟩ := bind_ok e2
    obtain ⟨c, k3, e5, e6⟩ := bind_ok e4
    have := wantP_ok e3
    have hk : k2 < k3 := by
      unfold kindP at e5
      split at e5
      · cases e5; omega
      · obtain ⟨x, q, e7, e8⟩ := bind_ok e5
        have := wantP_ok e7
        cases e8; omega
    split at e6
    · obtain ⟨x, q, e7, e8⟩ := bind_ok e6
      obtain ⟨y, q2, e9, e10⟩ := bind_ok e8
      have := wantP_ok e9
      have hf : k3 ≤ q := by
        unfold firstP at e7
        split at e7
        · split at e7
          · have := byteP_ok e7; omega
          · split at e7
            · cases e7; omega
            · obtain ⟨z, q3, e11, e12⟩ := bind_ok e7
              have := wantP_ok e11
              cases e12; omega
        · cases e7; omega
      cases e10; omega
    · obtain ⟨y, q2, e9, e10⟩ := bind_ok e6
      have := wantP_ok e9
      cases e10; omega

theorem way_nil : wayN [] = 0 := rfl
theorem blk_nil : blkN [] = 0 := rfl

set_option maxRecDepth 100000 in
set_option maxHeartbeats 6400000 in
theorem decls_at (f : Nat) {w : World} {R T cap : Nat} {ts : List Tok} {k : Nat} (h : Rd w R T cap ts k) (hout : declsP ts f k [] ≠ .out) :
    Calls Tryd.prog 32 #[.pointer (some ⟨R, 0, none⟩)] w (Rds w R T cap ts (fun w' v l => IsDes (From w.heap.size) w' l v) (declsP ts f k [])) := by
  have q1 := fld1
  obtain ⟨i0, hi, hz0, hz1, hz2⟩ := info_de
  have HR := hide h
  have HO := hide hout
  clear h hout
  go_enter Tryd.func32, Tryd.ntmps32
  go_wp2_with fail
  go_loopw [3] (fun v wr => ∃ (g : Nat) (acc : List De) (k2 : Nat), Hid (IsDes (From w.heap.size) wr acc v) ∧ Hid (Rd wr R T cap ts k2) ∧ Hid (Kept R w wr) ∧ Hid (declsP ts f k [] = declsP ts g k2 acc) ∧ Hid (acc.length ≤ k2)) (fun _ wr => ts.length - nextOf R wr)
  case atStart => exact ⟨f, [], k, IsRow.nil .., HR, Kept.refl R w, rfl, Nat.zero_le k⟩
  case round =>
    obtain ⟨g, acc, k2, hy, hd2, hk2, he2, hac⟩ := hrel
    have HNX : Hid (nextOf R wr = k2) := hd2.out.nextOf_eq
    have hk8 : k2 < 801 := by have := hd2.out.fit.len; have := hd2.out.lt; omega
    cases g with
    | zero => exact absurd (he2.out.trans (by simp only [declsP])) HO.out
    | succ g =>
    obtain ⟨va, vc, hv⟩ := hy.out.val
    subst hv
    have HMO : Hid (wayN (tx ts k2) ≠ 0 ∨ blkN (tx ts k2) ≠ 0 → k2 + 1 < ts.length) := fun hc => hd2.out.fit.next k2 hd2.out.lt fun h0 => by
      have := hd2.out.fit.none k2 hd2.out.lt h0
      have e : tx ts k2 = [] := this
      rw [e, way_nil, blk_nil] at hc
      simp at hc
    by_cases hw : wayN (tx ts k2) = 0
    · have hwi : ((wayN (tk ts k2).text.toList : Nat) : Int) = 0 := by have : wayN (tk ts k2).text.toList = 0 := hw; omega
      have HW := hide hw
      go_wp2_with fail
      refine (now_at hd2.out).mono ?_
      rintro e w3 ⟨rfl, hb3⟩
      have HD3 := hide (hd2.out.below hb3)
      have HB3 := hide hb3
      clear hb3
      go_wp2_with fail
      refine (wayOf_at _ w3 HD3.out.vars).mono ?_
      rintro e w3' ⟨rfl, rfl⟩
      rw [hwi]
      go_wp2_with fail
      refine (blocks_at _ HD3.out.vars).mono ?_
      rintro e w4 ⟨M, es, c, rfl, hM, hIB, hb4⟩
      have HM := hide hM
      have HIB := hide hIB
      have HD4 := hide (HD3.out.below hb4)
      have HB4 := hide (Below.step HB3.out hb4)
      clear hM hIB hb4
      go_wp2_with fail
      refine (now_at HD4.out).mono ?_
      rintro e w5 ⟨rfl, hb5⟩
      have hf := found M w5 (tk ts k2).text es c (Below.blk hb5 HM.out) HIB.out
      have HD5 := hide (HD4.out.below hb5)
      have HK5 := hide (hk2.out.below (Below.step HB4.out hb5))
      have HY5 := hide (hy.out.same fun b _ h2 => (Below.step HB4.out hb5).block b h2)
      clear hb5
      by_cases hbk : blkN (tx ts k2) = 0
      · have hbi : ((blkN (tk ts k2).text.toList : Nat) : Int) = 0 := by have : blkN (tk ts k2).text.toList = 0 := hbk; omega
        have HDC : Hid (¬ (wayN (tx ts k2) ≠ 0 ∨ blkN (tx ts k2) ≠ 0)) := by show ¬ (_ ∨ _); simp [hw, hbk]
        rw [hbi] at hf
        clear hw hbk
        go_wp2_with fail
        go_ret
        exact Rds.ok (a := acc) (k' := k2) (by rw [he2.out]; simp only [declsP, if_neg HDC.out]) HK5.out HD5.out HY5.out
      · have hbi : (((blkN (tk ts k2).text.toList : Nat) : Int) != 0) = true := by have : ¬ blkN (tk ts k2).text.toList = 0 := hbk; simp; omega
        have HDC : Hid (wayN (tx ts k2) ≠ 0 ∨ blkN (tx ts k2) ≠ 0) := .inr hbk
        have HMORE := hide (HMO.out HDC.out)
        clear hw hbk
        go_wp2_with fail
        refine (wrong_at 4 HD5.out).mono ?_
        rintro e w6 ⟨A, rfl, hA6, hb6⟩
        have HA6 := hide hA6
        have HD6 := hide (HD5.out.below hb6)
        have HK6 := hide (HK5.out.below hb6)
        have HY6 := hide (HY5.out.same fun b _ h2 => hb6.block b h2)
        have HAR := hide (show A ≠ R from fun e => by rw [e, HD6.out.me] at hA6; cases hA6)
        clear hA6 hb6
        go_wp2_with fail
        refine (decl_at HD6.out HMORE.out).mono ?_
        rintro e w7 h7
        rcases h7.cases with ⟨er7, p7, A7, hr7, rfl, hA7, hk7⟩ | ⟨a7, k7, v7, hr7, rfl, hv7, hd7, hk7⟩
        · have Hr7 := hide hr7
          have HA7 := hide hA7
          have HK7 := hide (HK6.out.trans hk7)
          clear h7 hr7 hA7 hk7
          go_wp2_with fail
          exact ⟨rfl, Rds.bad (by rw [he2.out]; simp only [declsP, if_pos HDC.out, Hr7.out, Res.bind]) HK7.out HA7.out⟩
        · have Hr7 := hide hr7
          have HD7 := hide hd7
          have HK7 := hide (HK6.out.trans hk7)
          subst hv7
          have HA7 := hide (hk7.blk HA6.out HAR.out)
          have HLT7 := hide (declP_ok hr7)
          have HY7 := hide (HY6.out.same fun b h1 h2 => hk7.block b h2 (by have : w.heap.size ≤ b := h1; have := HR.out.Rlt; omega))
          clear h7 hr7 hd7 hk7
          have HB8 := hide (below_alloc w7 (.cells #[.string a7.name, .int .i64 a7.way, .int .i64 a7.ty, .int .i64 a7.init] 32))
          by_cases h20 : acc.length = 20
          · have H20 := hide h20
            have hi20 : (acc.length : Int) = 20 := by omega
            go_wp2_with fail
            exact ⟨rfl, Rds.bad (by rw [he2.out]; simp only [declsP, if_pos HDC.out, Hr7.out, Res.bind, if_pos H20.out]) (HK7.out.below HB8.out) (Below.blk HB8.out HA7.out)⟩
          · have H20 := hide h20
            have hi20 : ((acc.length : Int) == 20) = false := by simp; omega
            have HN8 := hide (blk_new w7 (.cells #[.string a7.name, .int .i64 a7.way, .int .i64 a7.ty, .int .i64 a7.init] 32))
            have HD8 := hide (HD7.out.below HB8.out)
            have HK8 := hide (HK7.out.below HB8.out)
            have HY8 := hide (HY7.out.same fun b _ h2 => HB8.out.block b h2)
            have HOWN := hide ((HY8.out.1).alloc (.cells #[.string a7.name, .int .i64 a7.way, .int .i64 a7.ty, .int .i64 a7.init] 32))
            go_wp2_with (at_builtin; (refine append_new rfl (.tmp 28) (.tmp 30) 24 rfl 32 i0 (.agg #[.string ⟨#[]⟩, .int .i64 0, .int .i64 0, .int .i64 0]) 4 40 Tryd.underlying24 hi hz0 hz1 hz2 rfl (by decide) _ acc.length (acc.flatMap deCells) rfl HOWN.out ⟨w7.heap.size + 1, 0, none⟩ 1 [.string a7.name, .int .i64 a7.way, .int .i64 a7.ty, .int .i64 a7.init] rfl rfl ?c1 ?c2 ?c3 (by decide) ?_))
            case c1 => exact (by have := row_new (w7.alloc (.cells #[.string a7.name, .int .i64 a7.way, .int .i64 a7.ty, .int .i64 a7.init] 32)) 32 [.string a7.name, .int .i64 a7.way, .int .i64 a7.ty, .int .i64 a7.init]; simpa using this)
            case c2 => simp [Value.oneCell']
            case c3 => have := hac.out; omega
            · intro v9 w9 hown9 hg9 hb9
              have HK9 := hide (grown_kept hg9 (fun b hb => HY8.out.2 b hb) (HK8.out.alloc (.cells #[.string a7.name, .int .i64 a7.way, .int .i64 a7.ty, .int .i64 a7.init] 32)) (Nat.le_refl _))
              have HD9 : Hid (Rd w9 R T cap ts k7) := HD8.out.grown (N := w.heap.size) (Kept.of (below_alloc _ (.cells #[.string a7.name, .int .i64 a7.way, .int .i64 a7.ty, .int .i64 a7.init] 32))) hg9 (fun b hb => HY8.out.2 b hb) HR.out.Rlt HR.out.Tlt (Below.heap_alloc _ _ _ HD8.out.Rlt) (by have := HR.out.big; have := HR.out.Rlt; omega)
              have HY9 : Hid (IsDes (From w.heap.size) w9 (acc ++ [a7]) v9) := ⟨by simpa using hown9, fun b hb => by
                rcases hb9 with e | e
                · exact HY8.out.2 b (by rw [← e]; exact hb)
                · rw [e] at hb
                  simp only [Option.some.injEq] at hb
                  have := HK8.out.size
                  simp at hb this
                  show w.heap.size ≤ b
                  omega⟩
              obtain ⟨va9, vc9, hv9⟩ := HY9.out.val
              subst hv9
              clear hown9 hg9 hb9
              go_wp2_with fail
              refine ⟨⟨g, acc ++ [a7], k7, HY9, HD9, HK9, ?_, ?_⟩, ?_⟩
              · show _ = _
                rw [he2.out]; simp only [declsP, if_pos HDC.out, Hr7.out, Res.bind, if_neg H20.out]
              · have h1 := hac.out
                have h2 := HLT7.out
                exact (by simp; omega : (acc ++ [a7]).length ≤ k7)
              · rw [HD9.out.nextOf_eq, HNX.out]; have := HLT7.out; have := hd2.out.lt; omega
    · have hwi : (((wayN (tk ts k2).text.toList : Nat) : Int) != 0) = true := by have : ¬ wayN (tk ts k2).text.toList = 0 := hw; simp; omega
      have HDC : Hid (wayN (tx ts k2) ≠ 0 ∨ blkN (tx ts k2) ≠ 0) := .inl hw
      have HMORE := hide (HMO.out HDC.out)
      clear hw
      go_wp2_with fail
      refine (now_at hd2.out).mono ?_
      rintro e w3 ⟨rfl, hb3⟩
      have HD3 := hide (hd2.out.below hb3)
      have HB3 := hide hb3
      clear hb3
      go_wp2_with fail
      refine (wayOf_at _ w3 HD3.out.vars).mono ?_
      rintro e w5 ⟨rfl, rfl⟩
      have HD5 := hide HD3.out
      have HK5 := hide (hk2.out.below HB3.out)
      have HY5 := hide (hy.out.same fun b _ h2 => HB3.out.block b h2)
      go_wp2_with fail
      refine (wrong_at 4 HD5.out).mono ?_
      rintro e w6 ⟨A, rfl, hA6, hb6⟩
      have HA6 := hide hA6
      have HD6 := hide (HD5.out.below hb6)
      have HK6 := hide (HK5.out.below hb6)
      have HY6 := hide (HY5.out.same fun b _ h2 => hb6.block b h2)
      have HAR := hide (show A ≠ R from fun e => by rw [e, HD6.out.me] at hA6; cases hA6)
      clear hA6 hb6
      go_wp2_with fail
      refine (decl_at HD6.out HMORE.out).mono ?_
      rintro e w7 h7
      rcases h7.cases with ⟨er7, p7, A7, hr7, rfl, hA7, hk7⟩ | ⟨a7, k7, v7, hr7, rfl, hv7, hd7, hk7⟩
      · have Hr7 := hide hr7
        have HA7 := hide hA7
        have HK7 := hide (HK6.out.trans hk7)
        clear h7 hr7 hA7 hk7
        go_wp2_with fail
        exact ⟨rfl, Rds.bad (by rw [he2.out]; simp only [declsP, if_pos HDC.out, Hr7.out, Res.bind]) HK7.out HA7.out⟩
      · have Hr7 := hide hr7
        have HD7 := hide hd7
        have HK7 := hide (HK6.out.trans hk7)
        subst hv7
        have HA7 := hide (hk7.blk HA6.out HAR.out)
        have HLT7 := hide (declP_ok hr7)
        have HY7 := hide (HY6.out.same fun b h1 h2 => hk7.block b h2 (by have : w.heap.size ≤ b := h1; have := HR.out.Rlt; omega))
        clear h7 hr7 hd7 hk7
        have HB8 := hide (below_alloc w7 (.cells #[.string a7.name, .int .i64 a7.way, .int .i64 a7.ty, .int .i64 a7.init] 32))
        by_cases h20 : acc.length = 20
        · have H20 := hide h20
          have hi20 : (acc.length : Int) = 20 := by omega
          go_wp2_with fail
          exact ⟨rfl, Rds.bad (by rw [he2.out]; simp only [declsP, if_pos HDC.out, Hr7.out, Res.bind, if_pos H20.out]) (HK7.out.below HB8.out) (Below.blk HB8.out HA7.out)⟩
        · have H20 := hide h20
          have hi20 : ((acc.length : Int) == 20) = false := by simp; omega
          have HN8 := hide (blk_new w7 (.cells #[.string a7.name, .int .i64 a7.way, .int .i64 a7.ty, .int .i64 a7.init] 32))
          have HD8 := hide (HD7.out.below HB8.out)
          have HK8 := hide (HK7.out.below HB8.out)
          have HY8 := hide (HY7.out.same fun b _ h2 => HB8.out.block b h2)
          have HOWN := hide ((HY8.out.1).alloc (.cells #[.string a7.name, .int .i64 a7.way, .int .i64 a7.ty, .int .i64 a7.init] 32))
          go_wp2_with (at_builtin; (refine append_new rfl (.tmp 28) (.tmp 30) 24 rfl 32 i0 (.agg #[.string ⟨#[]⟩, .int .i64 0, .int .i64 0, .int .i64 0]) 4 40 Tryd.underlying24 hi hz0 hz1 hz2 rfl (by decide) _ acc.length (acc.flatMap deCells) rfl HOWN.out ⟨w7.heap.size + 1, 0, none⟩ 1 [.string a7.name, .int .i64 a7.way, .int .i64 a7.ty, .int .i64 a7.init] rfl rfl ?c1 ?c2 ?c3 (by decide) ?_))
          case c1 => exact (by have := row_new (w7.alloc (.cells #[.string a7.name, .int .i64 a7.way, .int .i64 a7.ty, .int .i64 a7.init] 32)) 32 [.string a7.name, .int .i64 a7.way, .int .i64 a7.ty, .int .i64 a7.init]; simpa using this)
          case c2 => simp [Value.oneCell']
          case c3 => have := hac.out; omega
          · intro v9 w9 hown9 hg9 hb9
            have HK9 := hide (grown_kept hg9 (fun b hb => HY8.out.2 b hb) (HK8.out.alloc (.cells #[.string a7.name, .int .i64 a7.way, .int .i64 a7.ty, .int .i64 a7.init] 32)) (Nat.le_refl _))
            have HD9 : Hid (Rd w9 R T cap ts k7) := HD8.out.grown (N := w.heap.size) (Kept.of (below_alloc _ (.cells #[.string a7.name, .int .i64 a7.way, .int .i64 a7.ty, .int .i64 a7.init] 32))) hg9 (fun b hb => HY8.out.2 b hb) HR.out.Rlt HR.out.Tlt (Below.heap_alloc _ _ _ HD8.out.Rlt) (by have := HR.out.big; have := HR.out.Rlt; omega)
            have HY9 : Hid (IsDes (From w.heap.size) w9 (acc ++ [a7]) v9) := ⟨by simpa using hown9, fun b hb => by
              rcases hb9 with e | e
              · exact HY8.out.2 b (by rw [← e]; exact hb)
              · rw [e] at hb
                simp only [Option.some.injEq] at hb
                have := HK8.out.size
                simp at hb this
                show w.heap.size ≤ b
                omega⟩
            obtain ⟨va9, vc9, hv9⟩ := HY9.out.val
            subst hv9
            clear hown9 hg9 hb9
            go_wp2_with fail
            refine ⟨⟨g, acc ++ [a7], k7, HY9, HD9, HK9, ?_, ?_⟩, ?_⟩
            · show _ = _
              rw [he2.out]; simp only [declsP, if_pos HDC.out, Hr7.out, Res.bind, if_neg H20.out]
            · have h1 := hac.out
              have h2 := HLT7.out
              exact (by simp; omega : (acc ++ [a7]).length ≤ k7)
            · rw [HD9.out.nextOf_eq, HNX.out]; have := HLT7.out; have := hd2.out.lt; omega
end Go.Proofs.YtiimnnancblbkaaDoor
