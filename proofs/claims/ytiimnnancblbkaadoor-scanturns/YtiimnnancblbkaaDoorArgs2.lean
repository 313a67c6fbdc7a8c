/-
  CONTRACT of args: what a call has between its brackets.
-/
import Derived.Deep.RegionHeld3
import Derived.OwnWalk
import Derived.Test.YtiimnnancblbkaaDoorJTwo
namespace Go.Proofs.YtiimnnancblbkaaDoor
open Go.RowKit

theorem below_drew (w : World) : Below w.heap.size w w.drew := (Below.refl _ _).drew
theorem info_ptr : ∃ i, Tryd.prog.info? 45 = some i ∧ i.zero = some (.pointer none) ∧ i.size = 1 ∧ i.bytes = 8 := info_parts (by kernel_rfl)

theorem exs_snoc {R N : Nat} {w0 w w1 : World} {l : List Ex} {x : Ex} {v v' : Value} {Q : Nat} {vs : List Value} (o : Obj) (h0 : w0.heap.size = N) (hk : Kept R w0 w) (hrow : IsRow (From N) w 45 1 v l.length vs) (hall : All2 (IsEx (From N) w) l vs) (hx : IsEx (From N) w x (.pointer (some ⟨Q, 0, none⟩)))
    (hown : w1.ownsRow 0 45 1 v' (l.length + 1) (vs ++ [.pointer (some ⟨Q, 0, none⟩)])) (hg : (w.alloc o).grownBy w1 v.ownBlock) (hb : v'.ownBlock = v.ownBlock ∨ v'.ownBlock = some (w.heap.size + 1)) :
    IsExs (From N) w1 (l ++ [x]) v' ∧ Kept R w0 w1 := by
  have hsz : w.heap.size ≤ (w.alloc o).heap.size := by simp
  have hge : ∀ b, v.ownBlock = some b → N ≤ b := hrow.2
  -- the blocks of expressions are no rows of pointers
  have hne : ∀ b, v.ownBlock = some b → ∀ c : Array Value, w.heap[b]? ≠ some (.cells c 50 (0, 0)) := by
    intro b hb' c hc
    rcases hrow.1.2 with ⟨rfl, _⟩ | ⟨g, cap, cur, rfl, _, hgg, _⟩
    · simp [Value.ownBlock] at hb'
    · simp [Value.ownBlock] at hb'
      subst hb'
      rw [hgg] at hc
      cases hc
  have carry : ∀ {y : Ex} {u : Value}, IsEx (From N) w y u → IsEx (From N) w1 y u := by
    intro y u hy
    have hy2 : IsEx (fun b => N ≤ b ∧ some b ≠ v.ownBlock) w y u := by
      clear hx hall hown hb
      induction y generalizing u with
      | num => obtain ⟨B, e, hn, h⟩ := hy; exact ⟨B, e, ⟨hn, fun q => hne B q.symm _ h⟩, h⟩
      | name => obtain ⟨B, e, hn, h⟩ := hy; exact ⟨B, e, ⟨hn, fun q => hne B q.symm _ h⟩, h⟩
      | field => obtain ⟨B, e, hn, h⟩ := hy; exact ⟨B, e, ⟨hn, fun q => hne B q.symm _ h⟩, h⟩
      | not p y ih => obtain ⟨B, a, e, hn, h, h2⟩ := hy; exact ⟨B, a, e, ⟨hn, fun q => hne B q.symm _ h⟩, h, ih h2⟩
      | bin p op y z ih1 ih2 => obtain ⟨B, a, b, e, hn, h, h2, h3⟩ := hy; exact ⟨B, a, b, e, ⟨hn, fun q => hne B q.symm _ h⟩, h, ih1 h2, ih2 h3⟩
    have := hy2.same (w' := w1) fun b hb1 hb2 => (hg.block b (Nat.lt_of_lt_of_le hb2 hsz) hb1.2).trans (Below.heap_alloc w o b hb2)
    exact this.imp fun b _ h => h.1
  refine ⟨⟨vs ++ [.pointer (some ⟨Q, 0, none⟩)], ⟨by simpa using hown, fun b hb' => ?_⟩, (hall.imp fun _ _ h => carry h).snoc (carry hx)⟩, ?_⟩
  · rcases hb with e | e
    · exact hge b (by rw [← e]; exact hb')
    · rw [e] at hb'
      simp only [Option.some.injEq] at hb'
      have := hk.size
      show N ≤ b
      omega
  · exact grown_kept hg hge (hk.alloc o) (by omega)

theorem one_new (w : World) (t : TypeId) (u : Value) : ∀ (j : Nat) (x : Value), [u][j]? = some x → (w.alloc (.cells #[u] t)).cell? ((⟨w.heap.size, 0, none⟩ : Addr).add j) = some x := by
  intro j x hx
  have hj : j = 0 := by
    have := (List.getElem?_eq_some_iff.1 hx).1
    simpa using this
  subst hj
  rw [show ((⟨w.heap.size, 0, none⟩ : Addr).add 0) = ⟨w.heap.size, 0, none⟩ by unfold Addr.add; split <;> simp_all]
  rw [blk_cell (blk_new w _)]
  simpa using hx

theorem Rd.grown {w w1 w2 : World} {R T cap k N : Nat} {ts : List Tok} {v : Value} (h : Rd w R T cap ts k) (hk : Kept R w w1) (hg : w1.grownBy w2 v.ownBlock) (hv : ∀ b, v.ownBlock = some b → N ≤ b) (hR : R < N) (hT : T < N) (hme : w1.heap[R]? = w.heap[R]?) (hbig : 5 ≤ N) : Rd w2 R T cap ts k := by
  have hb : ∀ b, b < w.heap.size → b < N → w2.heap[b]? = w.heap[b]? := fun b h1 h2 => by
    have e1 := hg.block b (Nat.lt_of_lt_of_le h1 hk.size) (fun e => by have := hv b e.symm; omega)
    by_cases hbR : b = R
    · rw [e1, hbR, hme]
    · rw [e1, hk.block b h1 hbR]
  have hT2 := h.Tlt
  refine ⟨(hb R h.Rlt hR).trans h.me, fun i hi => ?_, h.ne, h.big, ?_, h.lt, h.fit⟩
  · have := h.row i hi
    exact ⟨(World.cell?_of_block (w := w) (hb T hT2 hT)).trans this.1, (World.cell?_of_block (w := w) (hb T hT2 hT)).trans this.2.1, (World.cell?_of_block (w := w) (hb T hT2 hT)).trans this.2.2⟩
  · have h1 := blk_lt h.vars.marks
    have h2 := blk_lt h.vars.kept
    have h3 := blk_lt h.vars.types
    have h4 := blk_lt h.vars.ways
    exact ⟨vmk ((hb _ h1 (by omega)).trans h.vars.marks), vmk ((hb _ h2 (by omega)).trans h.vars.kept), vmk ((hb _ h3 (by omega)).trans h.vars.types), vmk ((hb _ h4 (by omega)).trans h.vars.ways)⟩

set_option maxRecDepth 100000 in
set_option maxHeartbeats 6400000 in
theorem args_at (f : Nat) {w : World} {R T cap : Nat} {ts : List Tok} {k : Nat} (h : Rd w R T cap ts k) (hout : argsP ts f k [] ≠ .out) :
    Calls Tryd.prog 74 #[.pointer (some ⟨R, 0, none⟩)] w (Rds w R T cap ts (fun w' v (a : List Ex × Nat) => ∃ vl, v = .tuple #[vl, .int .i64 a.2] ∧ IsExs (From w.heap.size) w' a.1 vl) (argsP ts f k [])) := by
  have hnot : ∀ (x : Bool) (w : World), (Op.unary .not (.bool x)).run Tryd.prog w = .ok (.bool (!x)) w := fun _ _ => rfl
  have q0 := fld0
  obtain ⟨i0, hi, hz0, hz1, hz2⟩ := info_ptr
  have HR := hide h
  have HO := hide hout
  clear h hout
  go_enter Tryd.func74, Tryd.ntmps74
  go_wp2_with fail
  go_loopw [2, 3] (fun v _ wr => ∃ (g : Nat) (acc : List Ex) (k2 : Nat), Hid (IsExs (From w.heap.size) wr acc v) ∧ Hid (Rd wr R T cap ts k2) ∧ Hid (Kept R w wr) ∧ Hid (argsP ts f k [] = argsP ts g k2 acc) ∧ Hid (acc.length ≤ k2)) (fun _ _ wr => ts.length - nextOf R wr)
  case atStart => exact ⟨f, [], k, IsExs.nil .., HR, Kept.refl R w, rfl, Nat.zero_le k⟩
  case round =>
    obtain ⟨g, acc, k2, hy, hd2, hk2, he2, hac⟩ := hrel
    have HNX : Hid (nextOf R wr = k2) := hd2.out.nextOf_eq
    cases g with
    | zero => exact absurd (he2.out.trans (by simp only [argsP])) HO.out
    | succ g =>
    have hk8 : k2 < 801 := by have := hd2.out.fit.len; have := hd2.out.lt; omega
    obtain ⟨u2a, u2c, hu2⟩ : ∃ (a : Option Addr) (c : Nat), u2 = .slice a acc.length c := by
      obtain ⟨vs, hrow, _⟩ := hy.out
      exact hrow.val
    subst hu2
    by_cases hA : (tk ts k2).kind = 2 ∧ (tx ts (k2 + 1) == [41]) = true
    · have HAC := hide hA
      have hkk : (((tk ts k2).kind : Int) == 2) = true := by simp; omega
      have hkx : ((tk ts k2).kind : Int) = 2 := by omega
      have htx : ((tk ts (k2 + 1)).text.toList == [41]) = true := hA.2
      clear hA
      have HMORE := hide (hd2.out.fit.next k2 hd2.out.lt (by omega))
      have hmi : ((k2 : Int) + 1) < (ts.length : Int) := by have := HMORE.out; omega
      have hwr : IntKind.i64.wrap ((k2 : Int) + 1) = (k2 : Int) + 1 := wrap_small (by omega) (by omega)
      have hpos : (0 : Int) ≤ (k2 : Int) + 1 := by omega
      have s0 : wr.cell? ⟨R, 0, none⟩ = some (.slice (some ⟨T, 0, none⟩) ts.length cap) := by rw [blk_cell hd2.out.me]; rfl
      have s1 : wr.cell? ⟨R, 1, none⟩ = some (.int .i64 k2) := by rw [blk_cell hd2.out.me]; rfl
      have s2 : wr.cell? ⟨T, (k2 + 1) * 3 + 1, none⟩ = some (.string (tk ts (k2 + 1)).text) := (hd2.out.row (k2 + 1) HMORE.out).2.1
      go_wp2_with fail
      go_region_held3 (fun w' => w'.cell? ⟨R, 0, none⟩ = some (.slice (some ⟨T, 0, none⟩) ts.length cap) ∧ w'.cell? ⟨R, 1, none⟩ = some (.int .i64 k2) ∧ w'.cell? ⟨T, (k2 + 1) * 3 + 1, none⟩ = some (.string (tk ts (k2 + 1)).text)) (first | exact ⟨c0, c1, c2⟩ | go_keep) ((refine (now_at (hd2.out.below (below_drew wr))).mono ?_; rintro e w3 ⟨rfl, hb3⟩; have HB3 := hide (Below.step (below_drew wr) hb3); have c0 : w3.cell? ⟨R, 0, none⟩ = some (.slice (some ⟨T, 0, none⟩) ts.length cap) := (by rw [blk_cell (hd2.out.below HB3.out).me]; rfl); have c1 : w3.cell? ⟨R, 1, none⟩ = some (.int .i64 k2) := (by rw [blk_cell (hd2.out.below HB3.out).me]; rfl); have c2 : w3.cell? ⟨T, (k2 + 1) * 3 + 1, none⟩ = some (.string (tk ts (k2 + 1)).text) := ((hd2.out.below HB3.out).row (k2 + 1) HMORE.out).2.1; clear hb3))
      have HD3 := hide (hd2.out.below HB3.out)
      have HK3 := hide (hk2.out.below HB3.out)
      have HY3 := hide (hy.out.same fun b _ h2 => HB3.out.block b h2)
      clear s0 s1 s2 c0 c1 c2
      go_wp2_with fail
      refine (byte_at HD3.out).mono ?_
      rintro e w6 h6
      rcases h6.cases with ⟨er6, p6, A6, hr6, rfl, hA6, hk6⟩ | ⟨a6, k6, v6, hr6, rfl, hv6, hd6, hk6⟩
      · have Hr6 := hide hr6
        have HA6 := hide hA6
        have HK6 := hide (HK3.out.trans hk6)
        clear h6 hr6 hA6 hk6
        go_wp2_with fail
        exact ⟨rfl, Rds.bad (by rw [he2.out]; simp only [argsP, if_pos HAC.out, Hr6.out, Res.bind]) HK6.out HA6.out⟩
      · have Hr6 := hide hr6
        have HD6 := hide hd6
        have HK6 := hide (HK3.out.trans hk6)
        subst hv6
        have HY6 := hide (HY3.out.same fun b h1 h2 => hk6.block b h2 (by have : w.heap.size ≤ b := h1; have := HR.out.Rlt; omega))
        clear h6 hr6 hd6 hk6
        go_wp2_with fail
        go_ret2
        exact Rds.ok (a := (acc, a6)) (k' := k6) (by rw [he2.out]; simp only [argsP, if_pos HAC.out, Hr6.out, Res.bind]) HK6.out HD6.out ⟨_, rfl, HY6.out⟩
    · have HAC := hide hA
      have HOE : Hid (twoP ts g 1 0 k2 ≠ .out) := fun e => HO.out (he2.out.trans (by simp only [argsP, if_neg HAC.out, e, Res.bind]))
      by_cases hB : (tk ts k2).kind = 2
      · have hkk : (((tk ts k2).kind : Int) == 2) = true := by simp; omega
        have hkx : ((tk ts k2).kind : Int) = 2 := by omega
        have htx : ((tk ts (k2 + 1)).text.toList == [41]) = false := by
          cases hq : ((tk ts (k2 + 1)).text.toList == [41]) with
          | false => rfl
          | true => exact absurd ⟨hB, hq⟩ hA
        clear hA hB
        have HMORE := hide (hd2.out.fit.next k2 hd2.out.lt (by omega))
        have hmi : ((k2 : Int) + 1) < (ts.length : Int) := by have := HMORE.out; omega
        have hwr : IntKind.i64.wrap ((k2 : Int) + 1) = (k2 : Int) + 1 := wrap_small (by omega) (by omega)
        have hpos : (0 : Int) ≤ (k2 : Int) + 1 := by omega
        have s0 : wr.cell? ⟨R, 0, none⟩ = some (.slice (some ⟨T, 0, none⟩) ts.length cap) := by rw [blk_cell hd2.out.me]; rfl
        have s1 : wr.cell? ⟨R, 1, none⟩ = some (.int .i64 k2) := by rw [blk_cell hd2.out.me]; rfl
        have s2 : wr.cell? ⟨T, (k2 + 1) * 3 + 1, none⟩ = some (.string (tk ts (k2 + 1)).text) := (hd2.out.row (k2 + 1) HMORE.out).2.1
        go_wp2_with fail
        go_region_held3 (fun w' => w'.cell? ⟨R, 0, none⟩ = some (.slice (some ⟨T, 0, none⟩) ts.length cap) ∧ w'.cell? ⟨R, 1, none⟩ = some (.int .i64 k2) ∧ w'.cell? ⟨T, (k2 + 1) * 3 + 1, none⟩ = some (.string (tk ts (k2 + 1)).text)) (first | exact ⟨c0, c1, c2⟩ | go_keep) ((refine (now_at (hd2.out.below (below_drew wr))).mono ?_; rintro e w3 ⟨rfl, hb3⟩; have HB3 := hide (Below.step (below_drew wr) hb3); have c0 : w3.cell? ⟨R, 0, none⟩ = some (.slice (some ⟨T, 0, none⟩) ts.length cap) := (by rw [blk_cell (hd2.out.below HB3.out).me]; rfl); have c1 : w3.cell? ⟨R, 1, none⟩ = some (.int .i64 k2) := (by rw [blk_cell (hd2.out.below HB3.out).me]; rfl); have c2 : w3.cell? ⟨T, (k2 + 1) * 3 + 1, none⟩ = some (.string (tk ts (k2 + 1)).text) := ((hd2.out.below HB3.out).row (k2 + 1) HMORE.out).2.1; clear hb3))
        have HD3 := hide (hd2.out.below HB3.out)
        have HK3 := hide (hk2.out.below HB3.out)
        have HY3 := hide (hy.out.same fun b _ h2 => HB3.out.block b h2)
        clear s0 s1 s2 c0 c1 c2
        go_wp2_with fail
        refine (expr_at g HD3.out HOE.out).mono ?_
        rintro e w6 h6
        rcases h6.cases with ⟨er6, p6, A6, hr6, rfl, hA6, hk6⟩ | ⟨a6, k6, v6, hr6, rfl, hv6, hd6, hk6⟩
        · have Hr6 := hide hr6
          have HA6 := hide hA6
          have HK6 := hide (HK3.out.trans hk6)
          clear h6 hr6 hA6 hk6
          go_wp2_with fail
          exact ⟨rfl, Rds.bad (by rw [he2.out]; simp only [argsP, if_neg HAC.out, Hr6.out, Res.bind]) HK6.out HA6.out⟩
        · have Hr6 := hide hr6
          have HD6 := hide hd6
          have HK6 := hide (HK3.out.trans hk6)
          obtain ⟨Q6, rfl⟩ := hv6.ptr
          have HV6 := hide (hv6.low HK3.out.size)
          have HLT6 := hide (two_lt hr6)
          have HY6 := hide (HY3.out.same fun b h1 h2 => hk6.block b h2 (by have : w.heap.size ≤ b := h1; have := HR.out.Rlt; omega))
          clear h6 hr6 hd6 hk6 hv6
          obtain ⟨vs, hrow, hall⟩ := HY6.out
          have HROW := hide hrow
          have HALL := hide hall
          clear hrow hall
          have hown := (HROW.out.1).alloc (.cells #[.pointer (some ⟨Q6, 0, none⟩)] 45)
          have HOWN := hide hown
          clear hown
          go_wp2_with (at_builtin; (refine append_new rfl (.tmp 26) (.tmp 29) 46 rfl 45 i0 (.pointer none) 1 8 Tryd.underlying46 hi hz0 hz1 hz2 rfl (by decide) _ acc.length vs rfl HOWN.out ⟨w6.heap.size, 0, none⟩ 1 [.pointer (some ⟨Q6, 0, none⟩)] rfl rfl ?c1 ?c2 ?c3 (by decide) ?_))
          case c1 => exact one_new _ _ _
          case c2 => intro u hu; simp at hu; subst hu; rfl
          case c3 => have := hac.out; omega
          · intro v7 w7 hown7 hg7 hb7
            have HE7 := hide (exs_snoc (.cells #[.pointer (some ⟨Q6, 0, none⟩)] 45) rfl HK6.out HROW.out HALL.out HV6.out hown7 hg7 hb7)
            have HD7 : Hid (Rd w7 R T cap ts k6) := HD6.out.grown (N := w.heap.size) (Kept.of (below_alloc w6 (.cells #[.pointer (some ⟨Q6, 0, none⟩)] 45))) hg7 (fun b hb => HROW.out.2 b hb) HR.out.Rlt HR.out.Tlt (Below.heap_alloc _ _ _ HD6.out.Rlt) (by have := HR.out.big; have := HR.out.Rlt; omega)
            obtain ⟨va7, vc7, hv7⟩ : ∃ (a : Option Addr) (c : Nat), v7 = .slice a (acc.length + 1) c := (IsRow.val (S := fun _ => True) ⟨hown7, fun _ _ => trivial⟩)
            subst hv7
            clear hown7 hg7 hb7
            go_wp2_with fail
            cases h8 : (tx ts k6 == [44]) with
            | true =>
              have H8 := hide h8
              clear h8
              refine (yes_at [44] (by decide) HD7.out H8.out).mono ?_
              rintro e w8 ⟨rfl, hd8, hk8⟩
              have HD8 := hide hd8
              have HK8 := hide (HE7.out.2.trans hk8)
              have HX8 := hide hk8
              clear hd8 hk8
              go_wp2_with fail
              refine ⟨⟨g, acc ++ [a6], k6 + 1, ?_, HD8, HK8, ?_, ?_⟩, ?_⟩
              · exact HE7.out.1.same fun b h1 h2 => HX8.out.block b h2 (by have : w.heap.size ≤ b := h1; have := HR.out.Rlt; omega)
              · show _ = _
                rw [he2.out]; simp only [argsP, if_neg HAC.out, Hr6.out, Res.bind, H8.out, if_true]
              · show _ ≤ _
                have := hac.out; have := HLT6.out; simp; omega
              · rw [HD8.out.nextOf_eq, HNX.out]; have := HLT6.out; have := hd2.out.lt; omega
            | false =>
              have H8 := hide h8
              clear h8
              refine (no_at [44] HD7.out H8.out).mono ?_
              rintro e w8 ⟨rfl, hd8, hk8⟩
              have HD8 := hide hd8
              have HK8 := hide (HE7.out.2.trans hk8)
              have HX8 := hide hk8
              clear hd8 hk8
              go_wp2_with fail
              go_ret2
              exact Rds.ok (a := (acc ++ [a6], 0)) (k' := k6) (by rw [he2.out]; simp only [argsP, if_neg HAC.out, Hr6.out, Res.bind, H8.out, Bool.false_eq_true, if_false]) HK8.out HD8.out ⟨_, rfl, HE7.out.1.same fun b h1 h2 => HX8.out.block b h2 (by have : w.heap.size ≤ b := h1; have := HR.out.Rlt; omega)⟩
      · have hkk : (((tk ts k2).kind : Int) == 2) = false := by simp; omega
        have hbo : ∀ w, (binOp .eql 3 (.int .i64 ((tk ts k2).kind : Int)) (.int .i64 2)).run Tryd.prog w = .ok (.bool false) w := fun w => by simp [go_sem, hkk]
        clear hA hB
        go_wp2_with fail
        refine wp_region_held_drew (S := fun _ => True) (by kernel_rfl) trivial (fun _ => ?_)
        refine wpAnyH_take (i := 0) (oi := ⟨some 4, _, _, _, _, _⟩) (v := .pointer (some ⟨R, 0, none⟩)) rfl (by kernel_rfl) (by kernel_rfl) (by kernel_rfl) (fun _ _ _ h => h) (Or.inl ⟨by rfl, fun w _ => by go_simp⟩) trivial ?_
        simp only [Act.put, List.setIfInBounds_toArray, List.set_cons_zero, List.set_cons_succ]
        refine wpAnyH_ready (rs := [1]) (by kernel_rfl) (by simp) ?_
        refine AllReadyH.cons rfl (fun K hK => ?_) AllReadyH.nil
        go_simp
        refine (now_at (hd2.out.below (below_drew wr))).mono ?_
        rintro e w3 ⟨rfl, hb3⟩
        have HB3 := hide (Below.step (below_drew wr) hb3)
        clear hb3
        refine hK.out _ _ trivial (fun _ => ?_)
        clear hK K
        refine wpAnyH_take (i := 2) (oi := ⟨some 6, _, _, _, _, _⟩) (v := .int .i64 ((tk ts k2).kind : Int)) rfl (by kernel_rfl) (by kernel_rfl) (by kernel_rfl) (fun _ _ _ h => h) (Or.inl ⟨by rfl, fun w _ => by go_simp⟩) trivial ?_
        simp only [Act.put, List.setIfInBounds_toArray, List.set_cons_zero, List.set_cons_succ]
        refine wpAnyH_take (i := 3) (oi := ⟨some 7, _, _, _, _, _⟩) (v := .bool false) rfl (by kernel_rfl) (by kernel_rfl) (by kernel_rfl) (fun _ _ _ h => h) (Or.inl ⟨by rfl, fun w _ => by go_simp⟩) trivial ?_
        simp only [Act.put, List.setIfInBounds_toArray, List.set_cons_zero, List.set_cons_succ]
        refine wpAnyH_take (i := 4) (oi := ⟨some 8, _, _, _, _, _⟩) (v := .bool false) rfl (by kernel_rfl) (by kernel_rfl) (by kernel_rfl) (fun _ _ _ h => h) (Or.inl ⟨by rfl, fun w _ => by go_simp⟩) trivial ?_
        simp only [Act.put, List.setIfInBounds_toArray, List.set_cons_zero, List.set_cons_succ]
        refine wpAnyH_take (i := 5) (oi := ⟨some 9, _, _, _, _, _⟩) (v := undef) rfl (by kernel_rfl) (by kernel_rfl) (by kernel_rfl) (fun _ _ _ h => h) (Or.inr ⟨by rfl, rfl⟩) trivial ?_
        simp only [Act.put, List.setIfInBounds_toArray, List.set_cons_zero, List.set_cons_succ]
        refine wpAnyH_take (i := 6) (oi := ⟨some 10, _, _, _, _, _⟩) (v := undef) rfl (by kernel_rfl) (by kernel_rfl) (by kernel_rfl) (fun _ _ _ h => h) (Or.inr ⟨by rfl, rfl⟩) trivial ?_
        simp only [Act.put, List.setIfInBounds_toArray, List.set_cons_zero, List.set_cons_succ]
        refine wpAnyH_take (i := 7) (oi := ⟨some 11, _, _, _, _, _⟩) (v := undef) rfl (by kernel_rfl) (by kernel_rfl) (by kernel_rfl) (fun _ _ _ h => h) (Or.inr ⟨by rfl, rfl⟩) trivial ?_
        simp only [Act.put, List.setIfInBounds_toArray, List.set_cons_zero, List.set_cons_succ]
        refine wpAnyH_take (i := 8) (oi := ⟨some 12, _, _, _, _, _⟩) (v := undef) rfl (by kernel_rfl) (by kernel_rfl) (by kernel_rfl) (fun _ _ _ h => h) (Or.inr ⟨by rfl, rfl⟩) trivial ?_
        simp only [Act.put, List.setIfInBounds_toArray, List.set_cons_zero, List.set_cons_succ]
        refine wpAnyH_take (i := 9) (oi := ⟨some 13, _, _, _, _, _⟩) (v := undef) rfl (by kernel_rfl) (by kernel_rfl) (by kernel_rfl) (fun _ _ _ h => h) (Or.inr ⟨by rfl, rfl⟩) trivial ?_
        simp only [Act.put, List.setIfInBounds_toArray, List.set_cons_zero, List.set_cons_succ]
        refine wpAnyH_take (i := 10) (oi := ⟨some 14, _, _, _, _, _⟩) (v := undef) rfl (by kernel_rfl) (by kernel_rfl) (by kernel_rfl) (fun _ _ _ h => h) (Or.inr ⟨by rfl, rfl⟩) trivial ?_
        simp only [Act.put, List.setIfInBounds_toArray, List.set_cons_zero, List.set_cons_succ]
        refine wpAnyH_take (i := 11) (oi := ⟨some 15, _, _, _, _, _⟩) (v := undef) rfl (by kernel_rfl) (by kernel_rfl) (by kernel_rfl) (fun _ _ _ h => h) (Or.inr ⟨by rfl, rfl⟩) trivial ?_
        simp only [Act.put, List.setIfInBounds_toArray, List.set_cons_zero, List.set_cons_succ]
        refine wpAnyH_take (i := 12) (oi := ⟨some 16, _, _, _, _, _⟩) (v := undef) rfl (by kernel_rfl) (by kernel_rfl) (by kernel_rfl) (fun _ _ _ h => h) (Or.inr ⟨by rfl, rfl⟩) trivial ?_
        simp only [Act.put, List.setIfInBounds_toArray, List.set_cons_zero, List.set_cons_succ]
        refine wpAnyH_take (i := 13) (oi := ⟨some 17, _, _, _, _, _⟩) (v := undef) rfl (by kernel_rfl) (by kernel_rfl) (by kernel_rfl) (fun _ _ _ h => h) (Or.inr ⟨by rfl, rfl⟩) trivial ?_
        simp only [Act.put, List.setIfInBounds_toArray, List.set_cons_zero, List.set_cons_succ]
        refine wpAnyH_take (i := 14) (oi := ⟨some 18, _, _, _, _, _⟩) (v := undef) rfl (by kernel_rfl) (by kernel_rfl) (by kernel_rfl) (fun _ _ _ h => h) (Or.inr ⟨by rfl, rfl⟩) trivial ?_
        simp only [Act.put, List.setIfInBounds_toArray, List.set_cons_zero, List.set_cons_succ]
        refine wpAnyH_take (i := 15) (oi := ⟨some 19, _, _, _, _, _⟩) (v := undef) rfl (by kernel_rfl) (by kernel_rfl) (by kernel_rfl) (fun _ _ _ h => h) (Or.inr ⟨by rfl, rfl⟩) trivial ?_
        simp only [Act.put, List.setIfInBounds_toArray, List.set_cons_zero, List.set_cons_succ]
        refine wpAnyH_take (i := 16) (oi := ⟨some 20, _, _, _, _, _⟩) (v := undef) rfl (by kernel_rfl) (by kernel_rfl) (by kernel_rfl) (fun _ _ _ h => h) (Or.inr ⟨by rfl, rfl⟩) trivial ?_
        simp only [Act.put, List.setIfInBounds_toArray, List.set_cons_zero, List.set_cons_succ]
        refine wpAnyH_take (i := 17) (oi := ⟨some 21, _, _, _, _, _⟩) (v := undef) rfl (by kernel_rfl) (by kernel_rfl) (by kernel_rfl) (fun _ _ _ h => h) (Or.inr ⟨by rfl, rfl⟩) trivial ?_
        simp only [Act.put, List.setIfInBounds_toArray, List.set_cons_zero, List.set_cons_succ]
        refine wpAnyH_take (i := 18) (oi := ⟨some 22, _, _, _, _, _⟩) (v := .bool false) rfl (by kernel_rfl) (by kernel_rfl) (by kernel_rfl) (fun _ _ _ h => h) (Or.inl ⟨by rfl, fun w _ => by go_simp⟩) trivial ?_
        simp only [Act.put, List.setIfInBounds_toArray, List.set_cons_zero, List.set_cons_succ]
        refine wpAnyH_done (by kernel_rfl) ?_ _
        have HD3 := hide (hd2.out.below HB3.out)
        have HK3 := hide (hk2.out.below HB3.out)
        have HY3 := hide (hy.out.same fun b _ h2 => HB3.out.block b h2)
        go_wp2_with fail
        refine (expr_at g HD3.out HOE.out).mono ?_
        rintro e w6 h6
        rcases h6.cases with ⟨er6, p6, A6, hr6, rfl, hA6, hk6⟩ | ⟨a6, k6, v6, hr6, rfl, hv6, hd6, hk6⟩
        · have Hr6 := hide hr6
          have HA6 := hide hA6
          have HK6 := hide (HK3.out.trans hk6)
          clear h6 hr6 hA6 hk6
          go_wp2_with fail
          exact ⟨rfl, Rds.bad (by rw [he2.out]; simp only [argsP, if_neg HAC.out, Hr6.out, Res.bind]) HK6.out HA6.out⟩
        · have Hr6 := hide hr6
          have HD6 := hide hd6
          have HK6 := hide (HK3.out.trans hk6)
          obtain ⟨Q6, rfl⟩ := hv6.ptr
          have HV6 := hide (hv6.low HK3.out.size)
          have HLT6 := hide (two_lt hr6)
          have HY6 := hide (HY3.out.same fun b h1 h2 => hk6.block b h2 (by have : w.heap.size ≤ b := h1; have := HR.out.Rlt; omega))
          clear h6 hr6 hd6 hk6 hv6
          obtain ⟨vs, hrow, hall⟩ := HY6.out
          have HROW := hide hrow
          have HALL := hide hall
          clear hrow hall
          have hown := (HROW.out.1).alloc (.cells #[.pointer (some ⟨Q6, 0, none⟩)] 45)
          have HOWN := hide hown
          clear hown
          go_wp2_with (at_builtin; (refine append_new rfl (.tmp 26) (.tmp 29) 46 rfl 45 i0 (.pointer none) 1 8 Tryd.underlying46 hi hz0 hz1 hz2 rfl (by decide) _ acc.length vs rfl HOWN.out ⟨w6.heap.size, 0, none⟩ 1 [.pointer (some ⟨Q6, 0, none⟩)] rfl rfl ?c1 ?c2 ?c3 (by decide) ?_))
          case c1 => exact one_new _ _ _
          case c2 => intro u hu; simp at hu; subst hu; rfl
          case c3 => have := hac.out; omega
          · intro v7 w7 hown7 hg7 hb7
            have HE7 := hide (exs_snoc (.cells #[.pointer (some ⟨Q6, 0, none⟩)] 45) rfl HK6.out HROW.out HALL.out HV6.out hown7 hg7 hb7)
            have HD7 : Hid (Rd w7 R T cap ts k6) := HD6.out.grown (N := w.heap.size) (Kept.of (below_alloc w6 (.cells #[.pointer (some ⟨Q6, 0, none⟩)] 45))) hg7 (fun b hb => HROW.out.2 b hb) HR.out.Rlt HR.out.Tlt (Below.heap_alloc _ _ _ HD6.out.Rlt) (by have := HR.out.big; have := HR.out.Rlt; omega)
            obtain ⟨va7, vc7, hv7⟩ : ∃ (a : Option Addr) (c : Nat), v7 = .slice a (acc.length + 1) c := (IsRow.val (S := fun _ => True) ⟨hown7, fun _ _ => trivial⟩)
            subst hv7
            clear hown7 hg7 hb7
            go_wp2_with fail
            cases h8 : (tx ts k6 == [44]) with
            | true =>
              have H8 := hide h8
              clear h8
              refine (yes_at [44] (by decide) HD7.out H8.out).mono ?_
              rintro e w8 ⟨rfl, hd8, hk8⟩
              have HD8 := hide hd8
              have HK8 := hide (HE7.out.2.trans hk8)
              have HX8 := hide hk8
              clear hd8 hk8
              go_wp2_with fail
              refine ⟨⟨g, acc ++ [a6], k6 + 1, ?_, HD8, HK8, ?_, ?_⟩, ?_⟩
              · exact HE7.out.1.same fun b h1 h2 => HX8.out.block b h2 (by have : w.heap.size ≤ b := h1; have := HR.out.Rlt; omega)
              · show _ = _
                rw [he2.out]; simp only [argsP, if_neg HAC.out, Hr6.out, Res.bind, H8.out, if_true]
              · show _ ≤ _
                have := hac.out; have := HLT6.out; simp; omega
              · rw [HD8.out.nextOf_eq, HNX.out]; have := HLT6.out; have := hd2.out.lt; omega
            | false =>
              have H8 := hide h8
              clear h8
              refine (no_at [44] HD7.out H8.out).mono ?_
              rintro e w8 ⟨rfl, hd8, hk8⟩
              have HD8 := hide hd8
              have HK8 := hide (HE7.out.2.trans hk8)
              have HX8 := hide hk8
              clear hd8 hk8
              go_wp2_with fail
              go_ret2
              exact Rds.ok (a := (acc ++ [a6], 0)) (k' := k6) (by rw [he2.out]; simp only [argsP, if_neg HAC.out, Hr6.out, Res.bind, H8.out, Bool.false_eq_true, if_false]) HK8.out HD8.out ⟨_, rfl, HE7.out.1.same fun b h1 h2 => HX8.out.block b h2 (by have : w.heap.size ≤ b := h1; have := HR.out.Rlt; omega)⟩
end Go.Proofs.YtiimnnancblbkaaDoor
