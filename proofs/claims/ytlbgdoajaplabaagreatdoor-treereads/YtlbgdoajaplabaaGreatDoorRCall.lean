/-
  CONTRACTS of stmt of the reference's reader: what calls a block.
-/
import Derived.Test.YtlbgdoajaplabaaGreatDoorRStmt
namespace Go.Proofs.YtlbgdoajaplabaaGreatDoor
open Go.RowKit
set_option linter.unusedSimpArgs false
set_option linter.unusedVariables false

/-- what is read up to the closing bracket -/
def headP (ts : List Tok) (f k : Nat) : Res (ByteArray × (List Ex × Nat)) :=
  (nameP ts k).bind fun s k1 => (wantP ts [40] k1).bind fun _ k2 => (argsP ts f k2 []).bind fun l k3 => .ok (s, l) k3
theorem act_head (ts : List Tok) (f k : Nat) (h : seeB ts [58, 61] (nameP ts k).un = false) :
    actP ts f k = (headP ts f k).bind fun q k3 => (wantP ts [41] k3).bind fun _ k4 => (wantP ts [59] k4).bind fun _ k5 => .ok (.call (tk ts k).pos q.1 q.2.1 q.2.2) k5 := by
  unfold actP headP
  rw [Res.bind_assoc]
  refine Res.bind_congr _ fun s k1 e => ?_
  rw [e] at h
  have h : (tx ts k1 == [58, 61]) = false := h
  rw [h]
  simp only [Bool.false_eq_true, if_false, Res.bind_assoc, Res.bind_ok]

theorem exs_snoc2 {N : Nat} {w w1 : World} {l : List Ex} {x : Ex} {v v' : Value} {Q : Nat} {vs : List Value} (o : Obj) (hN : N ≤ w.heap.size) (hrow : IsRow (From N) w 65 1 v l.length vs) (hall : All2 (IsEx (From N) w) l vs) (hx : IsEx (From N) w x (.pointer (some ⟨Q, 0, none⟩)))
    (hown : w1.ownsRow 0 65 1 v' (l.length + 1) (vs ++ [.pointer (some ⟨Q, 0, none⟩)])) (hg : (w.alloc o).grownBy w1 v.ownBlock) (hb : v'.ownBlock = v.ownBlock ∨ v'.ownBlock = some (w.heap.size + 1)) :
    IsExs (From N) w1 (l ++ [x]) v' := by
  have hsz : w.heap.size ≤ (w.alloc o).heap.size := by simp
  have hge : ∀ b, v.ownBlock = some b → N ≤ b := hrow.2
  have hne : ∀ b, v.ownBlock = some b → ∀ c : Array Value, w.heap[b]? ≠ some (.cells c 107 (0, 0)) := by
    intro b hb' c hc
    rcases hrow.1.2 with ⟨rfl, _⟩ | ⟨g, cap, cur, rfl, _, hgg, _⟩
    · simp [Value.ownBlock] at hb'
    · simp [Value.ownBlock] at hb'
      subst hb'
      rw [hgg] at hc
      cases hc
  have carry : ∀ {y : Ex} {u : Value}, IsEx (From N) w y u → IsEx (From N) w1 y u := by
    intro y u hy
    have hy2 : IsEx (fun b => N ≤ b ∧ some b ≠ v.ownBlock) w y u := by
      clear hx hall hown hb
      induction y generalizing u with
      | num => obtain ⟨B, e, hn, h⟩ := hy; exact ⟨B, e, ⟨hn, fun q => hne B q.symm _ h⟩, h⟩
      | name => obtain ⟨B, e, hn, h⟩ := hy; exact ⟨B, e, ⟨hn, fun q => hne B q.symm _ h⟩, h⟩
      | field => obtain ⟨B, e, hn, h⟩ := hy; exact ⟨B, e, ⟨hn, fun q => hne B q.symm _ h⟩, h⟩
      | not p y ih => obtain ⟨B, a, e, hn, h, h2⟩ := hy; exact ⟨B, a, e, ⟨hn, fun q => hne B q.symm _ h⟩, h, ih h2⟩
      | bin p op y z ih1 ih2 => obtain ⟨B, a, b, e, hn, h, h2, h3⟩ := hy; exact ⟨B, a, b, e, ⟨hn, fun q => hne B q.symm _ h⟩, h, ih1 h2, ih2 h3⟩
    have := hy2.same (w' := w1) fun b hb1 hb2 => (hg.block b (Nat.lt_of_lt_of_le hb2 hsz) hb1.2).trans (Below.heap_alloc w o b hb2)
    exact this.imp fun b _ h => h.1
  refine ⟨vs ++ [.pointer (some ⟨Q, 0, none⟩)], ⟨by simpa using hown, fun b hb' => ?_⟩, (hall.imp fun _ _ h => carry h).snoc (carry hx)⟩
  rcases hb with e | e
  · exact hge b (by rw [← e]; exact hb')
  · rw [e] at hb'
    simp only [Option.some.injEq] at hb'
    show N ≤ b
    omega
/-- all below a place is as it was -/
theorem Rst.low {w w' : World} {R T N : Nat} {ts : List Tok} {r : Res Unit} (h : Rst w R T ts r) (hb : ∀ b, b < N → b < w.heap.size → w'.heap[b]? = w.heap[b]?) (hR : R < N) (hT : T < N) (hg : 12 ≤ N) : Rst w' R T ts r := by
  have go : ∀ {k er pl}, Rr w R T ts k er pl → Rr w' R T ts k er pl := fun {k er pl} h => by
    obtain ⟨n, c, hn, hc, hm⟩ := h.me
    have hT' : ∀ (a : Addr) v, a.block = T → w.cell? a = some v → w'.cell? a = some v := fun a v ha hv =>
      (World.cell?_of_block (w := w) (hb a.block (by rw [ha]; exact hT) (cell_lt hv))).trans hv
    refine ⟨⟨n, c, hn, hc, (hb R hR (blk_lt hm)).trans hm⟩, fun i hi => ?_, h.ne, h.big, h.vars.of fun b o hlt ho => (hb b (by omega) (blk_lt ho)).trans ho, h.lt, h.fit⟩
    have := h.row i hi
    exact ⟨hT' _ _ rfl this.1, hT' _ _ rfl this.2.1, hT' _ _ rfl this.2.2⟩
  cases r with
  | out => exact h.elim
  | bad er p => obtain ⟨k, h⟩ := h; exact ⟨k, go h⟩
  | ok u k => exact go h

theorem app_one {P : Program} {w : World} (t ty e : TypeId) (i : TypeInfo) (z : Value) (size bytes : Nat) (ht : P.underlying t = some (.slice e)) (hi : P.info? e = some i) (hz : i.zero = some z)
    (hsize : i.size = size) (hby : i.bytes = bytes) (hzs : z.cells.size = size) (hsz : 0 < size)
    (v : Value) (n : Nat) (xs : List Value) (hown : w.ownsRow 0 e size v n xs)
    (ad : Addr) (c : Nat) (news : List Value) (hl : news.length = size) (hnews : ∀ j u, news[j]? = some u → w.cell? (ad.add j) = some u) (h1 : ∀ u ∈ news, u.oneCell' = true)
    (h63 : n + 1 ≤ 1000000) (hb9 : bytes ≤ 1000) :
    ∃ v' w', (Builtin.append_ #[t, t] ty #[v, .slice (some ad) 1 c]).run P w = .ok v' w' ∧ w'.ownsRow 0 e size v' (n + 1) (xs ++ news) ∧ w.grownBy w' v.ownBlock ∧ (v'.ownBlock = v.ownBlock ∨ v'.ownBlock = some w.heap.size) := by
  have hlen : n + 1 ≤ maxLen := by simp only [maxLen]; omega
  have hbytes : (n + 1) * bytes ≤ 140737488355328 := Nat.le_trans (Nat.mul_le_mul h63 hb9) (by decide)
  obtain ⟨v', w', hr, h2, h3, h4⟩ := run_append_own (P := P) w 0 t ty e i z size bytes ht hi hz hsize hby hzs hsz v n xs hown ad 1 c news (by omega) hnews h1 hlen hbytes (Nat.zero_le _)
  refine ⟨v', w', hr, h2, h3, ?_⟩
  subst hsize
  subst hby
  rcases hown.2 with ⟨rfl, rfl⟩ | ⟨g, cap, cur, rfl, hbg, hg, hnc, hcm, hcs, htake⟩
  · have hq := run_append_nil (P := P) w t ty e i z ht hi hz ad 1 c news (by omega) hnews (by omega) (by omega) (by have := hbytes; omega)
    rw [hq] at hr
    cases hr
    exact .inr rfl
  · by_cases hroom : n + 1 ≤ cap
    · have hfit : n * i.size + news.length ≤ cur.size := by rw [hcs]; have := Nat.mul_le_mul_right i.size hroom; rw [Nat.add_mul] at this; omega
      have hq := run_append_room (P := P) w t ty e i ht hi g n cap cur hg ad 1 c news (by omega) hnews h1 hroom hfit
      rw [hq] at hr
      cases hr
      exact .inl rfl
    · have holds : ∀ j u, xs[j]? = some u → w.cell? ((⟨g, 0, none⟩ : Addr).add j) = some u := hown.cells (g := g) rfl
      have hq := run_append_grow (P := P) w t ty e i z ht hi hz ⟨g, 0, none⟩ n cap xs hown.1 holds ad 1 c news (by omega) hnews (by omega) (by omega) (growslice_fits (by omega) hbytes)
      rw [hq] at hr
      cases hr
      exact .inr rfl
theorem wp_app {P : Program} {o : Oper} {a : Act} {w w' : World} {K : Act → World → Prop} {Q : Exit → Act → World → Prop} {v x v' : Value} {t : TypeId} (hr : (Builtin.append_ #[t, t] o.type #[v, x]).run P w = .ok v' w') (so xo : Operand) (ho : o.op = .call { callee := .builtin .append, args := #[so, xo], argTypes := #[t, t] }) (hs : a.eval so = v) (hx : a.eval xo = x) (h : K (a.put o.dst v') w') : Oper.wp P o a w K Q := by
  unfold Oper.wp execOp
  simp only [ho, resolve, invoke, builtin, Sem.run_bind, Sem.run_pure, Result.andThen_ok, List.map_toArray, List.map_cons, List.map_nil, hs, hx, hr]
  exact h
theorem un_must3 {α β : Type} (ts : List Tok) (s s2 : List UInt8) (r : Res α) (g : α → β) : (r.bind fun x k => (wantP ts s k).bind fun _ k2 => (wantP ts s2 k2).bind fun _ k3 => .ok (g x) k3).un = mustR ts s2 (mustR ts s r.un) := by
  cases r with
  | out => rfl
  | bad => rfl
  | ok x k =>
    show ((wantP ts s k).bind fun _ k2 => (wantP ts s2 k2).bind fun _ k3 => Res.ok (g x) k3).un = mustR ts s2 (wantP ts s k)
    unfold mustR
    cases wantP ts s k with
    | out => rfl
    | bad => rfl
    | ok u k2 =>
      show ((wantP ts s2 k2).bind fun _ k3 => Res.ok (g x) k3).un = wantP ts s2 k2
      unfold wantP
      split <;> rfl
theorem must3_inv {α β : Type} {ts : List Tok} {s s2 : List UInt8} {r : Res α} {g : α → β} {b : β} {k : Nat} (h : (r.bind fun x k => (wantP ts s k).bind fun _ k2 => (wantP ts s2 k2).bind fun _ k3 => .ok (g x) k3) = .ok b k) : ∃ x k1, r = .ok x k1 ∧ b = g x := by
  cases r with
  | out => cases h
  | bad => cases h
  | ok x k' =>
    have h : ((wantP ts s k').bind fun _ k2 => (wantP ts s2 k2).bind fun _ k3 => Res.ok (g x) k3) = .ok b k := h
    cases h1 : wantP ts s k' with
    | out => rw [h1] at h; cases h
    | bad => rw [h1] at h; cases h
    | ok u k2 =>
      rw [h1] at h
      have h : ((wantP ts s2 k2).bind fun _ k3 => Res.ok (g x) k3) = .ok b k := h
      unfold wantP at h
      split at h
      · injection h with h2 h3
        exact ⟨x, k', rfl, h2.symm⟩
      · cases h

abbrev isL (v : Value) : Prop := ∃ (a : Option Addr) (n c : Nat), v = .slice a n c
/-- what the loop over what a block is called with holds to -/
structure RAr (w : World) (R T : Nat) (ts : List Tok) (f k B pos : Nat) (name : ByteArray) (more : Bool) (wr : World) : Prop where
  kept : Kept R w wr
  zero : wr.heap[w.heap.size]? = some (stZero 0)
  st : ∃ (av : Value) (n : Int), isL av ∧ wr.heap[B]? = some (stObj 3 pos name (.pointer none) av n (.slice none 0 0) (.slice none 0 0)) ∧
    ((more = true ∧ n = 0 ∧ ∃ (g : Nat) (acc : List Ex) (k2 : Nat), g ≤ f ∧ acc.length ≤ k2 ∧ Rr wr R T ts k2 0 (-1) ∧ IsExs (From (B + 1)) wr acc av ∧ headP ts f k = ((argsP ts g k2 acc).bind fun l k3 => .ok (name, l) k3) ∧ argsP ts g k2 acc ≠ .out) ∨
     (more = false ∧ Rst wr R T ts (headP ts f k).un ∧ ∀ q k3, headP ts f k = .ok q k3 → q.1 = name ∧ n = q.2.2 ∧ IsExs (From (B + 1)) wr q.2.1 av))

set_option maxRecDepth 100000 in
set_option maxHeartbeats 3200000 in
theorem rstmt_call (f : Nat) {w : World} {R T : Nat} {ts : List Tok} {deep k : Nat} (h : Rr w R T ts k 0 (-1)) (hif : (tx ts k == [105, 102]) = false) (hq : seeB ts [58, 61] (nameP ts k).un = false) (hout : headP ts f k ≠ .out) :
    Calls Tryz.prog 44 #[.pointer (some ⟨R, 0, none⟩), .int .i64 deep] w (Rfs w R T ts (RStRep w) isS (actP ts f k)) := by
  have HW := hide (act_head ts f k hq)
  have HO := hide hout
  have HR := hide h
  have HI := hide hif
  have HQ := hide hq
  have hlt := h.Rlt
  have htl := h.Tlt
  have hbig := h.big
  have HFIT := hide h.fit
  obtain ⟨i0, hi, hz0, hz1, hz2⟩ := info_ptr
  generalize actP ts f k = whole at *
  obtain ⟨n, c, h0, _, _, r0, c0, c1, c2, _, _⟩ := h.cells
  obtain ⟨w1, HW1, HA, HZ, HT⟩ := st_start w (tk ts k).pos
  clear h hif hq hout
  go_enter Tryz.func44, Tryz.ntmps44
  go_wp2_with fail
  rw [← HW1.out]
  clear HW1
  generalize (tk ts k).pos = pos at *
  generalize hBB : w.heap.size + 1 = B at *
  refine (rno_at (r := .ok () k) [105, 102] (by decide) (HR.out.below HA.out) HI.out).mono ?_
  rintro e w2 ⟨rfl, hd2, hk2⟩
  have HD2 := hide hd2.good
  have HK2 := hide (Kept.trans (Kept.of HA.out) hk2)
  have HT2 := hide (hk2.blk HT.out (show B ≠ R by omega))
  have HZ2 := hide (hk2.blk HZ.out (show w.heap.size ≠ R by omega))
  clear hd2 hk2
  go_wp2_with fail
  refine (rname_at HD2.out).mono ?_
  rintro e w3 ⟨hk3, hs3, v3, rfl, hv3, hp3⟩
  have hv3 : v3 = .string (tk ts k).text := hv3
  subst hv3
  generalize hnm : (tk ts k).text = name at *
  have HP3 : Hid (∀ s k1, nameP ts k = .ok s k1 → s = name) := hide fun s k1 e => by have := hp3 s k1 e; injection this with this; exact this.symm
  have HD3 := hide hs3
  have HK3 := hide (HK2.out.trans hk3)
  have ht3 := hk3.blk HT2.out (show B ≠ R by omega)
  have HT3 := hide ht3
  have HZ3 := hide (hk3.blk HZ2.out (show w.heap.size ≠ R by omega))
  have x2 : w3.cell? ⟨B, 2, none⟩ = some (.string ⟨#[]⟩) := by rw [blk_cell ht3]; rfl
  have xf2 : w3.frozen? ⟨B, 2, none⟩ = false := blk_frozen ht3 2
  clear hk3 hs3 ht3 hp3
  go_wp2_with fail
  have HT4 : Hid ((w3.setCell ⟨B, 2, none⟩ (.string name)).heap[B]? = some (stObj 0 pos name (.pointer none) (.slice none 0 0) 0 (.slice none 0 0) (.slice none 0 0))) := hide (by rw [blk_set HT3.out 2 (.string name)]; rfl)
  have HZ4 := hide ((set_other w3 2 (.string name) (show w.heap.size ≠ B by omega)).trans HZ3.out)
  have HD4 := hide (HD3.out.set (S := B) 2 (.string name) (by omega) (by omega) (by omega))
  have HK4 := hide (HK3.out.new (S := B) 2 (.string name) (by omega))
  generalize w3.setCell ⟨B, 2, none⟩ (.string name) = w4 at *
  refine (rno_at [58, 61] (by decide) HD4.out HQ.out).mono ?_
  rintro e w5 ⟨rfl, hd5, hk5⟩
  have HD5 := hide hd5
  have HK5 := hide (HK4.out.trans hk5)
  have ht5 := hk5.blk HT4.out (show B ≠ R by omega)
  have HT5 := hide ht5
  have HZ5 := hide (hk5.blk HZ4.out (show w.heap.size ≠ R by omega))
  have x0 : w5.cell? ⟨B, 0, none⟩ = some (.int .i64 0) := by rw [blk_cell ht5]; rfl
  have xf0 : w5.frozen? ⟨B, 0, none⟩ = false := blk_frozen ht5 0
  clear hd5 hk5 ht5
  go_wp2_with fail
  have HT6 : Hid ((w5.setCell ⟨B, 0, none⟩ (.int .i64 3)).heap[B]? = some (stObj 3 pos name (.pointer none) (.slice none 0 0) 0 (.slice none 0 0) (.slice none 0 0))) := hide (by rw [blk_set HT5.out 0 _]; rfl)
  have HZ6 := hide ((set_other w5 0 (.int .i64 3) (show w.heap.size ≠ B by omega)).trans HZ5.out)
  have HD6 := hide (HD5.out.set (S := B) 0 (.int .i64 3) (by omega) (by omega) (by omega))
  have HK6 := hide (HK5.out.new (S := B) 0 (.int .i64 3) (by omega))
  generalize w5.setCell ⟨B, 0, none⟩ (.int .i64 3) = w6 at *
  refine (rneed_at [40] (by decide) HD6.out).mono ?_
  rintro e w7 ⟨rfl, hs7, hk7⟩
  have HS7 := hide hs7
  have HK7 := hide (HK6.out.trans hk7)
  have HT7 := hide (hk7.blk HT6.out (show B ≠ R by omega))
  have HZ7 := hide (hk7.blk HZ6.out (show w.heap.size ≠ R by omega))
  clear hs7 hk7
  go_wp2_with fail
  refine (rok_at HS7.out).mono ?_
  rintro e w8 ⟨rfl, hb8⟩
  have HL8 : Hid (RAr w R T ts f k B pos name (okB (mustR ts [40] (nameP ts k).un)) w8) := hide (by
    refine ⟨HK7.out.below hb8, Below.blk hb8 HZ7.out, .slice none 0 0, 0, ⟨_, _, _, rfl⟩, Below.blk hb8 HT7.out, ?_⟩
    have hs8 := Rst.below hb8 HS7.out
    cases hr : nameP ts k with
    | out => exact absurd (show headP ts f k = .out by simp only [headP, hr, Res.bind]) HO.out
    | bad er p =>
      have e : headP ts f k = .bad er p := by simp only [headP, hr, Res.bind]
      rw [hr] at hs8
      exact .inr ⟨rfl, by rw [e]; exact hs8, fun q k3 e2 => by rw [e] at e2; cases e2⟩
    | ok s k1 =>
      have es := HP3.out s k1 hr
      subst es
      rw [hr] at hs8
      cases hw : wantP ts [40] k1 with
      | out => exact absurd (show headP ts f k = .out by simp only [headP, hr, hw, Res.bind]) HO.out
      | bad er p =>
        have e : headP ts f k = .bad er p := by simp only [headP, hr, hw, Res.bind]
        have e2 : mustR ts [40] (Res.ok s k1).un = .bad er p := hw
        rw [e2] at hs8 ⊢
        exact .inr ⟨rfl, by rw [e]; exact hs8, fun q k3 e2 => by rw [e] at e2; cases e2⟩
      | ok u k2 =>
        have e : headP ts f k = (argsP ts f k2 []).bind fun l k3 => .ok (s, l) k3 := by simp only [headP, hr, hw, Res.bind_ok]
        have e2 : mustR ts [40] (Res.ok s k1).un = .ok u k2 := hw
        rw [e2] at hs8 ⊢
        exact .inl ⟨rfl, rfl, f, [], k2, Nat.le_refl _, Nat.zero_le _, hs8, IsExs.nil .., e, fun e3 => HO.out (by rw [e, e3]; rfl)⟩)
  clear hb8 HS7 HK7 HT7 HZ7 HD2 HK2 HT2 HZ2 HD3 HK3 HT3 HZ3 HT4 HZ4 HD4 HK4 HD5 HK5 HT5 HZ5 HT6 HZ6 HD6 HK6 HA HZ HT x0 x2 xf0 xf2 r0 c0 c1 c2
  generalize okB (mustR ts [40] (nameP ts k).un) = more at *
  go_wp2_with fail
  go_loopw [6] (fun m wr => ∃ mo : Bool, m = .bool mo ∧ Hid (RAr w R T ts f k B pos name mo wr)) (fun _ wr => msr R wr)
  case atStart => exact ⟨more, rfl, HL8⟩
  case round =>
    obtain ⟨mo, rfl, hlr⟩ := hrel
    clear HL8
    cases mo with
    | false => -- END
      obtain ⟨hkr, hzr, av, n9, ⟨aa, an, ac, rfl⟩, hbr, ⟨hf, _⟩ | ⟨_, hst, hrep⟩⟩ := hlr.out
      · cases hf
      · have HKR := hide hkr
        have HZR := hide hzr
        have HBR := hide hbr
        have HST := hide hst
        have HREP := hide hrep
        clear hlr hkr hzr hbr hst hrep
        go_wp2_with fail
        refine (rneed_at [41] (by decide) HST.out).mono ?_
        rintro e x1 ⟨rfl, hs1, hk1⟩
        have GS1 := hide hs1
        have GK1 := hide hk1
        clear hs1 hk1
        go_wp2_with fail
        refine (rneed_at [59] (by decide) GS1.out).mono ?_
        rintro e x2 ⟨rfl, hs2, hk2⟩
        have GS2 := hide hs2
        have GK2 := hide (GK1.out.trans hk2)
        clear hs2 hk2
        have gz2 := GK2.out.blk HZR.out (show w.heap.size ≠ R by omega)
        obtain ⟨b0, b1, b2, b3, b4, b5, b6, b7⟩ := st_cells (GK2.out.blk HBR.out (show B ≠ R by omega))
        obtain ⟨z0, z1, z2, z3, z4, z5, z6, z7⟩ := st_cells gz2
        have zf := blk_frozen gz2
        clear gz2
        have GB := hide (blk_lt HBR.out)
        have GW := hide HKR.out
        generalize hQQ : w.heap.size = Q at *
        go_wp2_with fail
        refine bodyPost_ret (v := .agg #[.int .i64 3, .int .i64 pos, .string name, .pointer none, .slice aa an ac, .int .i64 n9, .slice none 0 0, .slice none 0 0]) (by simp [results, Tryz.results44, go_sem, z0, z1, z2, z3, z4, z5, z6, z7]) rfl ?_
        refine st_ret (GW.out.trans GK2.out) ?_ (by omega) (by omega) (by omega) (by omega) (by simp [Value.oneCell']) fun a k' e => ?_
        · rw [HW.out, un_must3]
          exact GS2.out
        · obtain ⟨q, k3, hq, rfl⟩ := must3_inv (HW.out.symm.trans e)
          obtain ⟨e1, e2, e3⟩ := HREP.out q k3 hq
          simp only [IsSt]
          refine ⟨.slice aa an ac, by rw [e1, e2], ?_⟩
          refine IsExs.imp (IsExs.same e3 fun b h1 h2 => GK2.out.block b h2 ?_) (fun b _ h => ?_)
          · have h1 : B + 1 ≤ b := h1
            omega
          · have h : B + 1 ≤ b := h
            exact ⟨by omega, by omega⟩
    | true =>
      obtain ⟨hkr, hzr, av, n9, ⟨aa, an, ac, rfl⟩, hbr, ⟨_, rfl, g, acc, k2, hg, hac, hd, hx, he, ho⟩ | ⟨hf, _⟩⟩ := hlr.out
      · have HD := hide hd
        have HKR := hide hkr
        have HZR := hide hzr
        have HBR := hide hbr
        have HX := hide hx
        have HE := hide he
        have HOA := hide ho
        have HG := hide hg
        have HMS := hide (msr_good hd)
        have HAC : Hid (acc.length ≤ 801) := hide (by have := hd.fit.fit.len; have := hd.lt; omega)
        have HAC2 := hide hac
        obtain ⟨n, c, h0, hnc, hnk, r0, c0, c1, _, _, _⟩ := hd.cells
        have hk3 := hd.lt
        have hfx := hd.fit
        have HNX : Hid ((tk ts k2).kind = 2 → k2 + 1 < ts.length) := hide fun e => hd.fit.fit.next k2 hd.lt (by omega)
        have HRW := hide hd.row
        clear hlr hd hkr hzr hbr hx he ho hg hac
        by_cases hkd : (tk ts k2).kind = 2
        · have hk1 : ((rk (tk ts k2) : Nat) : Int) = 2 := rk_yes hfx k2 2 (by decide) (by decide) hkd
          rw [hk1] at c0
          have hmore := HNX.out hkd
          have d1 : wr.cell? ⟨T, k2 * 3 + 4, none⟩ = some (.string (tk ts (k2 + 1)).text) := by
            have := (HRW.out (k2 + 1) hmore).2.1
            rw [show (k2 + 1) * 3 + 1 = k2 * 3 + 4 by omega] at this
            exact this
          have hn1 : 1 < n := by omega
          clear hk1
          cases hq : (tx ts (k2 + 1) == [41]) with
          | true =>
            have hq2 : ((tk ts (k2 + 1)).text.toList == [41]) = true := hq
            cases g with
            | zero => exact absurd (by simp only [argsP]) HOA.out
            | succ g =>
            have HH : Hid (headP ts f k = (byteP ts k2).bind fun n k' => .ok (name, (acc, n)) k') := hide (by rw [HE.out]; simp only [argsP, hkd, hq, and_self, if_true, Res.bind_assoc, Res.bind_ok])
            go_wp2_with fail
            refine (rbyte_at HD.out).mono ?_
            rintro e w6 ⟨hk6, hs6, v6, rfl, ⟨n6, rfl⟩, hp6⟩
            have HS6 := hide hs6
            have HP6 := hide hp6
            have HK6 := hide (HKR.out.trans hk6)
            have HZ6 := hide (hk6.blk HZR.out (show w.heap.size ≠ R by omega))
            have hb6 := hk6.blk HBR.out (show B ≠ R by omega)
            have HB6 := hide hb6
            have HX6 := hide (HX.out.same fun b h1 h2 => hk6.block b h2 (by have h1 : B + 1 ≤ b := h1; omega))
            have x5 : w6.cell? ⟨B, 5, none⟩ = some (.int .i64 0) := by rw [blk_cell hb6]; rfl
            have xf5 : w6.frozen? ⟨B, 5, none⟩ = false := blk_frozen hb6 5
            clear hk6 hs6 hp6 hb6 r0 c0 c1 d1
            have HB8 : Hid ((w6.setCell ⟨B, 5, none⟩ (.int .i64 n6)).heap[B]? = some (stObj 3 pos name (.pointer none) (.slice aa an ac) n6 (.slice none 0 0) (.slice none 0 0))) := hide (by rw [blk_set HB6.out 5 _]; rfl)
            have HZ8 := hide ((set_other w6 5 (.int .i64 n6) (show w.heap.size ≠ B by omega)).trans HZ6.out)
            have HS8 : Hid (Rst (w6.setCell ⟨B, 5, none⟩ (.int .i64 n6)) R T ts (headP ts f k).un) := hide (by rw [HH.out, un_ok]; exact HS6.out.set (S := B) 5 (.int .i64 n6) (by omega) (by omega) (by omega))
            have HK8 := hide (HK6.out.new (S := B) 5 (.int .i64 n6) (by omega))
            have HP8 : Hid (∀ q k3, headP ts f k = .ok q k3 → q.1 = name ∧ n6 = q.2.2 ∧ IsExs (From (B + 1)) (w6.setCell ⟨B, 5, none⟩ (.int .i64 n6)) q.2.1 (.slice aa an ac)) := hide fun q k3 e => by
              obtain ⟨x, hx, rfl⟩ := ok_inv (HH.out.symm.trans e)
              have := HP6.out x k3 hx
              injection this with _ this
              exact ⟨rfl, this, HX6.out.same fun b h1 h2 => set_other _ 5 _ (by have h1 : B + 1 ≤ b := h1; omega)⟩
            go_wp2_with fail
            generalize w6.setCell ⟨B, 5, none⟩ (.int .i64 n6) = w8 at *
            refine (rneed_at [41] (by decide) HS8.out).mono ?_
            rintro e x1 ⟨rfl, hs1, hk1⟩
            have GS1 := hide hs1
            have GK1 := hide hk1
            clear hs1 hk1
            go_wp2_with fail
            refine (rneed_at [59] (by decide) GS1.out).mono ?_
            rintro e x2 ⟨rfl, hs2, hk2⟩
            have GS2 := hide hs2
            have GK2 := hide (GK1.out.trans hk2)
            clear hs2 hk2
            have gz2 := GK2.out.blk HZ8.out (show w.heap.size ≠ R by omega)
            obtain ⟨b0, b1, b2, b3, b4, b5, b6, b7⟩ := st_cells (GK2.out.blk HB8.out (show B ≠ R by omega))
            obtain ⟨z0, z1, z2, z3, z4, z5, z6, z7⟩ := st_cells gz2
            have zf := blk_frozen gz2
            clear gz2
            have GB := hide (blk_lt HB8.out)
            have GW := hide HK8.out
            generalize hQQ : w.heap.size = Q at *
            go_wp2_with fail
            refine bodyPost_ret (v := .agg #[.int .i64 3, .int .i64 pos, .string name, .pointer none, .slice aa an ac, .int .i64 n6, .slice none 0 0, .slice none 0 0]) (by simp [results, Tryz.results44, go_sem, z0, z1, z2, z3, z4, z5, z6, z7]) rfl ?_
            refine st_ret (GW.out.trans GK2.out) ?_ (by omega) (by omega) (by omega) (by omega) (by simp [Value.oneCell']) fun a k' e => ?_
            · rw [HW.out, un_must3]
              exact GS2.out
            · obtain ⟨q, k3, hq, rfl⟩ := must3_inv (HW.out.symm.trans e)
              obtain ⟨e1, e2, e3⟩ := HP8.out q k3 hq
              simp only [IsSt]
              refine ⟨.slice aa an ac, by rw [e1, e2], ?_⟩
              refine IsExs.imp (IsExs.same e3 fun b h1 h2 => GK2.out.block b h2 ?_) (fun b _ h => ?_)
              · have h1 : B + 1 ≤ b := h1
                omega
              · have h : B + 1 ≤ b := h
                exact ⟨by omega, by omega⟩
          | false =>
            have hq2 : ((tk ts (k2 + 1)).text.toList == [41]) = false := hq
            have hq3 : ¬ ((tk ts k2).kind = 2 ∧ (tx ts (k2 + 1) == [41]) = true) := fun e => by rw [hq] at e; cases e.2
            cases g with
            | zero => exact absurd (by simp only [argsP]) HOA.out
            | succ g =>
            have HOE : Hid (twoP ts g 1 0 k2 ≠ .out) := hide fun e => HOA.out (by simp only [argsP, if_neg hq3, Bool.false_eq_true, if_false, e, Res.bind])
            obtain ⟨vs, hrow, hall⟩ := HX.out
            have HROW := hide hrow
            have HALL := hide hall
            have y4 : wr.drew.cell? ⟨B, 4, none⟩ = some (.slice aa an ac) := by
              have : wr.cell? ⟨B, 4, none⟩ = some (.slice aa an ac) := by rw [blk_cell HBR.out]; rfl
              exact this
            clear hrow hall
            go_wp2_with fail
            refine wp_region_held_drew (S := fun _ => True) (by kernel_rfl) trivial (fun _ => ?_)
            refine wpAnyH_take (i := 0) (oi := ⟨some 66, _, _, _, _, _⟩) (v := .pointer (some ⟨B, 4, none⟩)) rfl (by kernel_rfl) (by kernel_rfl) (by kernel_rfl) (fun _ _ _ h => h) (Or.inl ⟨by rfl, fun W hS => by go_simp⟩) trivial ?_
            simp only [Act.put, List.setIfInBounds_toArray, List.set_cons_zero, List.set_cons_succ]
            refine wpAnyH_take (i := 2) (oi := ⟨some 68, _, _, _, _, _⟩) (v := .pointer (some ⟨R, 0, none⟩)) rfl (by kernel_rfl) (by kernel_rfl) (by kernel_rfl) (fun _ _ _ h => h) (Or.inl ⟨by rfl, fun W hS => by go_simp⟩) trivial ?_
            simp only [Act.put, List.setIfInBounds_toArray, List.set_cons_zero, List.set_cons_succ]
            refine wpAnyH_ready (rs := [1, 3]) (by kernel_rfl) (by simp) ?_
            refine AllReadyH.cons rfl (fun K hK => ?_) (AllReadyH.cons rfl (fun K hK => ?_) AllReadyH.nil)
            · go_simp
              refine hK.out _ _ trivial (fun _ => ?_)
              clear hK K
              refine wpAnyH_ready (rs := [3]) (by kernel_rfl) (by simp) ?_
              refine AllReadyH.cons rfl (fun K hK => ?_) AllReadyH.nil
              go_simp
              refine (rexpr_at g (HD.out.below (below_drew wr)) HOE.out).mono ?_
              rintro e w6 ⟨hk6, hs6, v6, rfl, ⟨o6, rfl⟩, hp6⟩
              have HS6 := hide hs6
              have HP6 := hide hp6
              have HKD := hide (Kept.trans (Kept.of (R := R) (below_drew wr)) hk6)
              have HK6 := hide (HKR.out.trans HKD.out)
              have HZ6 := hide (HKD.out.blk HZR.out (show w.heap.size ≠ R by omega))
              have HBW6 := hide (HKD.out.blk HBR.out (show B ≠ R by omega))
              have HBR6 : Hid (B + 1 ≤ wr.drew.heap.size) := hide (blk_lt HBR.out)
              have HBS6 : Hid (B + 1 ≤ w6.heap.size) := hide (Nat.le_trans (blk_lt HBR.out) HKD.out.size)
              have HROW := hide (HROW.out.same fun b h1 h2 => HKD.out.block b h2 (by have h1 : B + 1 ≤ b := h1; omega))
              have HALL := hide (HALL.out.imp fun _ _ h => IsEx.same (fun b h1 h2 => HKD.out.block b h2 (by have h1 : B + 1 ≤ b := h1; omega)) h)
              have HOWN6 := hide (HROW.out.1.alloc (.cells #[.pointer o6] 65))
              have HOW0 : Hid (∀ b, (Value.slice aa an ac).ownBlock = some b → B + 1 ≤ b) := hide HROW.out.2
              have y6 : w6.cell? ⟨B, 4, none⟩ = some (.slice aa an ac) := by rw [blk_cell HBW6.out]; rfl
              clear hk6 hs6 hp6
              refine hK.out _ _ trivial (fun _ => ?_)
              clear hK K
              refine wpAnyH_ready (rs := [4]) (by kernel_rfl) (by simp) ?_
              refine AllReadyH.cons rfl (fun K hK => ?_) AllReadyH.nil
              go_simp
              refine hK.out _ _ trivial (fun _ => ?_)
              clear hK K
              obtain ⟨v7, w7, happ, hown7, hg7, hb7⟩ := app_one (P := Tryz.prog) (w := w6.alloc (.cells #[.pointer o6] 65)) 66 66 65 i0 (.pointer none) 1 8 Tryz.underlying66 hi hz0 hz1 hz2 rfl (by decide) (.slice aa an ac) acc.length vs (HOWN6.out) ⟨w6.heap.size, 0, none⟩ 1 [.pointer o6] rfl (one_new _ _ _) (by intro u hu; simp at hu; subst hu; rfl) (by have := HAC.out; omega) (by decide)
              obtain ⟨va7, vc7, hv7⟩ : ∃ (a : Option Addr) (c : Nat), v7 = .slice a (acc.length + 1) c := (IsRow.val (S := fun _ => True) ⟨hown7, fun _ _ => trivial⟩)
              subst hv7
              have HLOW : Hid (∀ b, b < B + 1 → b < w6.heap.size → w7.heap[b]? = w6.heap[b]?) := hide fun b h1 h2 => (hg7.block b (Nat.lt_of_lt_of_le h2 (by simp)) (fun e => by have := HOW0.out b e.symm; omega)).trans (Below.heap_alloc w6 _ b h2)
              have HSZ7 : Hid (w6.heap.size ≤ w7.heap.size) := hide (Nat.le_trans (by simp) hg7.size)
              have HOWN7 := hide hown7
              have HG7 := hide hg7
              have HB7 := hide hb7
              clear hown7 hg7 hb7
              refine wpAnyH_ready (rs := [5]) (by kernel_rfl) (by simp) ?_
              refine AllReadyH.cons rfl (fun K hK => ?_) AllReadyH.nil
              refine (if_pos (by kernel_rfl)).mpr ?_
              refine wp_app happ _ _ rfl rfl rfl ?_
              simp only [Act.put, List.setIfInBounds_toArray, List.set_cons_zero, List.set_cons_succ]
              refine hK.out _ _ trivial (fun _ => ?_)
              clear hK K happ
              refine wpAnyH_take (i := 6) (oi := ⟨some 72, _, _, _, _, _⟩) (v := .pointer (some ⟨B, 4, none⟩)) rfl (by kernel_rfl) (by kernel_rfl) (by kernel_rfl) (fun _ _ _ h => h) (Or.inl ⟨by rfl, fun W hS => by go_simp⟩) trivial ?_
              simp only [Act.put, List.setIfInBounds_toArray, List.set_cons_zero, List.set_cons_succ]
              have HBW7 := hide ((HLOW.out B (by omega) (blk_lt HBW6.out)).trans HBW6.out)
              have x4 : w7.cell? ⟨B, 4, none⟩ = some (.slice aa an ac) := by rw [blk_cell HBW7.out]; rfl
              have xf4 : w7.frozen? ⟨B, 4, none⟩ = false := blk_frozen HBW7.out 4
              refine wpAnyH_ready (rs := [7]) (by kernel_rfl) (by simp) ?_
              refine AllReadyH.cons rfl (fun K hK => ?_) AllReadyH.nil
              go_simp
              refine hK.out _ _ trivial (fun _ => ?_)
              clear hK K
              refine wpAnyH_done (by kernel_rfl) ?_ _
              clear x4 xf4
              have HZ7 := hide ((HLOW.out w.heap.size (by omega) (blk_lt HZ6.out)).trans HZ6.out)
              have HS7 := hide (HS6.out.low HLOW.out (by omega) (by omega) (by omega))
              have HK7 : Hid (Kept R w w7) := hide ⟨HG7.out.os.trans HK6.out.os, HG7.out.tape.trans HK6.out.tape, HG7.out.output.trans HK6.out.output, Nat.le_trans HK6.out.size HSZ7.out, fun b h1 h2 => (HLOW.out b (by omega) (Nat.lt_of_lt_of_le h1 HK6.out.size)).trans (HK6.out.block b h1 h2)⟩
              have HB8 : Hid ((w7.setCell ⟨B, 4, none⟩ (.slice va7 (acc.length + 1) vc7)).heap[B]? = some (stObj 3 pos name (.pointer none) (.slice va7 (acc.length + 1) vc7) 0 (.slice none 0 0) (.slice none 0 0))) := hide (by rw [blk_set HBW7.out 4 _]; rfl)
              have HZ8 := hide ((set_other w7 4 (.slice va7 (acc.length + 1) vc7) (show w.heap.size ≠ B by omega)).trans HZ7.out)
              have HS8 := hide (HS7.out.set (S := B) 4 (.slice va7 (acc.length + 1) vc7) (by omega) (by omega) (by omega))
              have HK8 := hide (HK7.out.new (S := B) 4 (.slice va7 (acc.length + 1) vc7) (by omega))
              have HX8 : Hid (∀ x k6, twoP ts g 1 0 k2 = .ok x k6 → IsExs (From (B + 1)) (w7.setCell ⟨B, 4, none⟩ (.slice va7 (acc.length + 1) vc7)) (acc ++ [x]) (.slice va7 (acc.length + 1) vc7)) := hide fun x k6 e => by
                have hx := HP6.out x k6 e
                obtain ⟨Q6, hQ6⟩ := hx.ptr
                rw [hQ6] at hx
                have e6 : o6 = some ⟨Q6, 0, none⟩ := by injection hQ6
                subst e6
                have := exs_snoc2 (N := B + 1) (.cells #[.pointer (some ⟨Q6, 0, none⟩)] 65) HBS6.out HROW.out HALL.out (hx.low HBR6.out) HOWN7.out HG7.out (by simpa using HB7.out)
                refine this.same fun b h1 h2 => set_other _ 4 _ ?_
                have h1 : B + 1 ≤ b := h1
                omega
              clear HS7 HK7 HZ7 HBW7 HLOW HOWN7 HG7 HB7 HSZ7 HOWN6 HOW0 HS6 HP6 HK6 HZ6 HBW6 HBS6 HBR6 HROW HALL
              generalize w7.setCell ⟨B, 4, none⟩ (.slice va7 (acc.length + 1) vc7) = w8 at *
              go_wp2_with fail
              cases hr : twoP ts g 1 0 k2 with
              | out => exact absurd hr HOE.out
              | bad er q =>
                rw [hr] at HS8
                have HH : Hid (headP ts f k = .bad er q) := hide (by rw [HE.out]; simp only [argsP, if_neg hq3, Bool.false_eq_true, if_false, hr, Res.bind])
                refine (rno_at (r := .bad er q) [44] (by decide) HS8.out rfl).mono ?_
                rintro e w9 ⟨rfl, hd9, hk9⟩
                have HD9 := hide hd9
                have HK9 := hide (HK8.out.trans hk9)
                have HB9 := hide (hk9.blk HB8.out (show B ≠ R by omega))
                have HZ9 := hide (hk9.blk HZ8.out (show w.heap.size ≠ R by omega))
                clear hd9 hk9
                go_wp2_with fail
                refine ⟨⟨false, rfl, ⟨HK9.out, HZ9.out, _, 0, ⟨_, _, _, rfl⟩, HB9.out, .inr ⟨rfl, by rw [HH.out]; exact HD9.out, fun q k3 e => by rw [HH.out] at e; cases e⟩⟩⟩, ?_⟩
                rw [msr_bad HD9.out, HMS.out]
                omega
              | ok x k6 =>
                rw [hr] at HS8
                have HXX := hide (HX8.out x k6 hr)
                have HLT6 := hide (two_lt hr)
                cases hcm : (tx ts k6 == [44]) with
                | true =>
                  have HH : Hid (headP ts f k = (argsP ts g (k6 + 1) (acc ++ [x])).bind fun l k3 => .ok (name, l) k3) := hide (by rw [HE.out]; simp only [argsP, if_neg hq3, Bool.false_eq_true, if_false, hr, Res.bind_ok, hcm, if_true])
                  have HH2 : Hid (argsP ts g (k6 + 1) (acc ++ [x]) ≠ .out) := hide fun e => HOA.out (by simp only [argsP, if_neg hq3, Bool.false_eq_true, if_false, hr, Res.bind_ok, hcm, if_true, e])
                  refine (ryes_at [44] (by decide) HS8.out.good hcm).mono ?_
                  rintro e w9 ⟨rfl, hd9, hk9⟩
                  have HD9 := hide hd9
                  have HK9 := hide (HK8.out.trans hk9)
                  have HB9 := hide (hk9.blk HB8.out (show B ≠ R by omega))
                  have HZ9 := hide (hk9.blk HZ8.out (show w.heap.size ≠ R by omega))
                  have HX9 := hide (HXX.out.same fun b h1 h2 => hk9.block b h2 (by have h1 : B + 1 ≤ b := h1; omega))
                  clear hd9 hk9 hcm hr
                  go_wp2_with fail
                  refine ⟨⟨true, rfl, ⟨HK9.out, HZ9.out, _, 0, ⟨_, _, _, rfl⟩, HB9.out, .inl ⟨rfl, rfl, g, acc ++ [x], k6 + 1, by have := HG.out; omega, by have := HAC2.out; have := HLT6.out; simp; omega, HD9.out, HX9.out, HH.out, HH2.out⟩⟩⟩, ?_⟩
                  rw [msr_good HD9.out, HMS.out]
                  have := HLT6.out
                  have := HD9.out.lt
                  omega
                | false =>
                  have HH : Hid (headP ts f k = .ok (name, (acc ++ [x], 0)) k6) := hide (by rw [HE.out]; simp only [argsP, if_neg hq3, Bool.false_eq_true, if_false, hr, Res.bind_ok, hcm])
                  refine (rno_at (r := .ok () k6) [44] (by decide) HS8.out hcm).mono ?_
                  rintro e w9 ⟨rfl, hd9, hk9⟩
                  have HD9 := hide hd9.good
                  have HK9 := hide (HK8.out.trans hk9)
                  have HB9 := hide (hk9.blk HB8.out (show B ≠ R by omega))
                  have HZ9 := hide (hk9.blk HZ8.out (show w.heap.size ≠ R by omega))
                  have HX9 := hide (HXX.out.same fun b h1 h2 => hk9.block b h2 (by have h1 : B + 1 ≤ b := h1; omega))
                  clear hd9 hk9 hcm hr
                  go_wp2_with fail
                  refine ⟨⟨false, rfl, ⟨HK9.out, HZ9.out, _, 0, ⟨_, _, _, rfl⟩, HB9.out, .inr ⟨rfl, by rw [HH.out]; exact HD9.out, fun q k3 e => by rw [HH.out] at e; cases e; exact ⟨rfl, rfl, HX9.out⟩⟩⟩⟩, ?_⟩
                  rw [msr_good HD9.out, HMS.out]
                  have := HLT6.out
                  have := HD9.out.lt
                  omega
            · go_simp
              refine (rexpr_at g (HD.out.below (below_drew wr)) HOE.out).mono ?_
              rintro e w6 ⟨hk6, hs6, v6, rfl, ⟨o6, rfl⟩, hp6⟩
              have HS6 := hide hs6
              have HP6 := hide hp6
              have HKD := hide (Kept.trans (Kept.of (R := R) (below_drew wr)) hk6)
              have HK6 := hide (HKR.out.trans HKD.out)
              have HZ6 := hide (HKD.out.blk HZR.out (show w.heap.size ≠ R by omega))
              have HBW6 := hide (HKD.out.blk HBR.out (show B ≠ R by omega))
              have HBR6 : Hid (B + 1 ≤ wr.drew.heap.size) := hide (blk_lt HBR.out)
              have HBS6 : Hid (B + 1 ≤ w6.heap.size) := hide (Nat.le_trans (blk_lt HBR.out) HKD.out.size)
              have HROW := hide (HROW.out.same fun b h1 h2 => HKD.out.block b h2 (by have h1 : B + 1 ≤ b := h1; omega))
              have HALL := hide (HALL.out.imp fun _ _ h => IsEx.same (fun b h1 h2 => HKD.out.block b h2 (by have h1 : B + 1 ≤ b := h1; omega)) h)
              have HOWN6 := hide (HROW.out.1.alloc (.cells #[.pointer o6] 65))
              have HOW0 : Hid (∀ b, (Value.slice aa an ac).ownBlock = some b → B + 1 ≤ b) := hide HROW.out.2
              have y6 : w6.cell? ⟨B, 4, none⟩ = some (.slice aa an ac) := by rw [blk_cell HBW6.out]; rfl
              clear hk6 hs6 hp6
              refine hK.out _ _ trivial (fun _ => ?_)
              clear hK K
              refine wpAnyH_ready (rs := [1, 4]) (by kernel_rfl) (by simp) ?_
              refine AllReadyH.cons rfl (fun K hK => ?_) (AllReadyH.cons rfl (fun K hK => ?_) AllReadyH.nil)
              · go_simp
                refine hK.out _ _ trivial (fun _ => ?_)
                clear hK K
                refine wpAnyH_ready (rs := [4]) (by kernel_rfl) (by simp) ?_
                refine AllReadyH.cons rfl (fun K hK => ?_) AllReadyH.nil
                go_simp
                refine hK.out _ _ trivial (fun _ => ?_)
                clear hK K
                obtain ⟨v7, w7, happ, hown7, hg7, hb7⟩ := app_one (P := Tryz.prog) (w := w6.alloc (.cells #[.pointer o6] 65)) 66 66 65 i0 (.pointer none) 1 8 Tryz.underlying66 hi hz0 hz1 hz2 rfl (by decide) (.slice aa an ac) acc.length vs (HOWN6.out) ⟨w6.heap.size, 0, none⟩ 1 [.pointer o6] rfl (one_new _ _ _) (by intro u hu; simp at hu; subst hu; rfl) (by have := HAC.out; omega) (by decide)
                obtain ⟨va7, vc7, hv7⟩ : ∃ (a : Option Addr) (c : Nat), v7 = .slice a (acc.length + 1) c := (IsRow.val (S := fun _ => True) ⟨hown7, fun _ _ => trivial⟩)
                subst hv7
                have HLOW : Hid (∀ b, b < B + 1 → b < w6.heap.size → w7.heap[b]? = w6.heap[b]?) := hide fun b h1 h2 => (hg7.block b (Nat.lt_of_lt_of_le h2 (by simp)) (fun e => by have := HOW0.out b e.symm; omega)).trans (Below.heap_alloc w6 _ b h2)
                have HSZ7 : Hid (w6.heap.size ≤ w7.heap.size) := hide (Nat.le_trans (by simp) hg7.size)
                have HOWN7 := hide hown7
                have HG7 := hide hg7
                have HB7 := hide hb7
                clear hown7 hg7 hb7
                refine wpAnyH_ready (rs := [5]) (by kernel_rfl) (by simp) ?_
                refine AllReadyH.cons rfl (fun K hK => ?_) AllReadyH.nil
                refine (if_pos (by kernel_rfl)).mpr ?_
                refine wp_app happ _ _ rfl rfl rfl ?_
                simp only [Act.put, List.setIfInBounds_toArray, List.set_cons_zero, List.set_cons_succ]
                refine hK.out _ _ trivial (fun _ => ?_)
                clear hK K happ
                refine wpAnyH_take (i := 6) (oi := ⟨some 72, _, _, _, _, _⟩) (v := .pointer (some ⟨B, 4, none⟩)) rfl (by kernel_rfl) (by kernel_rfl) (by kernel_rfl) (fun _ _ _ h => h) (Or.inl ⟨by rfl, fun W hS => by go_simp⟩) trivial ?_
                simp only [Act.put, List.setIfInBounds_toArray, List.set_cons_zero, List.set_cons_succ]
                have HBW7 := hide ((HLOW.out B (by omega) (blk_lt HBW6.out)).trans HBW6.out)
                have x4 : w7.cell? ⟨B, 4, none⟩ = some (.slice aa an ac) := by rw [blk_cell HBW7.out]; rfl
                have xf4 : w7.frozen? ⟨B, 4, none⟩ = false := blk_frozen HBW7.out 4
                refine wpAnyH_ready (rs := [7]) (by kernel_rfl) (by simp) ?_
                refine AllReadyH.cons rfl (fun K hK => ?_) AllReadyH.nil
                go_simp
                refine hK.out _ _ trivial (fun _ => ?_)
                clear hK K
                refine wpAnyH_done (by kernel_rfl) ?_ _
                clear x4 xf4
                have HZ7 := hide ((HLOW.out w.heap.size (by omega) (blk_lt HZ6.out)).trans HZ6.out)
                have HS7 := hide (HS6.out.low HLOW.out (by omega) (by omega) (by omega))
                have HK7 : Hid (Kept R w w7) := hide ⟨HG7.out.os.trans HK6.out.os, HG7.out.tape.trans HK6.out.tape, HG7.out.output.trans HK6.out.output, Nat.le_trans HK6.out.size HSZ7.out, fun b h1 h2 => (HLOW.out b (by omega) (Nat.lt_of_lt_of_le h1 HK6.out.size)).trans (HK6.out.block b h1 h2)⟩
                have HB8 : Hid ((w7.setCell ⟨B, 4, none⟩ (.slice va7 (acc.length + 1) vc7)).heap[B]? = some (stObj 3 pos name (.pointer none) (.slice va7 (acc.length + 1) vc7) 0 (.slice none 0 0) (.slice none 0 0))) := hide (by rw [blk_set HBW7.out 4 _]; rfl)
                have HZ8 := hide ((set_other w7 4 (.slice va7 (acc.length + 1) vc7) (show w.heap.size ≠ B by omega)).trans HZ7.out)
                have HS8 := hide (HS7.out.set (S := B) 4 (.slice va7 (acc.length + 1) vc7) (by omega) (by omega) (by omega))
                have HK8 := hide (HK7.out.new (S := B) 4 (.slice va7 (acc.length + 1) vc7) (by omega))
                have HX8 : Hid (∀ x k6, twoP ts g 1 0 k2 = .ok x k6 → IsExs (From (B + 1)) (w7.setCell ⟨B, 4, none⟩ (.slice va7 (acc.length + 1) vc7)) (acc ++ [x]) (.slice va7 (acc.length + 1) vc7)) := hide fun x k6 e => by
                  have hx := HP6.out x k6 e
                  obtain ⟨Q6, hQ6⟩ := hx.ptr
                  rw [hQ6] at hx
                  have e6 : o6 = some ⟨Q6, 0, none⟩ := by injection hQ6
                  subst e6
                  have := exs_snoc2 (N := B + 1) (.cells #[.pointer (some ⟨Q6, 0, none⟩)] 65) HBS6.out HROW.out HALL.out (hx.low HBR6.out) HOWN7.out HG7.out (by simpa using HB7.out)
                  refine this.same fun b h1 h2 => set_other _ 4 _ ?_
                  have h1 : B + 1 ≤ b := h1
                  omega
                clear HS7 HK7 HZ7 HBW7 HLOW HOWN7 HG7 HB7 HSZ7 HOWN6 HOW0 HS6 HP6 HK6 HZ6 HBW6 HBS6 HBR6 HROW HALL
                generalize w7.setCell ⟨B, 4, none⟩ (.slice va7 (acc.length + 1) vc7) = w8 at *
                go_wp2_with fail
                cases hr : twoP ts g 1 0 k2 with
                | out => exact absurd hr HOE.out
                | bad er q =>
                  rw [hr] at HS8
                  have HH : Hid (headP ts f k = .bad er q) := hide (by rw [HE.out]; simp only [argsP, if_neg hq3, Bool.false_eq_true, if_false, hr, Res.bind])
                  refine (rno_at (r := .bad er q) [44] (by decide) HS8.out rfl).mono ?_
                  rintro e w9 ⟨rfl, hd9, hk9⟩
                  have HD9 := hide hd9
                  have HK9 := hide (HK8.out.trans hk9)
                  have HB9 := hide (hk9.blk HB8.out (show B ≠ R by omega))
                  have HZ9 := hide (hk9.blk HZ8.out (show w.heap.size ≠ R by omega))
                  clear hd9 hk9
                  go_wp2_with fail
                  refine ⟨⟨false, rfl, ⟨HK9.out, HZ9.out, _, 0, ⟨_, _, _, rfl⟩, HB9.out, .inr ⟨rfl, by rw [HH.out]; exact HD9.out, fun q k3 e => by rw [HH.out] at e; cases e⟩⟩⟩, ?_⟩
                  rw [msr_bad HD9.out, HMS.out]
                  omega
                | ok x k6 =>
                  rw [hr] at HS8
                  have HXX := hide (HX8.out x k6 hr)
                  have HLT6 := hide (two_lt hr)
                  cases hcm : (tx ts k6 == [44]) with
                  | true =>
                    have HH : Hid (headP ts f k = (argsP ts g (k6 + 1) (acc ++ [x])).bind fun l k3 => .ok (name, l) k3) := hide (by rw [HE.out]; simp only [argsP, if_neg hq3, Bool.false_eq_true, if_false, hr, Res.bind_ok, hcm, if_true])
                    have HH2 : Hid (argsP ts g (k6 + 1) (acc ++ [x]) ≠ .out) := hide fun e => HOA.out (by simp only [argsP, if_neg hq3, Bool.false_eq_true, if_false, hr, Res.bind_ok, hcm, if_true, e])
                    refine (ryes_at [44] (by decide) HS8.out.good hcm).mono ?_
                    rintro e w9 ⟨rfl, hd9, hk9⟩
                    have HD9 := hide hd9
                    have HK9 := hide (HK8.out.trans hk9)
                    have HB9 := hide (hk9.blk HB8.out (show B ≠ R by omega))
                    have HZ9 := hide (hk9.blk HZ8.out (show w.heap.size ≠ R by omega))
                    have HX9 := hide (HXX.out.same fun b h1 h2 => hk9.block b h2 (by have h1 : B + 1 ≤ b := h1; omega))
                    clear hd9 hk9 hcm hr
                    go_wp2_with fail
                    refine ⟨⟨true, rfl, ⟨HK9.out, HZ9.out, _, 0, ⟨_, _, _, rfl⟩, HB9.out, .inl ⟨rfl, rfl, g, acc ++ [x], k6 + 1, by have := HG.out; omega, by have := HAC2.out; have := HLT6.out; simp; omega, HD9.out, HX9.out, HH.out, HH2.out⟩⟩⟩, ?_⟩
                    rw [msr_good HD9.out, HMS.out]
                    have := HLT6.out
                    have := HD9.out.lt
                    omega
                  | false =>
                    have HH : Hid (headP ts f k = .ok (name, (acc ++ [x], 0)) k6) := hide (by rw [HE.out]; simp only [argsP, if_neg hq3, Bool.false_eq_true, if_false, hr, Res.bind_ok, hcm])
                    refine (rno_at (r := .ok () k6) [44] (by decide) HS8.out hcm).mono ?_
                    rintro e w9 ⟨rfl, hd9, hk9⟩
                    have HD9 := hide hd9.good
                    have HK9 := hide (HK8.out.trans hk9)
                    have HB9 := hide (hk9.blk HB8.out (show B ≠ R by omega))
                    have HZ9 := hide (hk9.blk HZ8.out (show w.heap.size ≠ R by omega))
                    have HX9 := hide (HXX.out.same fun b h1 h2 => hk9.block b h2 (by have h1 : B + 1 ≤ b := h1; omega))
                    clear hd9 hk9 hcm hr
                    go_wp2_with fail
                    refine ⟨⟨false, rfl, ⟨HK9.out, HZ9.out, _, 0, ⟨_, _, _, rfl⟩, HB9.out, .inr ⟨rfl, by rw [HH.out]; exact HD9.out, fun q k3 e => by rw [HH.out] at e; cases e; exact ⟨rfl, rfl, HX9.out⟩⟩⟩⟩, ?_⟩
                    rw [msr_good HD9.out, HMS.out]
                    have := HLT6.out
                    have := HD9.out.lt
                    omega
              · go_simp
                refine hK.out _ _ trivial (fun _ => ?_)
                clear hK K
                have y6 := cell_alloc y6 (.cells #[.pointer o6] 65)
                refine wpAnyH_ready (rs := [1]) (by kernel_rfl) (by simp) ?_
                refine AllReadyH.cons rfl (fun K hK => ?_) AllReadyH.nil
                go_simp
                refine hK.out _ _ trivial (fun _ => ?_)
                clear hK K
                obtain ⟨v7, w7, happ, hown7, hg7, hb7⟩ := app_one (P := Tryz.prog) (w := w6.alloc (.cells #[.pointer o6] 65)) 66 66 65 i0 (.pointer none) 1 8 Tryz.underlying66 hi hz0 hz1 hz2 rfl (by decide) (.slice aa an ac) acc.length vs (HOWN6.out) ⟨w6.heap.size, 0, none⟩ 1 [.pointer o6] rfl (one_new _ _ _) (by intro u hu; simp at hu; subst hu; rfl) (by have := HAC.out; omega) (by decide)
                obtain ⟨va7, vc7, hv7⟩ : ∃ (a : Option Addr) (c : Nat), v7 = .slice a (acc.length + 1) c := (IsRow.val (S := fun _ => True) ⟨hown7, fun _ _ => trivial⟩)
                subst hv7
                have HLOW : Hid (∀ b, b < B + 1 → b < w6.heap.size → w7.heap[b]? = w6.heap[b]?) := hide fun b h1 h2 => (hg7.block b (Nat.lt_of_lt_of_le h2 (by simp)) (fun e => by have := HOW0.out b e.symm; omega)).trans (Below.heap_alloc w6 _ b h2)
                have HSZ7 : Hid (w6.heap.size ≤ w7.heap.size) := hide (Nat.le_trans (by simp) hg7.size)
                have HOWN7 := hide hown7
                have HG7 := hide hg7
                have HB7 := hide hb7
                clear hown7 hg7 hb7
                refine wpAnyH_ready (rs := [5]) (by kernel_rfl) (by simp) ?_
                refine AllReadyH.cons rfl (fun K hK => ?_) AllReadyH.nil
                refine (if_pos (by kernel_rfl)).mpr ?_
                refine wp_app happ _ _ rfl rfl rfl ?_
                simp only [Act.put, List.setIfInBounds_toArray, List.set_cons_zero, List.set_cons_succ]
                refine hK.out _ _ trivial (fun _ => ?_)
                clear hK K happ
                refine wpAnyH_take (i := 6) (oi := ⟨some 72, _, _, _, _, _⟩) (v := .pointer (some ⟨B, 4, none⟩)) rfl (by kernel_rfl) (by kernel_rfl) (by kernel_rfl) (fun _ _ _ h => h) (Or.inl ⟨by rfl, fun W hS => by go_simp⟩) trivial ?_
                simp only [Act.put, List.setIfInBounds_toArray, List.set_cons_zero, List.set_cons_succ]
                have HBW7 := hide ((HLOW.out B (by omega) (blk_lt HBW6.out)).trans HBW6.out)
                have x4 : w7.cell? ⟨B, 4, none⟩ = some (.slice aa an ac) := by rw [blk_cell HBW7.out]; rfl
                have xf4 : w7.frozen? ⟨B, 4, none⟩ = false := blk_frozen HBW7.out 4
                refine wpAnyH_ready (rs := [7]) (by kernel_rfl) (by simp) ?_
                refine AllReadyH.cons rfl (fun K hK => ?_) AllReadyH.nil
                go_simp
                refine hK.out _ _ trivial (fun _ => ?_)
                clear hK K
                refine wpAnyH_done (by kernel_rfl) ?_ _
                clear x4 xf4
                have HZ7 := hide ((HLOW.out w.heap.size (by omega) (blk_lt HZ6.out)).trans HZ6.out)
                have HS7 := hide (HS6.out.low HLOW.out (by omega) (by omega) (by omega))
                have HK7 : Hid (Kept R w w7) := hide ⟨HG7.out.os.trans HK6.out.os, HG7.out.tape.trans HK6.out.tape, HG7.out.output.trans HK6.out.output, Nat.le_trans HK6.out.size HSZ7.out, fun b h1 h2 => (HLOW.out b (by omega) (Nat.lt_of_lt_of_le h1 HK6.out.size)).trans (HK6.out.block b h1 h2)⟩
                have HB8 : Hid ((w7.setCell ⟨B, 4, none⟩ (.slice va7 (acc.length + 1) vc7)).heap[B]? = some (stObj 3 pos name (.pointer none) (.slice va7 (acc.length + 1) vc7) 0 (.slice none 0 0) (.slice none 0 0))) := hide (by rw [blk_set HBW7.out 4 _]; rfl)
                have HZ8 := hide ((set_other w7 4 (.slice va7 (acc.length + 1) vc7) (show w.heap.size ≠ B by omega)).trans HZ7.out)
                have HS8 := hide (HS7.out.set (S := B) 4 (.slice va7 (acc.length + 1) vc7) (by omega) (by omega) (by omega))
                have HK8 := hide (HK7.out.new (S := B) 4 (.slice va7 (acc.length + 1) vc7) (by omega))
                have HX8 : Hid (∀ x k6, twoP ts g 1 0 k2 = .ok x k6 → IsExs (From (B + 1)) (w7.setCell ⟨B, 4, none⟩ (.slice va7 (acc.length + 1) vc7)) (acc ++ [x]) (.slice va7 (acc.length + 1) vc7)) := hide fun x k6 e => by
                  have hx := HP6.out x k6 e
                  obtain ⟨Q6, hQ6⟩ := hx.ptr
                  rw [hQ6] at hx
                  have e6 : o6 = some ⟨Q6, 0, none⟩ := by injection hQ6
                  subst e6
                  have := exs_snoc2 (N := B + 1) (.cells #[.pointer (some ⟨Q6, 0, none⟩)] 65) HBS6.out HROW.out HALL.out (hx.low HBR6.out) HOWN7.out HG7.out (by simpa using HB7.out)
                  refine this.same fun b h1 h2 => set_other _ 4 _ ?_
                  have h1 : B + 1 ≤ b := h1
                  omega
                clear HS7 HK7 HZ7 HBW7 HLOW HOWN7 HG7 HB7 HSZ7 HOWN6 HOW0 HS6 HP6 HK6 HZ6 HBW6 HBS6 HBR6 HROW HALL
                generalize w7.setCell ⟨B, 4, none⟩ (.slice va7 (acc.length + 1) vc7) = w8 at *
                go_wp2_with fail
                cases hr : twoP ts g 1 0 k2 with
                | out => exact absurd hr HOE.out
                | bad er q =>
                  rw [hr] at HS8
                  have HH : Hid (headP ts f k = .bad er q) := hide (by rw [HE.out]; simp only [argsP, if_neg hq3, Bool.false_eq_true, if_false, hr, Res.bind])
                  refine (rno_at (r := .bad er q) [44] (by decide) HS8.out rfl).mono ?_
                  rintro e w9 ⟨rfl, hd9, hk9⟩
                  have HD9 := hide hd9
                  have HK9 := hide (HK8.out.trans hk9)
                  have HB9 := hide (hk9.blk HB8.out (show B ≠ R by omega))
                  have HZ9 := hide (hk9.blk HZ8.out (show w.heap.size ≠ R by omega))
                  clear hd9 hk9
                  go_wp2_with fail
                  refine ⟨⟨false, rfl, ⟨HK9.out, HZ9.out, _, 0, ⟨_, _, _, rfl⟩, HB9.out, .inr ⟨rfl, by rw [HH.out]; exact HD9.out, fun q k3 e => by rw [HH.out] at e; cases e⟩⟩⟩, ?_⟩
                  rw [msr_bad HD9.out, HMS.out]
                  omega
                | ok x k6 =>
                  rw [hr] at HS8
                  have HXX := hide (HX8.out x k6 hr)
                  have HLT6 := hide (two_lt hr)
                  cases hcm : (tx ts k6 == [44]) with
                  | true =>
                    have HH : Hid (headP ts f k = (argsP ts g (k6 + 1) (acc ++ [x])).bind fun l k3 => .ok (name, l) k3) := hide (by rw [HE.out]; simp only [argsP, if_neg hq3, Bool.false_eq_true, if_false, hr, Res.bind_ok, hcm, if_true])
                    have HH2 : Hid (argsP ts g (k6 + 1) (acc ++ [x]) ≠ .out) := hide fun e => HOA.out (by simp only [argsP, if_neg hq3, Bool.false_eq_true, if_false, hr, Res.bind_ok, hcm, if_true, e])
                    refine (ryes_at [44] (by decide) HS8.out.good hcm).mono ?_
                    rintro e w9 ⟨rfl, hd9, hk9⟩
                    have HD9 := hide hd9
                    have HK9 := hide (HK8.out.trans hk9)
                    have HB9 := hide (hk9.blk HB8.out (show B ≠ R by omega))
                    have HZ9 := hide (hk9.blk HZ8.out (show w.heap.size ≠ R by omega))
                    have HX9 := hide (HXX.out.same fun b h1 h2 => hk9.block b h2 (by have h1 : B + 1 ≤ b := h1; omega))
                    clear hd9 hk9 hcm hr
                    go_wp2_with fail
                    refine ⟨⟨true, rfl, ⟨HK9.out, HZ9.out, _, 0, ⟨_, _, _, rfl⟩, HB9.out, .inl ⟨rfl, rfl, g, acc ++ [x], k6 + 1, by have := HG.out; omega, by have := HAC2.out; have := HLT6.out; simp; omega, HD9.out, HX9.out, HH.out, HH2.out⟩⟩⟩, ?_⟩
                    rw [msr_good HD9.out, HMS.out]
                    have := HLT6.out
                    have := HD9.out.lt
                    omega
                  | false =>
                    have HH : Hid (headP ts f k = .ok (name, (acc ++ [x], 0)) k6) := hide (by rw [HE.out]; simp only [argsP, if_neg hq3, Bool.false_eq_true, if_false, hr, Res.bind_ok, hcm])
                    refine (rno_at (r := .ok () k6) [44] (by decide) HS8.out hcm).mono ?_
                    rintro e w9 ⟨rfl, hd9, hk9⟩
                    have HD9 := hide hd9.good
                    have HK9 := hide (HK8.out.trans hk9)
                    have HB9 := hide (hk9.blk HB8.out (show B ≠ R by omega))
                    have HZ9 := hide (hk9.blk HZ8.out (show w.heap.size ≠ R by omega))
                    have HX9 := hide (HXX.out.same fun b h1 h2 => hk9.block b h2 (by have h1 : B + 1 ≤ b := h1; omega))
                    clear hd9 hk9 hcm hr
                    go_wp2_with fail
                    refine ⟨⟨false, rfl, ⟨HK9.out, HZ9.out, _, 0, ⟨_, _, _, rfl⟩, HB9.out, .inr ⟨rfl, by rw [HH.out]; exact HD9.out, fun q k3 e => by rw [HH.out] at e; cases e; exact ⟨rfl, rfl, HX9.out⟩⟩⟩⟩, ?_⟩
                    rw [msr_good HD9.out, HMS.out]
                    have := HLT6.out
                    have := HD9.out.lt
                    omega
        · have hk2 : (((rk (tk ts k2) : Nat) : Int) == 2) = false := by
            have := rk_is hfx k2 2 (by decide) (by decide)
            rw [show ((2 : Nat) : Int) = 2 from rfl] at this
            rw [this]; simp [hkd]
          have hq3 : ¬ ((tk ts k2).kind = 2 ∧ (tx ts (k2 + 1) == [41]) = true) := fun e => hkd e.1
          cases g with
          | zero => exact absurd (by simp only [argsP]) HOA.out
          | succ g =>
          have HOE : Hid (twoP ts g 1 0 k2 ≠ .out) := hide fun e => HOA.out (by simp only [argsP, if_neg hq3, Bool.false_eq_true, if_false, e, Res.bind])
          obtain ⟨vs, hrow, hall⟩ := HX.out
          have HROW := hide hrow
          have HALL := hide hall
          have y4 : wr.drew.cell? ⟨B, 4, none⟩ = some (.slice aa an ac) := by
            have : wr.cell? ⟨B, 4, none⟩ = some (.slice aa an ac) := by rw [blk_cell HBR.out]; rfl
            exact this
          clear hrow hall
          go_wp2_with fail
          refine wp_region_held_drew (S := fun _ => True) (by kernel_rfl) trivial (fun _ => ?_)
          refine wpAnyH_take (i := 0) (oi := ⟨some 66, _, _, _, _, _⟩) (v := .pointer (some ⟨B, 4, none⟩)) rfl (by kernel_rfl) (by kernel_rfl) (by kernel_rfl) (fun _ _ _ h => h) (Or.inl ⟨by rfl, fun W hS => by go_simp⟩) trivial ?_
          simp only [Act.put, List.setIfInBounds_toArray, List.set_cons_zero, List.set_cons_succ]
          refine wpAnyH_take (i := 2) (oi := ⟨some 68, _, _, _, _, _⟩) (v := .pointer (some ⟨R, 0, none⟩)) rfl (by kernel_rfl) (by kernel_rfl) (by kernel_rfl) (fun _ _ _ h => h) (Or.inl ⟨by rfl, fun W hS => by go_simp⟩) trivial ?_
          simp only [Act.put, List.setIfInBounds_toArray, List.set_cons_zero, List.set_cons_succ]
          refine wpAnyH_ready (rs := [1, 3]) (by kernel_rfl) (by simp) ?_
          refine AllReadyH.cons rfl (fun K hK => ?_) (AllReadyH.cons rfl (fun K hK => ?_) AllReadyH.nil)
          · go_simp
            refine hK.out _ _ trivial (fun _ => ?_)
            clear hK K
            refine wpAnyH_ready (rs := [3]) (by kernel_rfl) (by simp) ?_
            refine AllReadyH.cons rfl (fun K hK => ?_) AllReadyH.nil
            go_simp
            refine (rexpr_at g (HD.out.below (below_drew wr)) HOE.out).mono ?_
            rintro e w6 ⟨hk6, hs6, v6, rfl, ⟨o6, rfl⟩, hp6⟩
            have HS6 := hide hs6
            have HP6 := hide hp6
            have HKD := hide (Kept.trans (Kept.of (R := R) (below_drew wr)) hk6)
            have HK6 := hide (HKR.out.trans HKD.out)
            have HZ6 := hide (HKD.out.blk HZR.out (show w.heap.size ≠ R by omega))
            have HBW6 := hide (HKD.out.blk HBR.out (show B ≠ R by omega))
            have HBR6 : Hid (B + 1 ≤ wr.drew.heap.size) := hide (blk_lt HBR.out)
            have HBS6 : Hid (B + 1 ≤ w6.heap.size) := hide (Nat.le_trans (blk_lt HBR.out) HKD.out.size)
            have HROW := hide (HROW.out.same fun b h1 h2 => HKD.out.block b h2 (by have h1 : B + 1 ≤ b := h1; omega))
            have HALL := hide (HALL.out.imp fun _ _ h => IsEx.same (fun b h1 h2 => HKD.out.block b h2 (by have h1 : B + 1 ≤ b := h1; omega)) h)
            have HOWN6 := hide (HROW.out.1.alloc (.cells #[.pointer o6] 65))
            have HOW0 : Hid (∀ b, (Value.slice aa an ac).ownBlock = some b → B + 1 ≤ b) := hide HROW.out.2
            have y6 : w6.cell? ⟨B, 4, none⟩ = some (.slice aa an ac) := by rw [blk_cell HBW6.out]; rfl
            clear hk6 hs6 hp6
            refine hK.out _ _ trivial (fun _ => ?_)
            clear hK K
            refine wpAnyH_ready (rs := [4]) (by kernel_rfl) (by simp) ?_
            refine AllReadyH.cons rfl (fun K hK => ?_) AllReadyH.nil
            go_simp
            refine hK.out _ _ trivial (fun _ => ?_)
            clear hK K
            obtain ⟨v7, w7, happ, hown7, hg7, hb7⟩ := app_one (P := Tryz.prog) (w := w6.alloc (.cells #[.pointer o6] 65)) 66 66 65 i0 (.pointer none) 1 8 Tryz.underlying66 hi hz0 hz1 hz2 rfl (by decide) (.slice aa an ac) acc.length vs (HOWN6.out) ⟨w6.heap.size, 0, none⟩ 1 [.pointer o6] rfl (one_new _ _ _) (by intro u hu; simp at hu; subst hu; rfl) (by have := HAC.out; omega) (by decide)
            obtain ⟨va7, vc7, hv7⟩ : ∃ (a : Option Addr) (c : Nat), v7 = .slice a (acc.length + 1) c := (IsRow.val (S := fun _ => True) ⟨hown7, fun _ _ => trivial⟩)
            subst hv7
            have HLOW : Hid (∀ b, b < B + 1 → b < w6.heap.size → w7.heap[b]? = w6.heap[b]?) := hide fun b h1 h2 => (hg7.block b (Nat.lt_of_lt_of_le h2 (by simp)) (fun e => by have := HOW0.out b e.symm; omega)).trans (Below.heap_alloc w6 _ b h2)
            have HSZ7 : Hid (w6.heap.size ≤ w7.heap.size) := hide (Nat.le_trans (by simp) hg7.size)
            have HOWN7 := hide hown7
            have HG7 := hide hg7
            have HB7 := hide hb7
            clear hown7 hg7 hb7
            refine wpAnyH_ready (rs := [5]) (by kernel_rfl) (by simp) ?_
            refine AllReadyH.cons rfl (fun K hK => ?_) AllReadyH.nil
            refine (if_pos (by kernel_rfl)).mpr ?_
            refine wp_app happ _ _ rfl rfl rfl ?_
            simp only [Act.put, List.setIfInBounds_toArray, List.set_cons_zero, List.set_cons_succ]
            refine hK.out _ _ trivial (fun _ => ?_)
            clear hK K happ
            refine wpAnyH_take (i := 6) (oi := ⟨some 72, _, _, _, _, _⟩) (v := .pointer (some ⟨B, 4, none⟩)) rfl (by kernel_rfl) (by kernel_rfl) (by kernel_rfl) (fun _ _ _ h => h) (Or.inl ⟨by rfl, fun W hS => by go_simp⟩) trivial ?_
            simp only [Act.put, List.setIfInBounds_toArray, List.set_cons_zero, List.set_cons_succ]
            have HBW7 := hide ((HLOW.out B (by omega) (blk_lt HBW6.out)).trans HBW6.out)
            have x4 : w7.cell? ⟨B, 4, none⟩ = some (.slice aa an ac) := by rw [blk_cell HBW7.out]; rfl
            have xf4 : w7.frozen? ⟨B, 4, none⟩ = false := blk_frozen HBW7.out 4
            refine wpAnyH_ready (rs := [7]) (by kernel_rfl) (by simp) ?_
            refine AllReadyH.cons rfl (fun K hK => ?_) AllReadyH.nil
            go_simp
            refine hK.out _ _ trivial (fun _ => ?_)
            clear hK K
            refine wpAnyH_done (by kernel_rfl) ?_ _
            clear x4 xf4
            have HZ7 := hide ((HLOW.out w.heap.size (by omega) (blk_lt HZ6.out)).trans HZ6.out)
            have HS7 := hide (HS6.out.low HLOW.out (by omega) (by omega) (by omega))
            have HK7 : Hid (Kept R w w7) := hide ⟨HG7.out.os.trans HK6.out.os, HG7.out.tape.trans HK6.out.tape, HG7.out.output.trans HK6.out.output, Nat.le_trans HK6.out.size HSZ7.out, fun b h1 h2 => (HLOW.out b (by omega) (Nat.lt_of_lt_of_le h1 HK6.out.size)).trans (HK6.out.block b h1 h2)⟩
            have HB8 : Hid ((w7.setCell ⟨B, 4, none⟩ (.slice va7 (acc.length + 1) vc7)).heap[B]? = some (stObj 3 pos name (.pointer none) (.slice va7 (acc.length + 1) vc7) 0 (.slice none 0 0) (.slice none 0 0))) := hide (by rw [blk_set HBW7.out 4 _]; rfl)
            have HZ8 := hide ((set_other w7 4 (.slice va7 (acc.length + 1) vc7) (show w.heap.size ≠ B by omega)).trans HZ7.out)
            have HS8 := hide (HS7.out.set (S := B) 4 (.slice va7 (acc.length + 1) vc7) (by omega) (by omega) (by omega))
            have HK8 := hide (HK7.out.new (S := B) 4 (.slice va7 (acc.length + 1) vc7) (by omega))
            have HX8 : Hid (∀ x k6, twoP ts g 1 0 k2 = .ok x k6 → IsExs (From (B + 1)) (w7.setCell ⟨B, 4, none⟩ (.slice va7 (acc.length + 1) vc7)) (acc ++ [x]) (.slice va7 (acc.length + 1) vc7)) := hide fun x k6 e => by
              have hx := HP6.out x k6 e
              obtain ⟨Q6, hQ6⟩ := hx.ptr
              rw [hQ6] at hx
              have e6 : o6 = some ⟨Q6, 0, none⟩ := by injection hQ6
              subst e6
              have := exs_snoc2 (N := B + 1) (.cells #[.pointer (some ⟨Q6, 0, none⟩)] 65) HBS6.out HROW.out HALL.out (hx.low HBR6.out) HOWN7.out HG7.out (by simpa using HB7.out)
              refine this.same fun b h1 h2 => set_other _ 4 _ ?_
              have h1 : B + 1 ≤ b := h1
              omega
            clear HS7 HK7 HZ7 HBW7 HLOW HOWN7 HG7 HB7 HSZ7 HOWN6 HOW0 HS6 HP6 HK6 HZ6 HBW6 HBS6 HBR6 HROW HALL
            generalize w7.setCell ⟨B, 4, none⟩ (.slice va7 (acc.length + 1) vc7) = w8 at *
            go_wp2_with fail
            cases hr : twoP ts g 1 0 k2 with
            | out => exact absurd hr HOE.out
            | bad er q =>
              rw [hr] at HS8
              have HH : Hid (headP ts f k = .bad er q) := hide (by rw [HE.out]; simp only [argsP, if_neg hq3, Bool.false_eq_true, if_false, hr, Res.bind])
              refine (rno_at (r := .bad er q) [44] (by decide) HS8.out rfl).mono ?_
              rintro e w9 ⟨rfl, hd9, hk9⟩
              have HD9 := hide hd9
              have HK9 := hide (HK8.out.trans hk9)
              have HB9 := hide (hk9.blk HB8.out (show B ≠ R by omega))
              have HZ9 := hide (hk9.blk HZ8.out (show w.heap.size ≠ R by omega))
              clear hd9 hk9
              go_wp2_with fail
              refine ⟨⟨false, rfl, ⟨HK9.out, HZ9.out, _, 0, ⟨_, _, _, rfl⟩, HB9.out, .inr ⟨rfl, by rw [HH.out]; exact HD9.out, fun q k3 e => by rw [HH.out] at e; cases e⟩⟩⟩, ?_⟩
              rw [msr_bad HD9.out, HMS.out]
              omega
            | ok x k6 =>
              rw [hr] at HS8
              have HXX := hide (HX8.out x k6 hr)
              have HLT6 := hide (two_lt hr)
              cases hcm : (tx ts k6 == [44]) with
              | true =>
                have HH : Hid (headP ts f k = (argsP ts g (k6 + 1) (acc ++ [x])).bind fun l k3 => .ok (name, l) k3) := hide (by rw [HE.out]; simp only [argsP, if_neg hq3, Bool.false_eq_true, if_false, hr, Res.bind_ok, hcm, if_true])
                have HH2 : Hid (argsP ts g (k6 + 1) (acc ++ [x]) ≠ .out) := hide fun e => HOA.out (by simp only [argsP, if_neg hq3, Bool.false_eq_true, if_false, hr, Res.bind_ok, hcm, if_true, e])
                refine (ryes_at [44] (by decide) HS8.out.good hcm).mono ?_
                rintro e w9 ⟨rfl, hd9, hk9⟩
                have HD9 := hide hd9
                have HK9 := hide (HK8.out.trans hk9)
                have HB9 := hide (hk9.blk HB8.out (show B ≠ R by omega))
                have HZ9 := hide (hk9.blk HZ8.out (show w.heap.size ≠ R by omega))
                have HX9 := hide (HXX.out.same fun b h1 h2 => hk9.block b h2 (by have h1 : B + 1 ≤ b := h1; omega))
                clear hd9 hk9 hcm hr
                go_wp2_with fail
                refine ⟨⟨true, rfl, ⟨HK9.out, HZ9.out, _, 0, ⟨_, _, _, rfl⟩, HB9.out, .inl ⟨rfl, rfl, g, acc ++ [x], k6 + 1, by have := HG.out; omega, by have := HAC2.out; have := HLT6.out; simp; omega, HD9.out, HX9.out, HH.out, HH2.out⟩⟩⟩, ?_⟩
                rw [msr_good HD9.out, HMS.out]
                have := HLT6.out
                have := HD9.out.lt
                omega
              | false =>
                have HH : Hid (headP ts f k = .ok (name, (acc ++ [x], 0)) k6) := hide (by rw [HE.out]; simp only [argsP, if_neg hq3, Bool.false_eq_true, if_false, hr, Res.bind_ok, hcm])
                refine (rno_at (r := .ok () k6) [44] (by decide) HS8.out hcm).mono ?_
                rintro e w9 ⟨rfl, hd9, hk9⟩
                have HD9 := hide hd9.good
                have HK9 := hide (HK8.out.trans hk9)
                have HB9 := hide (hk9.blk HB8.out (show B ≠ R by omega))
                have HZ9 := hide (hk9.blk HZ8.out (show w.heap.size ≠ R by omega))
                have HX9 := hide (HXX.out.same fun b h1 h2 => hk9.block b h2 (by have h1 : B + 1 ≤ b := h1; omega))
                clear hd9 hk9 hcm hr
                go_wp2_with fail
                refine ⟨⟨false, rfl, ⟨HK9.out, HZ9.out, _, 0, ⟨_, _, _, rfl⟩, HB9.out, .inr ⟨rfl, by rw [HH.out]; exact HD9.out, fun q k3 e => by rw [HH.out] at e; cases e; exact ⟨rfl, rfl, HX9.out⟩⟩⟩⟩, ?_⟩
                rw [msr_good HD9.out, HMS.out]
                have := HLT6.out
                have := HD9.out.lt
                omega
          · go_simp
            refine (rexpr_at g (HD.out.below (below_drew wr)) HOE.out).mono ?_
            rintro e w6 ⟨hk6, hs6, v6, rfl, ⟨o6, rfl⟩, hp6⟩
            have HS6 := hide hs6
            have HP6 := hide hp6
            have HKD := hide (Kept.trans (Kept.of (R := R) (below_drew wr)) hk6)
            have HK6 := hide (HKR.out.trans HKD.out)
            have HZ6 := hide (HKD.out.blk HZR.out (show w.heap.size ≠ R by omega))
            have HBW6 := hide (HKD.out.blk HBR.out (show B ≠ R by omega))
            have HBR6 : Hid (B + 1 ≤ wr.drew.heap.size) := hide (blk_lt HBR.out)
            have HBS6 : Hid (B + 1 ≤ w6.heap.size) := hide (Nat.le_trans (blk_lt HBR.out) HKD.out.size)
            have HROW := hide (HROW.out.same fun b h1 h2 => HKD.out.block b h2 (by have h1 : B + 1 ≤ b := h1; omega))
            have HALL := hide (HALL.out.imp fun _ _ h => IsEx.same (fun b h1 h2 => HKD.out.block b h2 (by have h1 : B + 1 ≤ b := h1; omega)) h)
            have HOWN6 := hide (HROW.out.1.alloc (.cells #[.pointer o6] 65))
            have HOW0 : Hid (∀ b, (Value.slice aa an ac).ownBlock = some b → B + 1 ≤ b) := hide HROW.out.2
            have y6 : w6.cell? ⟨B, 4, none⟩ = some (.slice aa an ac) := by rw [blk_cell HBW6.out]; rfl
            clear hk6 hs6 hp6
            refine hK.out _ _ trivial (fun _ => ?_)
            clear hK K
            refine wpAnyH_ready (rs := [1, 4]) (by kernel_rfl) (by simp) ?_
            refine AllReadyH.cons rfl (fun K hK => ?_) (AllReadyH.cons rfl (fun K hK => ?_) AllReadyH.nil)
            · go_simp
              refine hK.out _ _ trivial (fun _ => ?_)
              clear hK K
              refine wpAnyH_ready (rs := [4]) (by kernel_rfl) (by simp) ?_
              refine AllReadyH.cons rfl (fun K hK => ?_) AllReadyH.nil
              go_simp
              refine hK.out _ _ trivial (fun _ => ?_)
              clear hK K
              obtain ⟨v7, w7, happ, hown7, hg7, hb7⟩ := app_one (P := Tryz.prog) (w := w6.alloc (.cells #[.pointer o6] 65)) 66 66 65 i0 (.pointer none) 1 8 Tryz.underlying66 hi hz0 hz1 hz2 rfl (by decide) (.slice aa an ac) acc.length vs (HOWN6.out) ⟨w6.heap.size, 0, none⟩ 1 [.pointer o6] rfl (one_new _ _ _) (by intro u hu; simp at hu; subst hu; rfl) (by have := HAC.out; omega) (by decide)
              obtain ⟨va7, vc7, hv7⟩ : ∃ (a : Option Addr) (c : Nat), v7 = .slice a (acc.length + 1) c := (IsRow.val (S := fun _ => True) ⟨hown7, fun _ _ => trivial⟩)
              subst hv7
              have HLOW : Hid (∀ b, b < B + 1 → b < w6.heap.size → w7.heap[b]? = w6.heap[b]?) := hide fun b h1 h2 => (hg7.block b (Nat.lt_of_lt_of_le h2 (by simp)) (fun e => by have := HOW0.out b e.symm; omega)).trans (Below.heap_alloc w6 _ b h2)
              have HSZ7 : Hid (w6.heap.size ≤ w7.heap.size) := hide (Nat.le_trans (by simp) hg7.size)
              have HOWN7 := hide hown7
              have HG7 := hide hg7
              have HB7 := hide hb7
              clear hown7 hg7 hb7
              refine wpAnyH_ready (rs := [5]) (by kernel_rfl) (by simp) ?_
              refine AllReadyH.cons rfl (fun K hK => ?_) AllReadyH.nil
              refine (if_pos (by kernel_rfl)).mpr ?_
              refine wp_app happ _ _ rfl rfl rfl ?_
              simp only [Act.put, List.setIfInBounds_toArray, List.set_cons_zero, List.set_cons_succ]
              refine hK.out _ _ trivial (fun _ => ?_)
              clear hK K happ
              refine wpAnyH_take (i := 6) (oi := ⟨some 72, _, _, _, _, _⟩) (v := .pointer (some ⟨B, 4, none⟩)) rfl (by kernel_rfl) (by kernel_rfl) (by kernel_rfl) (fun _ _ _ h => h) (Or.inl ⟨by rfl, fun W hS => by go_simp⟩) trivial ?_
              simp only [Act.put, List.setIfInBounds_toArray, List.set_cons_zero, List.set_cons_succ]
              have HBW7 := hide ((HLOW.out B (by omega) (blk_lt HBW6.out)).trans HBW6.out)
              have x4 : w7.cell? ⟨B, 4, none⟩ = some (.slice aa an ac) := by rw [blk_cell HBW7.out]; rfl
              have xf4 : w7.frozen? ⟨B, 4, none⟩ = false := blk_frozen HBW7.out 4
              refine wpAnyH_ready (rs := [7]) (by kernel_rfl) (by simp) ?_
              refine AllReadyH.cons rfl (fun K hK => ?_) AllReadyH.nil
              go_simp
              refine hK.out _ _ trivial (fun _ => ?_)
              clear hK K
              refine wpAnyH_done (by kernel_rfl) ?_ _
              clear x4 xf4
              have HZ7 := hide ((HLOW.out w.heap.size (by omega) (blk_lt HZ6.out)).trans HZ6.out)
              have HS7 := hide (HS6.out.low HLOW.out (by omega) (by omega) (by omega))
              have HK7 : Hid (Kept R w w7) := hide ⟨HG7.out.os.trans HK6.out.os, HG7.out.tape.trans HK6.out.tape, HG7.out.output.trans HK6.out.output, Nat.le_trans HK6.out.size HSZ7.out, fun b h1 h2 => (HLOW.out b (by omega) (Nat.lt_of_lt_of_le h1 HK6.out.size)).trans (HK6.out.block b h1 h2)⟩
              have HB8 : Hid ((w7.setCell ⟨B, 4, none⟩ (.slice va7 (acc.length + 1) vc7)).heap[B]? = some (stObj 3 pos name (.pointer none) (.slice va7 (acc.length + 1) vc7) 0 (.slice none 0 0) (.slice none 0 0))) := hide (by rw [blk_set HBW7.out 4 _]; rfl)
              have HZ8 := hide ((set_other w7 4 (.slice va7 (acc.length + 1) vc7) (show w.heap.size ≠ B by omega)).trans HZ7.out)
              have HS8 := hide (HS7.out.set (S := B) 4 (.slice va7 (acc.length + 1) vc7) (by omega) (by omega) (by omega))
              have HK8 := hide (HK7.out.new (S := B) 4 (.slice va7 (acc.length + 1) vc7) (by omega))
              have HX8 : Hid (∀ x k6, twoP ts g 1 0 k2 = .ok x k6 → IsExs (From (B + 1)) (w7.setCell ⟨B, 4, none⟩ (.slice va7 (acc.length + 1) vc7)) (acc ++ [x]) (.slice va7 (acc.length + 1) vc7)) := hide fun x k6 e => by
                have hx := HP6.out x k6 e
                obtain ⟨Q6, hQ6⟩ := hx.ptr
                rw [hQ6] at hx
                have e6 : o6 = some ⟨Q6, 0, none⟩ := by injection hQ6
                subst e6
                have := exs_snoc2 (N := B + 1) (.cells #[.pointer (some ⟨Q6, 0, none⟩)] 65) HBS6.out HROW.out HALL.out (hx.low HBR6.out) HOWN7.out HG7.out (by simpa using HB7.out)
                refine this.same fun b h1 h2 => set_other _ 4 _ ?_
                have h1 : B + 1 ≤ b := h1
                omega
              clear HS7 HK7 HZ7 HBW7 HLOW HOWN7 HG7 HB7 HSZ7 HOWN6 HOW0 HS6 HP6 HK6 HZ6 HBW6 HBS6 HBR6 HROW HALL
              generalize w7.setCell ⟨B, 4, none⟩ (.slice va7 (acc.length + 1) vc7) = w8 at *
              go_wp2_with fail
              cases hr : twoP ts g 1 0 k2 with
              | out => exact absurd hr HOE.out
              | bad er q =>
                rw [hr] at HS8
                have HH : Hid (headP ts f k = .bad er q) := hide (by rw [HE.out]; simp only [argsP, if_neg hq3, Bool.false_eq_true, if_false, hr, Res.bind])
                refine (rno_at (r := .bad er q) [44] (by decide) HS8.out rfl).mono ?_
                rintro e w9 ⟨rfl, hd9, hk9⟩
                have HD9 := hide hd9
                have HK9 := hide (HK8.out.trans hk9)
                have HB9 := hide (hk9.blk HB8.out (show B ≠ R by omega))
                have HZ9 := hide (hk9.blk HZ8.out (show w.heap.size ≠ R by omega))
                clear hd9 hk9
                go_wp2_with fail
                refine ⟨⟨false, rfl, ⟨HK9.out, HZ9.out, _, 0, ⟨_, _, _, rfl⟩, HB9.out, .inr ⟨rfl, by rw [HH.out]; exact HD9.out, fun q k3 e => by rw [HH.out] at e; cases e⟩⟩⟩, ?_⟩
                rw [msr_bad HD9.out, HMS.out]
                omega
              | ok x k6 =>
                rw [hr] at HS8
                have HXX := hide (HX8.out x k6 hr)
                have HLT6 := hide (two_lt hr)
                cases hcm : (tx ts k6 == [44]) with
                | true =>
                  have HH : Hid (headP ts f k = (argsP ts g (k6 + 1) (acc ++ [x])).bind fun l k3 => .ok (name, l) k3) := hide (by rw [HE.out]; simp only [argsP, if_neg hq3, Bool.false_eq_true, if_false, hr, Res.bind_ok, hcm, if_true])
                  have HH2 : Hid (argsP ts g (k6 + 1) (acc ++ [x]) ≠ .out) := hide fun e => HOA.out (by simp only [argsP, if_neg hq3, Bool.false_eq_true, if_false, hr, Res.bind_ok, hcm, if_true, e])
                  refine (ryes_at [44] (by decide) HS8.out.good hcm).mono ?_
                  rintro e w9 ⟨rfl, hd9, hk9⟩
                  have HD9 := hide hd9
                  have HK9 := hide (HK8.out.trans hk9)
                  have HB9 := hide (hk9.blk HB8.out (show B ≠ R by omega))
                  have HZ9 := hide (hk9.blk HZ8.out (show w.heap.size ≠ R by omega))
                  have HX9 := hide (HXX.out.same fun b h1 h2 => hk9.block b h2 (by have h1 : B + 1 ≤ b := h1; omega))
                  clear hd9 hk9 hcm hr
                  go_wp2_with fail
                  refine ⟨⟨true, rfl, ⟨HK9.out, HZ9.out, _, 0, ⟨_, _, _, rfl⟩, HB9.out, .inl ⟨rfl, rfl, g, acc ++ [x], k6 + 1, by have := HG.out; omega, by have := HAC2.out; have := HLT6.out; simp; omega, HD9.out, HX9.out, HH.out, HH2.out⟩⟩⟩, ?_⟩
                  rw [msr_good HD9.out, HMS.out]
                  have := HLT6.out
                  have := HD9.out.lt
                  omega
                | false =>
                  have HH : Hid (headP ts f k = .ok (name, (acc ++ [x], 0)) k6) := hide (by rw [HE.out]; simp only [argsP, if_neg hq3, Bool.false_eq_true, if_false, hr, Res.bind_ok, hcm])
                  refine (rno_at (r := .ok () k6) [44] (by decide) HS8.out hcm).mono ?_
                  rintro e w9 ⟨rfl, hd9, hk9⟩
                  have HD9 := hide hd9.good
                  have HK9 := hide (HK8.out.trans hk9)
                  have HB9 := hide (hk9.blk HB8.out (show B ≠ R by omega))
                  have HZ9 := hide (hk9.blk HZ8.out (show w.heap.size ≠ R by omega))
                  have HX9 := hide (HXX.out.same fun b h1 h2 => hk9.block b h2 (by have h1 : B + 1 ≤ b := h1; omega))
                  clear hd9 hk9 hcm hr
                  go_wp2_with fail
                  refine ⟨⟨false, rfl, ⟨HK9.out, HZ9.out, _, 0, ⟨_, _, _, rfl⟩, HB9.out, .inr ⟨rfl, by rw [HH.out]; exact HD9.out, fun q k3 e => by rw [HH.out] at e; cases e; exact ⟨rfl, rfl, HX9.out⟩⟩⟩⟩, ?_⟩
                  rw [msr_good HD9.out, HMS.out]
                  have := HLT6.out
                  have := HD9.out.lt
                  omega
            · go_simp
              refine hK.out _ _ trivial (fun _ => ?_)
              clear hK K
              have y6 := cell_alloc y6 (.cells #[.pointer o6] 65)
              refine wpAnyH_ready (rs := [1]) (by kernel_rfl) (by simp) ?_
              refine AllReadyH.cons rfl (fun K hK => ?_) AllReadyH.nil
              go_simp
              refine hK.out _ _ trivial (fun _ => ?_)
              clear hK K
              obtain ⟨v7, w7, happ, hown7, hg7, hb7⟩ := app_one (P := Tryz.prog) (w := w6.alloc (.cells #[.pointer o6] 65)) 66 66 65 i0 (.pointer none) 1 8 Tryz.underlying66 hi hz0 hz1 hz2 rfl (by decide) (.slice aa an ac) acc.length vs (HOWN6.out) ⟨w6.heap.size, 0, none⟩ 1 [.pointer o6] rfl (one_new _ _ _) (by intro u hu; simp at hu; subst hu; rfl) (by have := HAC.out; omega) (by decide)
              obtain ⟨va7, vc7, hv7⟩ : ∃ (a : Option Addr) (c : Nat), v7 = .slice a (acc.length + 1) c := (IsRow.val (S := fun _ => True) ⟨hown7, fun _ _ => trivial⟩)
              subst hv7
              have HLOW : Hid (∀ b, b < B + 1 → b < w6.heap.size → w7.heap[b]? = w6.heap[b]?) := hide fun b h1 h2 => (hg7.block b (Nat.lt_of_lt_of_le h2 (by simp)) (fun e => by have := HOW0.out b e.symm; omega)).trans (Below.heap_alloc w6 _ b h2)
              have HSZ7 : Hid (w6.heap.size ≤ w7.heap.size) := hide (Nat.le_trans (by simp) hg7.size)
              have HOWN7 := hide hown7
              have HG7 := hide hg7
              have HB7 := hide hb7
              clear hown7 hg7 hb7
              refine wpAnyH_ready (rs := [5]) (by kernel_rfl) (by simp) ?_
              refine AllReadyH.cons rfl (fun K hK => ?_) AllReadyH.nil
              refine (if_pos (by kernel_rfl)).mpr ?_
              refine wp_app happ _ _ rfl rfl rfl ?_
              simp only [Act.put, List.setIfInBounds_toArray, List.set_cons_zero, List.set_cons_succ]
              refine hK.out _ _ trivial (fun _ => ?_)
              clear hK K happ
              refine wpAnyH_take (i := 6) (oi := ⟨some 72, _, _, _, _, _⟩) (v := .pointer (some ⟨B, 4, none⟩)) rfl (by kernel_rfl) (by kernel_rfl) (by kernel_rfl) (fun _ _ _ h => h) (Or.inl ⟨by rfl, fun W hS => by go_simp⟩) trivial ?_
              simp only [Act.put, List.setIfInBounds_toArray, List.set_cons_zero, List.set_cons_succ]
              have HBW7 := hide ((HLOW.out B (by omega) (blk_lt HBW6.out)).trans HBW6.out)
              have x4 : w7.cell? ⟨B, 4, none⟩ = some (.slice aa an ac) := by rw [blk_cell HBW7.out]; rfl
              have xf4 : w7.frozen? ⟨B, 4, none⟩ = false := blk_frozen HBW7.out 4
              refine wpAnyH_ready (rs := [7]) (by kernel_rfl) (by simp) ?_
              refine AllReadyH.cons rfl (fun K hK => ?_) AllReadyH.nil
              go_simp
              refine hK.out _ _ trivial (fun _ => ?_)
              clear hK K
              refine wpAnyH_done (by kernel_rfl) ?_ _
              clear x4 xf4
              have HZ7 := hide ((HLOW.out w.heap.size (by omega) (blk_lt HZ6.out)).trans HZ6.out)
              have HS7 := hide (HS6.out.low HLOW.out (by omega) (by omega) (by omega))
              have HK7 : Hid (Kept R w w7) := hide ⟨HG7.out.os.trans HK6.out.os, HG7.out.tape.trans HK6.out.tape, HG7.out.output.trans HK6.out.output, Nat.le_trans HK6.out.size HSZ7.out, fun b h1 h2 => (HLOW.out b (by omega) (Nat.lt_of_lt_of_le h1 HK6.out.size)).trans (HK6.out.block b h1 h2)⟩
              have HB8 : Hid ((w7.setCell ⟨B, 4, none⟩ (.slice va7 (acc.length + 1) vc7)).heap[B]? = some (stObj 3 pos name (.pointer none) (.slice va7 (acc.length + 1) vc7) 0 (.slice none 0 0) (.slice none 0 0))) := hide (by rw [blk_set HBW7.out 4 _]; rfl)
              have HZ8 := hide ((set_other w7 4 (.slice va7 (acc.length + 1) vc7) (show w.heap.size ≠ B by omega)).trans HZ7.out)
              have HS8 := hide (HS7.out.set (S := B) 4 (.slice va7 (acc.length + 1) vc7) (by omega) (by omega) (by omega))
              have HK8 := hide (HK7.out.new (S := B) 4 (.slice va7 (acc.length + 1) vc7) (by omega))
              have HX8 : Hid (∀ x k6, twoP ts g 1 0 k2 = .ok x k6 → IsExs (From (B + 1)) (w7.setCell ⟨B, 4, none⟩ (.slice va7 (acc.length + 1) vc7)) (acc ++ [x]) (.slice va7 (acc.length + 1) vc7)) := hide fun x k6 e => by
                have hx := HP6.out x k6 e
                obtain ⟨Q6, hQ6⟩ := hx.ptr
                rw [hQ6] at hx
                have e6 : o6 = some ⟨Q6, 0, none⟩ := by injection hQ6
                subst e6
                have := exs_snoc2 (N := B + 1) (.cells #[.pointer (some ⟨Q6, 0, none⟩)] 65) HBS6.out HROW.out HALL.out (hx.low HBR6.out) HOWN7.out HG7.out (by simpa using HB7.out)
                refine this.same fun b h1 h2 => set_other _ 4 _ ?_
                have h1 : B + 1 ≤ b := h1
                omega
              clear HS7 HK7 HZ7 HBW7 HLOW HOWN7 HG7 HB7 HSZ7 HOWN6 HOW0 HS6 HP6 HK6 HZ6 HBW6 HBS6 HBR6 HROW HALL
              generalize w7.setCell ⟨B, 4, none⟩ (.slice va7 (acc.length + 1) vc7) = w8 at *
              go_wp2_with fail
              cases hr : twoP ts g 1 0 k2 with
              | out => exact absurd hr HOE.out
              | bad er q =>
                rw [hr] at HS8
                have HH : Hid (headP ts f k = .bad er q) := hide (by rw [HE.out]; simp only [argsP, if_neg hq3, Bool.false_eq_true, if_false, hr, Res.bind])
                refine (rno_at (r := .bad er q) [44] (by decide) HS8.out rfl).mono ?_
                rintro e w9 ⟨rfl, hd9, hk9⟩
                have HD9 := hide hd9
                have HK9 := hide (HK8.out.trans hk9)
                have HB9 := hide (hk9.blk HB8.out (show B ≠ R by omega))
                have HZ9 := hide (hk9.blk HZ8.out (show w.heap.size ≠ R by omega))
                clear hd9 hk9
                go_wp2_with fail
                refine ⟨⟨false, rfl, ⟨HK9.out, HZ9.out, _, 0, ⟨_, _, _, rfl⟩, HB9.out, .inr ⟨rfl, by rw [HH.out]; exact HD9.out, fun q k3 e => by rw [HH.out] at e; cases e⟩⟩⟩, ?_⟩
                rw [msr_bad HD9.out, HMS.out]
                omega
              | ok x k6 =>
                rw [hr] at HS8
                have HXX := hide (HX8.out x k6 hr)
                have HLT6 := hide (two_lt hr)
                cases hcm : (tx ts k6 == [44]) with
                | true =>
                  have HH : Hid (headP ts f k = (argsP ts g (k6 + 1) (acc ++ [x])).bind fun l k3 => .ok (name, l) k3) := hide (by rw [HE.out]; simp only [argsP, if_neg hq3, Bool.false_eq_true, if_false, hr, Res.bind_ok, hcm, if_true])
                  have HH2 : Hid (argsP ts g (k6 + 1) (acc ++ [x]) ≠ .out) := hide fun e => HOA.out (by simp only [argsP, if_neg hq3, Bool.false_eq_true, if_false, hr, Res.bind_ok, hcm, if_true, e])
                  refine (ryes_at [44] (by decide) HS8.out.good hcm).mono ?_
                  rintro e w9 ⟨rfl, hd9, hk9⟩
                  have HD9 := hide hd9
                  have HK9 := hide (HK8.out.trans hk9)
                  have HB9 := hide (hk9.blk HB8.out (show B ≠ R by omega))
                  have HZ9 := hide (hk9.blk HZ8.out (show w.heap.size ≠ R by omega))
                  have HX9 := hide (HXX.out.same fun b h1 h2 => hk9.block b h2 (by have h1 : B + 1 ≤ b := h1; omega))
                  clear hd9 hk9 hcm hr
                  go_wp2_with fail
                  refine ⟨⟨true, rfl, ⟨HK9.out, HZ9.out, _, 0, ⟨_, _, _, rfl⟩, HB9.out, .inl ⟨rfl, rfl, g, acc ++ [x], k6 + 1, by have := HG.out; omega, by have := HAC2.out; have := HLT6.out; simp; omega, HD9.out, HX9.out, HH.out, HH2.out⟩⟩⟩, ?_⟩
                  rw [msr_good HD9.out, HMS.out]
                  have := HLT6.out
                  have := HD9.out.lt
                  omega
                | false =>
                  have HH : Hid (headP ts f k = .ok (name, (acc ++ [x], 0)) k6) := hide (by rw [HE.out]; simp only [argsP, if_neg hq3, Bool.false_eq_true, if_false, hr, Res.bind_ok, hcm])
                  refine (rno_at (r := .ok () k6) [44] (by decide) HS8.out hcm).mono ?_
                  rintro e w9 ⟨rfl, hd9, hk9⟩
                  have HD9 := hide hd9.good
                  have HK9 := hide (HK8.out.trans hk9)
                  have HB9 := hide (hk9.blk HB8.out (show B ≠ R by omega))
                  have HZ9 := hide (hk9.blk HZ8.out (show w.heap.size ≠ R by omega))
                  have HX9 := hide (HXX.out.same fun b h1 h2 => hk9.block b h2 (by have h1 : B + 1 ≤ b := h1; omega))
                  clear hd9 hk9 hcm hr
                  go_wp2_with fail
                  refine ⟨⟨false, rfl, ⟨HK9.out, HZ9.out, _, 0, ⟨_, _, _, rfl⟩, HB9.out, .inr ⟨rfl, by rw [HH.out]; exact HD9.out, fun q k3 e => by rw [HH.out] at e; cases e; exact ⟨rfl, rfl, HX9.out⟩⟩⟩⟩, ?_⟩
                  rw [msr_good HD9.out, HMS.out]
                  have := HLT6.out
                  have := HD9.out.lt
                  omega
      · cases hf
end Go.Proofs.YtlbgdoajaplabaaGreatDoor
