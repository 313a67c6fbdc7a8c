/-
  CONTRACTS of two and expr: expressions of marks of two.
  CONTRACT of args: what a call has between its brackets; rows of expressions in memory.
-/
import Derived.Test.YtiimnnancblbkaaDoorOne
import Derived.Laws.AppendOwn
import Derived.Laws.OwnMore
namespace Go.Proofs.YtiimnnancblbkaaDoor
open Go.RowKit

def nextOf (R : Nat) (w : World) : Nat := match w.cell? ⟨R, 1, none⟩ with | some (.int _ n) => n.toNat | _ => 0
theorem Rd.nextOf_eq {w : World} {R T cap k : Nat} {ts : List Tok} (h : Rd w R T cap ts k) : nextOf R w = k := by
  have e : w.cell? ⟨R, 1, none⟩ = some (.int .i64 k) := by rw [blk_cell h.me]; rfl
  simp [nextOf, e]
theorem level_zero {s : List UInt8} (h : s = []) : levelN s = 0 := by subst h; rfl

set_option maxRecDepth 100000 in
set_option maxHeartbeats 3200000 in
theorem two_six (f : Nat) (ih : OneOK f) {w : World} {R T cap : Nat} {ts : List Tok} {deep k : Nat} (h : Rd w R T cap ts k) (hd9 : deep ≤ 9) (hout : twoP ts (f + 1) 6 deep k ≠ .out) :
    Calls Tryd.prog 81 #[.pointer (some ⟨R, 0, none⟩), .int .i64 6, .int .i64 deep] w (Rds w R T cap ts (fun w' v x => IsEx (From w.heap.size) w' x v) (twoP ts (f + 1) 6 deep k)) := by
  have HE : Hid (twoP ts (f + 1) 6 deep k = oneP ts f deep k) := by show _ = _; simp only [twoP, if_true]
  have HO := hide (HE.out ▸ hout)
  have HR := hide h
  have IH := hide ih
  clear h ih hout
  go_enter Tryd.func81, Tryd.ntmps81
  go_wp2_with fail
  refine (IH.out w R T cap ts deep k HR.out hd9 HO.out).mono ?_
  rintro e w1 h1
  rcases h1.cases with ⟨er1, p1, A1, hr1, rfl, hA1, hk1⟩ | ⟨a1, k1, v1, hr1, rfl, hv1, hd1, hk1⟩
  · have Hr1 := hide hr1
    have HA1 := hide hA1
    have HK1 := hide hk1
    clear h1 hr1 hA1 hk1
    go_wp2_with fail
    exact ⟨rfl, Rds.bad (HE.out.trans Hr1.out) HK1.out HA1.out⟩
  · obtain ⟨Q1, rfl⟩ := hv1.ptr
    have Hr1 := hide hr1
    have HD1 := hide hd1
    have HK1 := hide hk1
    have HV1 := hide hv1
    clear h1 hr1 hd1 hk1 hv1
    go_wp2_with fail
    go_ret
    exact Rds.ok (HE.out.trans Hr1.out) HK1.out HD1.out HV1.out

set_option maxRecDepth 100000 in
set_option maxHeartbeats 6400000 in
theorem two_low (f : Nat) (ih : ∀ g, g ≤ f → TwoOK g) {w : World} {R T cap : Nat} {ts : List Tok} {lv deep k : Nat} (h : Rd w R T cap ts k) (hl1 : 1 ≤ lv) (hl5 : lv ≤ 5) (hd9 : deep ≤ 9) (hout : twoP ts (f + 1) lv deep k ≠ .out) :
    Calls Tryd.prog 81 #[.pointer (some ⟨R, 0, none⟩), .int .i64 lv, .int .i64 deep] w (Rds w R T cap ts (fun w' v x => IsEx (From w.heap.size) w' x v) (twoP ts (f + 1) lv deep k)) := by
  have q2 := fld2
  have q1 := fld1
  have HE : Hid (twoP ts (f + 1) lv deep k = (twoP ts f (lv + 1) deep k).bind fun x k' => loopP ts f lv deep (tk ts k).pos x k') := by show _ = _; simp only [twoP, if_neg (show ¬ lv = 6 by omega)]
  have HO : Hid (twoP ts f (lv + 1) deep k ≠ .out) := fun e => hout (by rw [HE.out, e]; rfl)
  have HOL : Hid (∀ x k', twoP ts f (lv + 1) deep k = .ok x k' → loopP ts f lv deep (tk ts k).pos x k' ≠ .out) := fun x k' e e2 => hout (by rw [HE.out, e]; exact e2)
  have HR := hide h
  have IH := hide ih
  have hl6 : ((lv : Int) == 6) = false := by simp; omega
  clear h ih hout
  go_enter Tryd.func81, Tryd.ntmps81
  go_wp2_with fail
  refine (now_at HR.out).mono ?_
  rintro e w0 ⟨rfl, hb0⟩
  have HD0 := hide (HR.out.below hb0)
  have HK0 := hide (Kept.of (R := R) hb0)
  clear hb0
  go_wp2_with fail
  rw [show ((lv : Int) + 1) = ((lv + 1 : Nat) : Int) by omega]
  refine (IH.out f (Nat.le_refl _) w0 R T cap ts (lv + 1) deep k HD0.out (by omega) (by omega) hd9 HO.out).mono ?_
  rintro e w1 h1
  rcases h1.cases with ⟨er1, p1, A1, hr1, rfl, hA1, hk1⟩ | ⟨a1, k1, v1, hr1, rfl, hv1, hd1, hk1⟩
  · have Hr1 := hide hr1
    have HA1 := hide hA1
    have HK1 := hide (HK0.out.trans hk1)
    clear h1 hr1 hA1 hk1
    go_wp2_with fail
    exact ⟨rfl, Rds.bad (by rw [HE.out, Hr1.out]; rfl) HK1.out HA1.out⟩
  obtain ⟨Q1, rfl⟩ := hv1.ptr
  have HE1 : Hid (twoP ts (f + 1) lv deep k = loopP ts f lv deep (tk ts k).pos a1 k1) := by show _ = _; rw [HE.out, hr1]; rfl
  have HO1 := hide (HOL.out a1 k1 hr1)
  have HD1 := hide hd1
  have HK1 := hide (HK0.out.trans hk1)
  have HV1 := hide hv1
  clear h1 hr1 hd1 hk1 hv1
  generalize (tk ts k).pos = pos at *
  go_wp2_with fail
  go_loopw [8, 9] (fun x _ wr => ∃ (g : Nat) (y : Ex) (k2 Q : Nat), x = .pointer (some ⟨Q, 0, none⟩) ∧ Hid (g ≤ f) ∧ Hid (IsEx (From w.heap.size) wr y (.pointer (some ⟨Q, 0, none⟩))) ∧ Hid (Rd wr R T cap ts k2) ∧ Hid (Kept R w wr) ∧ Hid (twoP ts (f + 1) lv deep k = loopP ts g lv deep pos y k2) ∧ Hid (loopP ts g lv deep pos y k2 ≠ .out)) (fun _ _ wr => ts.length - nextOf R wr)
  case atStart => exact ⟨f, a1, k1, Q1, rfl, Nat.le_refl f, HV1.out.low HK0.out.size, HD1, HK1, HE1, HO1⟩
  case round =>
    obtain ⟨g, y, k2, Q, rfl, hg, hy, hd2, hk2, he2, ho2⟩ := hrel
    have HNX : Hid (nextOf R wr = k2) := hd2.out.nextOf_eq
    cases g with
    | zero => exact absurd (by simp only [loopP]) ho2.out
    | succ g =>
    have hlvl := level_at (tk ts k2).text
    have HLV := hide hlvl
    clear hlvl
    go_wp2_with fail
    refine (now_at hd2.out).mono ?_
    rintro e w3 ⟨rfl, hb3⟩
    have HD3 := hide (hd2.out.below hb3)
    have HK3 := hide (hk2.out.below hb3)
    have HY3 := hide (hy.out.below hb3)
    clear hb3
    go_wp2_with fail
    refine (HLV.out w3).mono ?_
    rintro e w4 ⟨rfl, rfl⟩
    by_cases hlv : levelN (tx ts k2) = lv
    · have HL := hide hlv
      have hq : (((levelN (tk ts k2).text.toList : Nat) : Int) == (lv : Int)) = true := by rw [hlv]; simp
      have HMORE : Hid (k2 + 1 < ts.length) := by
        refine HD3.out.fit.next k2 HD3.out.lt fun h0 => ?_
        have := level_zero (HD3.out.fit.none k2 HD3.out.lt h0)
        have hlv' : levelN (tk ts k2).text.toList = lv := hlv
        omega
      have HOT : Hid (twoP ts g (lv + 1) deep (k2 + 1) ≠ .out) := fun e => ho2.out (by simp only [loopP, hlv, if_true, e, Res.bind])
      clear hlv
      go_wp2_with fail
      refine (take_at HD3.out HMORE.out).mono ?_
      rintro e w5 ⟨rfl, hd5, hk5⟩
      have HD5 := hide hd5
      have HK5 := hide (HK3.out.trans hk5)
      have HY5 := hide (HY3.out.kept hk5 HR.out.Rlt)
      clear hd5 hk5
      go_wp2_with fail
      rw [show ((lv : Int) + 1) = ((lv + 1 : Nat) : Int) by omega]
      refine (IH.out g (by have := hg.out; omega) w5 R T cap ts (lv + 1) deep (k2 + 1) HD5.out (by omega) (by omega) hd9 HOT.out).mono ?_
      rintro e w6 h6
      rcases h6.cases with ⟨er6, p6, A6, hr6, rfl, hA6, hk6⟩ | ⟨a6, k6, v6, hr6, rfl, hv6, hd6, hk6⟩
      · have Hr6 := hide hr6
        have HA6 := hide hA6
        have HK6 := hide (HK5.out.trans hk6)
        clear h6 hr6 hA6 hk6
        go_wp2_with fail
        exact ⟨rfl, Rds.bad (by rw [he2.out]; simp only [loopP, HL.out, if_true, Hr6.out, Res.bind]) HK6.out HA6.out⟩
      · obtain ⟨Q6, rfl⟩ := hv6.ptr
        have Hr6 := hide hr6
        have HD6 := hide hd6
        have HK6 := hide (HK5.out.trans hk6)
        have HY6 := hide (HY5.out.kept hk6 HR.out.Rlt)
        have HV6 := hide (hv6.low HK5.out.size)
        have HLT := hide (two_lt hr6)
        clear h6 hr6 hd6 hk6 hv6
        go_wp2_with fail
        refine ⟨⟨g, .bin pos (tk ts k2).text y a6, k6, _, rfl, (by have := hg.out; omega : g ≤ f), ?_, (HD6.out.below (below_alloc _ _) : Rd _ R T cap ts k6), HK6.out.alloc _, ?_, ?_⟩, ?_⟩
        · exact ⟨_, _, _, rfl, HK6.out.size, blk_new _ _, HY6.out.below (below_alloc _ _), HV6.out.below (below_alloc _ _)⟩
        · show _ = _
          rw [he2.out]; simp only [loopP, HL.out, if_true, Hr6.out, Res.bind]
        · intro e
          exact ho2.out (by simp only [loopP, HL.out, if_true, Hr6.out, Res.bind, e])
        · rw [(HD6.out.below (below_alloc _ _)).nextOf_eq, HNX.out]
          have := HLT.out
          have := HMORE.out
          omega
    · have HL := hide hlv
      have hq : (((levelN (tk ts k2).text.toList : Nat) : Int) == (lv : Int)) = false := by simp; exact fun e => hlv (by exact_mod_cast e)
      clear hlv
      go_wp2_with fail
      go_ret
      exact Rds.ok (a := y) (k' := k2) (by rw [he2.out]; simp only [loopP, if_neg HL.out]) HK3.out HD3.out HY3.out

theorem ex_ok : ∀ f, OneOK f ∧ ∀ g, g ≤ f → TwoOK g
  | 0 => ⟨fun _ _ _ _ _ _ _ _ _ h => absurd (by simp only [oneP]) h, fun g hg _ _ _ _ _ _ _ _ _ _ _ _ h => absurd (by rw [show g = 0 by omega]; simp only [twoP]) h⟩
  | f + 1 => by
    obtain ⟨i1, i2⟩ := ex_ok f
    refine ⟨one_ok f i1 (i2 f (Nat.le_refl _)), fun g hg => ?_⟩
    by_cases hgf : g ≤ f
    · exact i2 g hgf
    · have : g = f + 1 := by omega
      subst this
      intro w R T cap ts lv deep k h hl1 hl6 hd9 hout
      by_cases h6 : lv = 6
      · subst h6
        exact two_six f i1 h hd9 hout
      · exact two_low f i2 h hl1 (by omega) hd9 hout

theorem two_at (f : Nat) : TwoOK f := (ex_ok f).2 f (Nat.le_refl _)

set_option maxRecDepth 100000 in
set_option maxHeartbeats 3200000 in
theorem expr_at (f : Nat) {w : World} {R T cap : Nat} {ts : List Tok} {k : Nat} (h : Rd w R T cap ts k) (hout : twoP ts f 1 0 k ≠ .out) :
    Calls Tryd.prog 73 #[.pointer (some ⟨R, 0, none⟩)] w (Rds w R T cap ts (fun w' v x => IsEx (From w.heap.size) w' x v) (twoP ts f 1 0 k)) := by
  have HR := hide h
  have IH := hide (two_at f w R T cap ts 1 0 k h (by omega) (by omega) (by omega) hout)
  clear h hout
  go_enter Tryd.func73, Tryd.ntmps73
  go_wp2_with fail
  refine IH.out.mono ?_
  rintro e w1 h1
  rcases h1.cases with ⟨er1, p1, A1, hr1, rfl, hA1, hk1⟩ | ⟨a1, k1, v1, hr1, rfl, hv1, hd1, hk1⟩
  · have Hr1 := hide hr1
    have HA1 := hide hA1
    have HK1 := hide hk1
    clear h1 hr1 hA1 hk1
    go_wp2_with fail
    exact ⟨rfl, Rds.bad Hr1.out HK1.out HA1.out⟩
  · obtain ⟨Q1, rfl⟩ := hv1.ptr
    have Hr1 := hide hr1
    have HD1 := hide hd1
    have HK1 := hide hk1
    have HV1 := hide hv1
    clear h1 hr1 hd1 hk1 hv1
    go_wp2_with fail
    go_ret
    exact Rds.ok Hr1.out HK1.out HD1.out HV1.out
end Go.Proofs.YtiimnnancblbkaaDoor
namespace Go.Proofs.YtiimnnancblbkaaDoor
open Go.RowKit

def All2 {α β : Type} (p : α → β → Prop) : List α → List β → Prop
  | [], [] => True
  | a :: l, b :: m => p a b ∧ All2 p l m
  | _, _ => False
theorem All2.imp {α β : Type} {p q : α → β → Prop} (h : ∀ a b, p a b → q a b) : ∀ {l : List α} {m : List β}, All2 p l m → All2 q l m
  | [], [], _ => trivial
  | _ :: _, _ :: _, ⟨h1, h2⟩ => ⟨h _ _ h1, All2.imp h h2⟩
  | [], _ :: _, h => h.elim
  | _ :: _, [], h => h.elim
theorem All2.snoc {α β : Type} {p : α → β → Prop} {a : α} {b : β} (hab : p a b) : ∀ {l : List α} {m : List β}, All2 p l m → All2 p (l ++ [a]) (m ++ [b])
  | [], [], _ => ⟨hab, trivial⟩
  | _ :: _, _ :: _, ⟨h1, h2⟩ => ⟨h1, All2.snoc hab h2⟩
  | [], _ :: _, h => h.elim
  | _ :: _, [], h => h.elim

/-- a row in memory, in such a block -/
def IsRow (S : Nat → Prop) (w : World) (e size : Nat) (v : Value) (n : Nat) (xs : List Value) : Prop := w.ownsRow 0 e size v n xs ∧ ∀ b, v.ownBlock = some b → S b
theorem IsRow.same {S : Nat → Prop} {e size n : Nat} {w w' : World} {v : Value} {xs : List Value} (h : IsRow S w e size v n xs) (hb : ∀ b, S b → b < w.heap.size → w'.heap[b]? = w.heap[b]?) : IsRow S w' e size v n xs := by
  refine ⟨⟨h.1.1, ?_⟩, h.2⟩
  rcases h.1.2 with hn | ⟨g, cap, cur, rfl, hbg, hg, rest⟩
  · exact .inl hn
  · exact .inr ⟨g, cap, cur, rfl, hbg, (hb g (h.2 g rfl) (blk_lt hg)).trans hg, rest⟩
theorem IsRow.imp {S S' : Nat → Prop} {e size n : Nat} {w : World} {v : Value} {xs : List Value} (h : IsRow S w e size v n xs) (hl : ∀ b, b < w.heap.size → S b → S' b) : IsRow S' w e size v n xs :=
  ⟨h.1, fun b hb => hl b (h.1.lt b hb).2 (h.2 b hb)⟩
theorem IsRow.nil (S : Nat → Prop) (w : World) (e size : Nat) : IsRow S w e size (.slice none 0 0) 0 [] := ⟨World.ownsRow_nil .., fun b hb => by simp [Value.ownBlock] at hb⟩
theorem IsRow.val {S : Nat → Prop} {e size n : Nat} {w : World} {v : Value} {xs : List Value} (h : IsRow S w e size v n xs) : ∃ (a : Option Addr) (cap : Nat), v = .slice a n cap := by
  rcases h.1.2 with ⟨rfl, rfl⟩ | ⟨g, cap, cur, rfl, _⟩
  · exact ⟨_, _, rfl⟩
  · exact ⟨_, _, rfl⟩

/-- append at a row of the call's own: the row behind it is the same one, or a new one -/
theorem append_new {P : Program} {w : World} {ops : Array Oper} {rest : List Oper} {o : Oper} {a : Act} {Q : Exit → Act → World → Prop} (hgd : o.guard = none) (s x : Operand) (t : TypeId)
    (ho : o.op = .call { callee := .builtin .append, args := #[s, x], argTypes := #[t, t] })
    (e : TypeId) (i : TypeInfo) (z : Value) (size bytes : Nat) (ht : P.underlying t = some (.slice e)) (hi : P.info? e = some i) (hz : i.zero = some z)
    (hsize : i.size = size) (hby : i.bytes = bytes) (hzs : z.cells.size = size) (hsz : 0 < size)
    (v : Value) (n : Nat) (xs : List Value) (hs : a.eval s = v) (hown : w.ownsRow 0 e size v n xs)
    (ad : Addr) (c : Nat) (news : List Value) (hx : a.eval x = .slice (some ad) 1 c) (hl : news.length = size) (hnews : ∀ j u, news[j]? = some u → w.cell? (ad.add j) = some u) (h1 : ∀ u ∈ news, u.oneCell' = true)
    (h63 : n + 1 ≤ 1000000) (hb9 : bytes ≤ 1000)
    (h : ∀ v' w', w'.ownsRow 0 e size v' (n + 1) (xs ++ news) → w.grownBy w' v.ownBlock → (v'.ownBlock = v.ownBlock ∨ v'.ownBlock = some w.heap.size) → wpList P ops Q rest (a.put o.dst v') w') : wpList P ops Q (o :: rest) a w := by
  have hlen : n + 1 ≤ maxLen := by simp only [maxLen]; omega
  have hbytes : (n + 1) * bytes ≤ 140737488355328 := Nat.le_trans (Nat.mul_le_mul h63 hb9) (by decide)
  obtain ⟨v', w', hr, h2, h3, h4⟩ := run_append_own (P := P) w 0 t o.type e i z size bytes ht hi hz hsize hby hzs hsz v n xs hown ad 1 c news (by omega) hnews h1 hlen hbytes (Nat.zero_le _)
  have hnew : v'.ownBlock = v.ownBlock ∨ v'.ownBlock = some w.heap.size := by
    subst hsize
    subst hby
    rcases hown.2 with ⟨rfl, rfl⟩ | ⟨g, cap, cur, rfl, hbg, hg, hnc, hcm, hcs, htake⟩
    · have hq := run_append_nil (P := P) w t o.type e i z ht hi hz ad 1 c news (by omega) hnews (by omega) (by omega) (by have := hbytes; omega)
      rw [hq] at hr
      cases hr
      exact .inr rfl
    · by_cases hroom : n + 1 ≤ cap
      · have hfit : n * i.size + news.length ≤ cur.size := by rw [hcs]; have := Nat.mul_le_mul_right i.size hroom; rw [Nat.add_mul] at this; omega
        have hq := run_append_room (P := P) w t o.type e i ht hi g n cap cur hg ad 1 c news (by omega) hnews h1 hroom hfit
        rw [hq] at hr
        cases hr
        exact .inl rfl
      · have holds : ∀ j u, xs[j]? = some u → w.cell? ((⟨g, 0, none⟩ : Addr).add j) = some u := hown.cells (g := g) rfl
        have hq := run_append_grow (P := P) w t o.type e i z ht hi hz ⟨g, 0, none⟩ n cap xs hown.1 holds ad 1 c news (by omega) hnews (by omega) (by omega) (growslice_fits (by omega) hbytes)
        rw [hq] at hr
        cases hr
        exact .inr rfl
  refine wpList_plain hgd fun K hK => ?_
  unfold Oper.wp execOp
  simp only [ho, resolve, invoke, builtin, Sem.run_bind, Sem.run_pure, Result.andThen_ok, List.map_toArray, List.map_cons, List.map_nil, hs, hx, hr]
  exact hK _ _ (h v' w' h2 h3 hnew)

/-- a row of expressions -/
def IsExs (S : Nat → Prop) (w : World) (l : List Ex) (v : Value) : Prop := ∃ vs : List Value, IsRow S w 45 1 v l.length vs ∧ All2 (IsEx S w) l vs
theorem IsExs.same {S : Nat → Prop} {w w' : World} {l : List Ex} {v : Value} (h : IsExs S w l v) (hb : ∀ b, S b → b < w.heap.size → w'.heap[b]? = w.heap[b]?) : IsExs S w' l v := by
  obtain ⟨vs, h1, h2⟩ := h
  exact ⟨vs, h1.same hb, h2.imp fun _ _ h => h.same hb⟩
theorem IsExs.imp {S S' : Nat → Prop} {w : World} {l : List Ex} {v : Value} (h : IsExs S w l v) (hl : ∀ b, b < w.heap.size → S b → S' b) : IsExs S' w l v := by
  obtain ⟨vs, h1, h2⟩ := h
  exact ⟨vs, h1.imp hl, h2.imp fun _ _ h => h.imp hl⟩
theorem IsExs.nil (S : Nat → Prop) (w : World) : IsExs S w [] (.slice none 0 0) := ⟨[], IsRow.nil .., trivial⟩

/-- one more at the end of a row: all else is as it was -/
theorem grown_kept {R N : Nat} {w w1 : World} {v : Value} (hg : w.grownBy w1 v.ownBlock) (hv : ∀ b, v.ownBlock = some b → N ≤ b) {w0 : World} (hk : Kept R w0 w) (h0 : w0.heap.size ≤ N) : Kept R w0 w1 :=
  ⟨hg.os.trans hk.os, hg.tape.trans hk.tape, hg.output.trans hk.output, Nat.le_trans hk.size hg.size, fun b h1 h2 => (hg.block b (Nat.lt_of_lt_of_le h1 hk.size) (fun e => by have := hv b e.symm; omega)).trans (hk.block b h1 h2)⟩
theorem wrap_small {n : Int} (h0 : -1000000000 ≤ n) (h1 : n ≤ 1000000000) : IntKind.i64.wrap n = n := by
  rw [IntKind.wrap_i64]; omega
end Go.Proofs.YtiimnnancblbkaaDoor
