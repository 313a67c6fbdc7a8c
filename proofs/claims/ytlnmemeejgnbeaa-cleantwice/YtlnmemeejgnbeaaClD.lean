/-
  CONTRACT of the closure in known.
-/
import Derived.Test.YtlnmemeejgnbeaaClRd
import Derived.Lib.QuietBelow
set_option linter.unusedSimpArgs false
set_option linter.unusedVariables false
namespace Go.Proofs.Ytlnmemeejgnbeaa
open Go.RowKit

/-- how many are not open yet -/
def cntC : List Int → Nat
  | [] => 0
  | v :: l => (if v = 2 then 0 else 1) + cntC l
theorem cntC_set : ∀ (l : List Int) (i : Nat), i < l.length → outAt l i ≠ 2 → cntC (l.set i 2) + 1 = cntC l
  | [], i, h, _ => absurd h (Nat.not_lt_zero _)
  | v :: l, 0, _, h => by
    have h' : v ≠ 2 := by simpa [outAt] using h
    simp [cntC, h']; omega
  | v :: l, i + 1, h, h2 => by
    have ih := cntC_set l i (by simpa using h) (by simpa [outAt] using h2)
    simp [cntC]; omega
theorem cntC_le : ∀ l : List Int, cntC l ≤ l.length
  | [] => Nat.le_refl _
  | v :: l => by
    have := cntC_le l
    simp only [cntC, List.length_cons]
    split <;> omega
theorem outAt_set_ne (l : List Int) (i j : Nat) (v : Int) (h : i ≠ j) : outAt (l.set i v) j = outAt l j := by
  unfold outAt; rw [List.getElem?_set_ne h]
theorem outAt_set_self (l : List Int) (i : Nat) (v : Int) (h : i < l.length) : outAt (l.set i v) i = v := by
  unfold outAt; rw [List.getElem?_set_self h]; rfl

/-- what a closure that doubts is given: its boxes -/
structure DBox (W : World) (A N Q D R RB n : Nat) (na : Option Addr) (nc : Nat) : Prop where
  a : W.cell? ⟨A, 0, none⟩ = some (.slice (some ⟨R, 0, none⟩) n n)
  b : W.cell? ⟨N, 0, none⟩ = some (.slice na n nc)
  c : W.cell? ⟨Q, 0, none⟩ = some (.slice (some ⟨RB, 0, none⟩) n n)
  d : W.cell? ⟨D, 0, none⟩ = some (.func (.func 34) #[] #[.pointer (some ⟨A, 0, none⟩), .pointer (some ⟨N, 0, none⟩), .pointer (some ⟨Q, 0, none⟩), .pointer (some ⟨D, 0, none⟩)])
theorem Kept.cellK {R : Nat} {w w' : World} (h : Kept R w w') {a : Addr} {v : Value} (hc : w.cell? a = some v) (hn : a.block ≠ R) : w'.cell? a = some v := h.cell hc hn
/-- all that it is given: B is where its own row's kin begin -/
structure DEnv (B : Nat) (W : World) (A N Q D R RB : Nat) (na : Option Addr) (nc : Nat) (ns : List Nd) (rs : List Rw) : Prop where
  box : DBox W A N Q D R RB ns.length na nc
  nodes : Lies (fun b => b ≠ R) W na (ndsC ns)
  rows : RdsAt B W RB rs
  far : R < B
  ne : A ≠ R ∧ N ≠ R ∧ Q ≠ R ∧ D ≠ R ∧ RB ≠ R
theorem DEnv.kept {B : Nat} {W W' : World} {A N Q D R RB : Nat} {na : Option Addr} {nc : Nat} {ns : List Nd} {rs : List Rw} (h : DEnv B W A N Q D R RB na nc ns rs) (hk : Kept R W W') : DEnv B W' A N Q D R RB na nc ns rs := by
  obtain ⟨n1, n2, n3, n4, n5⟩ := h.ne
  refine ⟨⟨hk.cell h.box.a n1, hk.cell h.box.b n2, hk.cell h.box.c n3, hk.cell h.box.d n4⟩, h.nodes.same fun b hb hl => hk.block b hl hb, ⟨hk.blk h.rows.outer n5, fun j r hj => (h.rows.inner j r hj).same fun b hb hl => hk.block b hl (fun e => ?_), h.rows.apart⟩, h.far, h.ne⟩
  have := (h.rows.inner j r hj).new b hb
  have := h.far
  omega

def TriL (l : List Int) : Prop := ∀ i, i < l.length → Tri (outAt l i)
theorem TriL.set {l : List Int} (h : TriL l) (i : Nat) : TriL (l.set i 2) := by
  intro j hj
  rw [List.length_set] at hj
  by_cases e : i = j
  · subst e; rw [outAt_set_self _ _ _ hj]; exact ⟨by decide, by decide⟩
  · rw [outAt_set_ne _ _ _ _ e]; exact h j hj

def DoubtOK (B : Nat) (A N Q D R RB : Nat) (na : Option Addr) (nc : Nat) (given : Int) (ns : List Nd) (os : List Int) (rs : List Rw) (f : Nat) : Prop :=
  ∀ (i : Nat) (is : List Int) (w : World), i < ns.length → is.length = ns.length → cntC is ≤ f → TriL is → DEnv B w A N Q D R RB na nc ns rs → w.heap[R]? = some (.cells (intsC is).toArray 3 (0, 0)) →
  Calls Try.prog 34 #[.int .i64 i, .pointer (some ⟨A, 0, none⟩), .pointer (some ⟨N, 0, none⟩), .pointer (some ⟨Q, 0, none⟩), .pointer (some ⟨D, 0, none⟩)] w fun e w' => e = .returned (.tuple #[]) ∧ Kept R w w' ∧ w'.heap[R]? = some (.cells (intsC (doubtF ns (rs.map (·.l)) f i is)).toArray 3 (0, 0))

theorem cntC_set_le : ∀ (l : List Int) (i : Nat), cntC (l.set i 2) ≤ cntC l
  | [], i => by simp [cntC]
  | v :: l, 0 => by simp [cntC]
  | v :: l, i + 1 => by
    have := cntC_set_le l i
    simp only [List.set_cons_succ, cntC]; omega
theorem doubt_keeps (ns : List Nd) (rd : List (List Int)) : ∀ (f : Nat) (i : Int) (is : List Int), (doubtF ns rd f i is).length = is.length ∧ cntC (doubtF ns rd f i is) ≤ cntC is ∧ (TriL is → TriL (doubtF ns rd f i is))
  | 0, i, is => ⟨rfl, Nat.le_refl _, id⟩
  | f + 1, i, is => by
    unfold doubtF
    split
    · exact ⟨rfl, Nat.le_refl _, id⟩
    split
    · have : ∀ (l : List Int) (s : List Int), (l.foldl (fun s r => doubtF ns rd f r s) s).length = s.length ∧ cntC (l.foldl (fun s r => doubtF ns rd f r s) s) ≤ cntC s ∧ (TriL s → TriL (l.foldl (fun s r => doubtF ns rd f r s) s)) := by
        intro l
        induction l with
        | nil => intro s; exact ⟨rfl, Nat.le_refl _, id⟩
        | cons r l ih =>
          intro s
          obtain ⟨a, b, c⟩ := ih (doubtF ns rd f r s)
          obtain ⟨a', b', c'⟩ := doubt_keeps ns rd f r s
          exact ⟨a.trans a', Nat.le_trans b b', fun h => c (c' h)⟩
      obtain ⟨a, b, c⟩ := this (rdAt rd i.toNat) (is.set i.toNat 2)
      exact ⟨by rw [a, List.length_set], Nat.le_trans b (cntC_set_le _ _), fun h => c (h.set _)⟩
    · exact ⟨rfl, Nat.le_refl _, id⟩

theorem foldD_keeps (ns : List Nd) (rd : List (List Int)) (f : Nat) : ∀ (l s : List Int), (l.foldl (fun s r => doubtF ns rd f r s) s).length = s.length ∧ cntC (l.foldl (fun s r => doubtF ns rd f r s) s) ≤ cntC s ∧ (TriL s → TriL (l.foldl (fun s r => doubtF ns rd f r s) s))
  | [], s => ⟨rfl, Nat.le_refl _, id⟩
  | r :: l, s => by
    obtain ⟨a, b, c⟩ := foldD_keeps ns rd f l (doubtF ns rd f r s)
    obtain ⟨a', b', c'⟩ := doubt_keeps ns rd f r s
    exact ⟨a.trans a', Nat.le_trans b b', fun h => c (c' h)⟩

set_option maxRecDepth 100000 in
set_option maxHeartbeats 1600000 in
theorem doubt_open {B A N Q D R RB : Nat} {na : Option Addr} {nc : Nat} {ns : List Nd} {rs : List Rw} (i : Nat) (is : List Int) (w : World) (hi : i < ns.length) (hlen : is.length = ns.length) (v2 : outAt is i = 2) (henv : DEnv B w A N Q D R RB na nc ns rs) (hR : w.heap[R]? = some (.cells (intsC is).toArray 3 (0, 0))) :
    Calls Try.prog 34 #[.int .i64 i, .pointer (some ⟨A, 0, none⟩), .pointer (some ⟨N, 0, none⟩), .pointer (some ⟨Q, 0, none⟩), .pointer (some ⟨D, 0, none⟩)] w fun e w' => e = .returned (.tuple #[]) ∧ Kept R w w' ∧ w'.heap[R]? = some (.cells (intsC is).toArray 3 (0, 0)) := by
  have ci := ints_cellN hR (show i < is.length by omega)
  rw [v2] at ci
  obtain ⟨b0, b1, b2, b3⟩ := henv.box
  have hii : (i : Int) < (ns.length : Int) := by omega
  have HR := hide hR
  clear henv hR v2 hlen hi
  go_enter Try.func34, Try.ntmps34
  go_wp2_with fail
  go_region
  go_wp2_with fail
  refine bodyPost_ret (results_none rfl _ _ _) rfl ?_
  exact ⟨rfl, Kept.of (Below.refl _ _).drew, HR.out⟩

set_option maxRecDepth 100000 in
set_option maxHeartbeats 3200000 in
theorem doubt_held {B A N Q D R RB : Nat} {na : Option Addr} {nc : Nat} {given : Int} {ns : List Nd} {os : List Int} {rs : List Rw} (hr : RightP given ns os) (i : Nat) (is : List Int) (w : World) (hi : i < ns.length) (hlen : is.length = ns.length) (v2 : outAt is i ≠ 2) (v3 : nowK (ndAt ns i) is ≠ 2) (ht : TriL is) (henv : DEnv B w A N Q D R RB na nc ns rs) (hR : w.heap[R]? = some (.cells (intsC is).toArray 3 (0, 0))) :
    Calls Try.prog 34 #[.int .i64 i, .pointer (some ⟨A, 0, none⟩), .pointer (some ⟨N, 0, none⟩), .pointer (some ⟨Q, 0, none⟩), .pointer (some ⟨D, 0, none⟩)] w fun e w' => e = .returned (.tuple #[]) ∧ Kept R w w' ∧ w'.heap[R]? = some (.cells (intsC is).toArray 3 (0, 0)) := by
  have ci := ints_cellN hR (show i < is.length by omega)
  have hv2 : (outAt is i == 2) = false := by simp [v2]
  have hv3 : (nowK (ndAt ns i) is != 2) = true := by simp [v3]
  obtain ⟨b0, b1, b2, b3⟩ := henv.box
  obtain ⟨bb, off, rfl, _, hbl, n0, n1, n2, n3⟩ := henv.nodes.nodes hi
  have hii : (i : Int) < (ns.length : Int) := by omega
  have HR := hide hR
  have HRN := hr.nodes i hi
  have HCN : Hid (∀ d os, Calls Try.prog 32 #[.agg #[.int .i64 (ndAt ns i).op, .int .i64 (ndAt ns i).a, .int .i64 (ndAt ns i).b, .int .i64 (ndAt ns i).next], .slice (some ⟨R, 0, none⟩) ns.length ns.length] (Sort.grow (redrawn w d) os) fun e w'' => e = .returned (.int .i64 (nowK (ndAt ns i) is)) ∧ ∃ p : Regrown, w'' = Sort.grow (redrawn w p.d) p.os) :=
    hide fun d os => Calls.regrown_of (by
      have := now_at (ndAt ns i) given ns.length i R is (Sort.grow (redrawn w d) os) (Below.blk (below_regrown w d os) hR) HRN (by omega) (by omega) (fun j hj => ht j (by omega))
      rw [hlen] at this
      exact this)
  have q0 := cell_regrown b0
  have q1 := cell_regrown b1
  have q2 := cell_regrown ci
  have m0 := cell_regrown n0
  have m1 := cell_regrown n1
  have m2 := cell_regrown n2
  have m3 := cell_regrown n3
  clear henv hR v2 v3 hlen hi ht HRN hr
  generalize nowK (ndAt ns i) is = nk at *
  generalize outAt is i = vi at *
  generalize ndAt ns i = x at *
  obtain ⟨op, a, b, nx⟩ := x
  simp only at *
  go_enter Try.func34, Try.ntmps34
  go_wp2_with fail
  refine wp_region_quiet_below (by kernel_rfl) (by kernel_rfl) ?_
  repeat (quiet_step (with_reducible exact HCN.out _ _))
  refine wpQuiet_nil ?_
  intro _ hw'
  obtain ⟨⟨dq, osq⟩, hw''⟩ := hw'
  subst hw''
  have HB4 := hide (below_regrown w dq osq)
  clear q0 q1 q2 m0 m1 m2 m3 HCN
  go_wp2_with fail
  refine bodyPost_ret (results_none rfl _ _ _) rfl ?_
  exact ⟨rfl, Kept.of HB4.out, Below.blk HB4.out HR.out⟩

theorem foldl_take (g : List Int → Int → List Int) (l : List Int) (s : List Int) (m : Nat) (h : m < l.length) : (l.take (m + 1)).foldl g s = g ((l.take m).foldl g s) (outAt l m) := by
  have : outAt l m = l[m] := by simp [outAt, h]
  rw [List.take_succ_eq_append_getElem h, List.foldl_append, this]; rfl
theorem mine_short {e size B : Nat} {w : World} {v : Value} {n : Nat} {xs : List Value} (h : Mine e size B w v n xs) : n ≤ maxLen := by
  rcases h.own.2 with ⟨_, h0⟩ | ⟨g, cap, cur, _, _, _, h1, h2, _⟩
  · rw [h0]; exact Nat.zero_le _
  · exact Nat.le_trans h1 h2
/-- so far among those that read it -/
structure Dng (R : Nat) (w : World) (is : List Int) (wr : World) : Prop where
  kept : Kept R w wr
  row : wr.heap[R]? = some (.cells (intsC is).toArray 3 (0, 0))

set_option maxRecDepth 100000 in
set_option maxHeartbeats 3200000 in
theorem doubt_go {B A N Q D R RB : Nat} {na : Option Addr} {nc : Nat} {given : Int} {ns : List Nd} {os : List Int} {rs : List Rw} (hr : RightP given ns os) (hin : ∀ (j : Nat) (r : Rw), rs[j]? = some r → ∀ m, m < r.l.length → ∃ q : Nat, q < ns.length ∧ outAt r.l m = q) (hrl : rs.length = ns.length) (f : Nat) (IH : DoubtOK B A N Q D R RB na nc given ns os rs f)
    (i : Nat) (is : List Int) (w : World) (hi : i < ns.length) (hlen : is.length = ns.length) (hcnt : cntC is ≤ f + 1) (v2 : outAt is i ≠ 2) (v3 : nowK (ndAt ns i) is = 2) (ht : TriL is) (henv : DEnv B w A N Q D R RB na nc ns rs) (hR : w.heap[R]? = some (.cells (intsC is).toArray 3 (0, 0))) :
    Calls Try.prog 34 #[.int .i64 i, .pointer (some ⟨A, 0, none⟩), .pointer (some ⟨N, 0, none⟩), .pointer (some ⟨Q, 0, none⟩), .pointer (some ⟨D, 0, none⟩)] w fun e w' => e = .returned (.tuple #[]) ∧ Kept R w w' ∧ w'.heap[R]? = some (.cells (intsC (doubtF ns (rs.map (·.l)) (f + 1) i is)).toArray 3 (0, 0)) := by
  obtain ⟨⟨rna, rnc, rl⟩, hrj⟩ := at_some hrl hi
  have hd : doubtF ns (rs.map (·.l)) (f + 1) i is = rl.foldl (fun s q => doubtF ns (rs.map (·.l)) f q s) (is.set i 2) := by
    have e : rdAt (rs.map (·.l)) i = rl := by simp [rdAt, hrj]
    rw [doubtF, kAt_n, if_neg v2, Int.toNat_natCast, if_pos v3, e]
  rw [hd]
  clear hd
  have ci := ints_cellN hR (show i < is.length by omega)
  have hv2 : (outAt is i == 2) = false := by simp [v2]
  have hv3 : (nowK (ndAt ns i) is != 2) = false := by simp [v3]
  have b0 := henv.box.a
  have b1 := henv.box.b
  obtain ⟨bb, off, rfl, _, hbl, n0, n1, n2, n3⟩ := henv.nodes.nodes hi
  have hii : (i : Int) < (ns.length : Int) := by omega
  have HR := hide hR
  have HENV := hide henv
  have HIH := hide IH
  have HIN := hide (hin i _ hrj)
  have HRJ := hide hrj
  have HRN := hr.nodes i hi
  have HIL : Hid (i < is.length) := hide (by omega)
  have HK1 : Hid (cntC (is.set i 2) ≤ f) := hide (by have := cntC_set is i (by omega) v2; omega)
  have HT1 := hide (ht.set i)
  have HL1 : Hid ((is.set i 2).length = ns.length) := hide (by rw [List.length_set]; exact hlen)
  have HCN : Hid (∀ d os, Calls Try.prog 32 #[.agg #[.int .i64 (ndAt ns i).op, .int .i64 (ndAt ns i).a, .int .i64 (ndAt ns i).b, .int .i64 (ndAt ns i).next], .slice (some ⟨R, 0, none⟩) ns.length ns.length] (Sort.grow (redrawn w d) os) fun e w'' => e = .returned (.int .i64 (nowK (ndAt ns i) is)) ∧ ∃ p : Regrown, w'' = Sort.grow (redrawn w p.d) p.os) :=
    hide fun d os => Calls.regrown_of (by
      have := now_at (ndAt ns i) given ns.length i R is (Sort.grow (redrawn w d) os) (Below.blk (below_regrown w d os) hR) HRN (by omega) (by omega) (fun j hj => ht j (by omega))
      rw [hlen] at this
      exact this)
  have q0 := cell_regrown b0
  have q1 := cell_regrown b1
  have q2 := cell_regrown ci
  have m0 := cell_regrown n0
  have m1 := cell_regrown n1
  have m2 := cell_regrown n2
  have m3 := cell_regrown n3
  clear henv hR v2 v3 hlen hi ht HRN hr hin hcnt IH hrj
  generalize nowK (ndAt ns i) is = nk at *
  generalize hvi : outAt is i = vi at *
  have HVI := hide hvi
  clear hvi
  generalize ndAt ns i = x at *
  obtain ⟨op, a, b, nx⟩ := x
  simp only at *
  go_enter Try.func34, Try.ntmps34
  go_wp2_with fail
  refine wp_region_quiet_below (by kernel_rfl) (by kernel_rfl) ?_
  repeat (quiet_step (with_reducible exact HCN.out _ _))
  refine wpQuiet_nil ?_
  intro _ hw'
  obtain ⟨⟨dq, osq⟩, hw''⟩ := hw'
  subst hw''
  have HB4 := hide (below_regrown w dq osq)
  clear q0 q1 q2 m0 m1 m2 m3 HCN ci b0 b1 n0 n1 n2 n3
  generalize Sort.grow (redrawn w dq) osq = w1 at *
  have HE1 := hide (HENV.out.kept (Kept.of HB4.out))
  have HR1 := hide (Below.blk HB4.out HR.out)
  have HSET : Hid ((w1.setCell ⟨R, i, none⟩ (.int .i64 2)).heap[R]? = some (.cells (intsC (is.set i 2)).toArray 3 (0, 0))) := hide (by
    rw [blk_set HR1.out]; simp [intsC, List.map_set])
  have HKS : Hid (Kept R w (w1.setCell ⟨R, i, none⟩ (.int .i64 2))) := hide ((Kept.of HB4.out).step i _)
  have HE2 := hide (HENV.out.kept HKS.out)
  have b0 := HE1.out.box.a
  have c2 := HE2.out.box.c
  have c3 := rw_cell HE2.out.rows.outer HRJ.out
  have fz : w1.frozen? ⟨R, i, none⟩ = false := blk_frozen HR1.out i
  have ciw : w1.cell? ⟨R, i, none⟩ = some (.int .i64 vi) := by rw [← HVI.out]; exact ints_cellN HR1.out HIL.out
  go_wp2_with fail
  clear b0 c2 c3 fz ciw
  generalize w1.setCell ⟨R, i, none⟩ (.int .i64 2) = w2 at *
  have HST : Hid (Dng R w ((rl.take 0).foldl (fun s q => doubtF ns (rs.map (·.l)) f q s) (is.set i 2)) w2) := hide ⟨HKS.out, HSET.out⟩
  have hrm : (rl.length : Int) ≤ 9223372036854775807 := by have := mine_short (HENV.out.rows.inner i _ HRJ.out); simp only [maxLen] at this; omega
  go_loopw [7, 30] (fun _ j wr => ∃ m : Nat, m ≤ rl.length ∧ j = .int .i64 m ∧ Hid (Dng R w ((rl.take m).foldl (fun s q => doubtF ns (rs.map (·.l)) f q s) (is.set i 2)) wr)) (fun _ j _ => rl.length - (intOf j).toNat)
  case atStart => exact ⟨0, Nat.zero_le _, rfl, HST⟩
  case round =>
    obtain ⟨m, hm, rfl, hc⟩ := hrel
    by_cases hlt : m < rl.length
    · have hmi : (m : Int) < (rl.length : Int) := by omega
      have HEr := hide (HENV.out.kept hc.out.kept)
      obtain ⟨q, hq, hqe⟩ := HIN.out m hlt
      obtain ⟨bq, oq, ha, _, _, cq⟩ := ((HEr.out.rows.inner i _ HRJ.out).lies (S := AnyB) fun _ _ => trivial).ints hlt
      rw [show outAt rl m = (q : Int) from hqe] at cq
      have HA : Hid (rna = some ⟨bq, oq, none⟩) := hide ha
      have dD := HEr.out.box.d
      have HFK := hide (foldD_keeps ns (rs.map (·.l)) f (rl.take m) (is.set i 2))
      have HCD := hide (HIH.out q _ wr hq (by rw [HFK.out.1]; exact HL1.out) (Nat.le_trans HFK.out.2.1 HK1.out) (HFK.out.2.2 HT1.out) HEr.out hc.out.row)
      have HNX : Hid ((rl.take (m + 1)).foldl (fun s q => doubtF ns (rs.map (·.l)) f q s) (is.set i 2) = doubtF ns (rs.map (·.l)) f q ((rl.take m).foldl (fun s q => doubtF ns (rs.map (·.l)) f q s) (is.set i 2))) := hide (by
        rw [foldl_take _ _ _ _ hlt, show outAt rl m = (q : Int) from hqe])
      rw [HA.out]
      clear ha hqe
      go_wp2_with fail
      refine HCD.out.mono ?_
      rintro e w3 ⟨rfl, hk3, hr3⟩
      have HD3 := hide (Dng.mk (hc.out.kept.trans hk3) hr3)
      clear hk3 hr3 HCD dD cq
      go_wp2_with fail
      exact ⟨⟨m + 1, by omega, by go_num, by rw [HNX.out]; exact HD3⟩, by simp [intOf]; omega⟩
    · have hmi : ¬ (m : Int) < (rl.length : Int) := by omega
      obtain rfl : m = rl.length := by omega
      go_wp2_with fail
      go_end0
      have h := hc.out.row
      rw [List.take_length] at h
      exact ⟨rfl, hc.out.kept, h⟩

theorem doubt_all {B A N Q D R RB : Nat} {na : Option Addr} {nc : Nat} {given : Int} {ns : List Nd} {os : List Int} {rs : List Rw} (hr : RightP given ns os) (hin : ∀ (j : Nat) (r : Rw), rs[j]? = some r → ∀ m, m < r.l.length → ∃ q : Nat, q < ns.length ∧ outAt r.l m = q) (hrl : rs.length = ns.length) : ∀ f, DoubtOK B A N Q D R RB na nc given ns os rs f
  | 0 => by
    intro i is w hi hlen hcnt ht henv hR
    have v2 : outAt is i = 2 := by
      rcases Classical.em (outAt is i = 2) with h | h
      · exact h
      · have := cntC_set is i (by omega) h; omega
    exact doubt_open i is w hi hlen v2 henv hR
  | f + 1 => by
    intro i is w hi hlen hcnt ht henv hR
    by_cases v2 : outAt is i = 2
    · rw [show doubtF ns (rs.map (·.l)) (f + 1) i is = is by rw [doubtF, kAt_n, if_pos v2]]
      exact doubt_open i is w hi hlen v2 henv hR
    by_cases v3 : nowK (ndAt ns i) is = 2
    · exact doubt_go hr hin hrl f (doubt_all hr hin hrl f) i is w hi hlen hcnt v2 v3 ht henv hR
    · rw [show doubtF ns (rs.map (·.l)) (f + 1) i is = is by rw [doubtF, kAt_n, if_neg v2, Int.toNat_natCast, if_neg v3]]
      exact doubt_held hr i is w hi hlen v2 v3 ht henv hR
end Go.Proofs.Ytlnmemeejgnbeaa
