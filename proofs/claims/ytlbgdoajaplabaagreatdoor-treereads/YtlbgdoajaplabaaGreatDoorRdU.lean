/-
  WHAT the two readers come to, both ways at once: what is read (nothing, if something is wrong), and what is wrong; and sameDecls.
-/
import Derived.Test.YtlbgdoajaplabaaGreatDoorRDeclA
import Derived.Test.YtlbgdoajaplabaaGreatDoorJRound
import Derived.Test.YtlbgdoajaplabaaGreatDoorJAs
namespace Go.Proofs.YtlbgdoajaplabaaGreatDoor
open Go.RowKit
set_option linter.unusedSimpArgs false
set_option linter.unusedVariables false

theorem de_cell {S : Nat → Prop} {w : World} {l : List De} {v : Value} (h : IsDes S w l v) {g cap m : Nat} (hv : v = .slice (some ⟨g, 0, none⟩) m cap) {j : Nat} (hj : j < l.length) {k : Nat} {u : Value} (hk : (deCells l[j])[k]? = some u) (h4 : k < 4) : w.cell? ⟨g, j * 4 + k, none⟩ = some u := by
  have flat4 : ∀ (cs : List De) (i k : Nat) (hi : i < cs.length), k < 4 → (cs.flatMap deCells)[i * 4 + k]? = (deCells cs[i])[k]? := by
    intro cs
    induction cs with
    | nil => intro i k hi; simp at hi
    | cons d cs ih =>
      intro i k hi hk
      have hd : (deCells d).length = 4 := rfl
      rw [List.flatMap_cons]
      cases i with
      | zero => rw [List.getElem?_append_left (by omega)]; simp
      | succ i =>
        rw [show (i + 1) * 4 + k = (deCells d).length + (i * 4 + k) by rw [hd]; omega, List.getElem?_append_right (by omega), Nat.add_sub_cancel_left, ih i k (by simpa using hi) hk]
        simp
  subst hv
  have := h.1.cells (g := g) rfl (j * 4 + k) u (by rw [flat4 l j k hj h4]; exact hk)
  unfold Addr.add at this
  split at this
  · rename_i e; rw [e]; exact this
  · simpa using this
theorem de_addr {S : Nat → Prop} {w : World} {l : List De} {v : Value} (h : IsDes S w l v) (hn : 0 < l.length) : ∃ g cap : Nat, v = .slice (some ⟨g, 0, none⟩) l.length cap ∧ S g := by
  rcases h.1.2 with ⟨rfl, h0⟩ | ⟨g, cap, cur, rfl, _⟩
  · omega
  · exact ⟨g, cap, rfl, h.2 g rfl⟩

theorem de_ne (n : ByteArray) (a b c : Int) (w : World) : (binOp .neq 64 (.agg #[.string n, .int .i64 a, .int .i64 b, .int .i64 c]) (.agg #[.string n, .int .i64 a, .int .i64 b, .int .i64 c])).run Tryz.prog w = .ok (.bool false) w := by
  simp [go_sem]

set_option maxRecDepth 100000 in
set_option maxHeartbeats 3200000 in
theorem sameDecls_at (ds : List De) (hl : ds.length ≤ 1000) (S S' : Nat → Prop) (w : World) (va vb : Value) (ha : IsDes S w ds va) (hb : IsDes S' w ds vb) :
    Calls Tryz.prog 7 #[va, vb] w fun e w' => e = .returned (.bool true) ∧ Below w.heap.size w w' := by
  obtain ⟨ao, ac, rfl⟩ := ha.val
  obtain ⟨bo, bc, rfl⟩ := hb.val
  have HA := hide ha
  have HB := hide hb
  have hne := de_ne
  clear ha hb
  go_enter Tryz.func7, Tryz.ntmps7
  go_wp2_with fail
  go_loopw [5] (fun i wr => ∃ j : Nat, j ≤ ds.length ∧ i = .int .i64 j ∧ Hid (Below w.heap.size w wr)) (fun i _ => ds.length - (intOf i).toNat)
  case atStart => exact ⟨0, Nat.zero_le _, rfl, hide (Below.refl _ _)⟩
  case round =>
    obtain ⟨j, hj, rfl, hbw⟩ := hrel
    by_cases hlt : j < ds.length
    · have hji : (j : Int) < (ds.length : Int) := by omega
      obtain ⟨g, cap', hv, hSg⟩ := de_addr HA.out (by omega)
      obtain ⟨rfl, rfl⟩ : ao = some ⟨g, 0, none⟩ ∧ ac = cap' := by cases hv; exact ⟨rfl, rfl⟩
      obtain ⟨g2, cap2, hv2, hSg2⟩ := de_addr HB.out (by omega)
      obtain ⟨rfl, rfl⟩ : bo = some ⟨g2, 0, none⟩ ∧ bc = cap2 := by cases hv2; exact ⟨rfl, rfl⟩
      have HDW : Hid (IsDes S wr.drew ds (.slice (some ⟨g, 0, none⟩) ds.length ac)) := hide (IsRow.same HA.out fun c h1 h2 => hbw.out.drew.block c h2)
      have HDV : Hid (IsDes S' wr.drew ds (.slice (some ⟨g2, 0, none⟩) ds.length bc)) := hide (IsRow.same HB.out fun c h1 h2 => hbw.out.drew.block c h2)
      have r0 : wr.drew.cell? ⟨g, j * 4, none⟩ = some (.string ds[j].name) := de_cell HDW.out rfl hlt (k := 0) rfl (by decide)
      have r1 : wr.drew.cell? ⟨g, j * 4 + 1, none⟩ = some (.int .i64 ds[j].way) := de_cell HDW.out rfl hlt (k := 1) rfl (by decide)
      have r2 : wr.drew.cell? ⟨g, j * 4 + 2, none⟩ = some (.int .i64 ds[j].ty) := de_cell HDW.out rfl hlt (k := 2) rfl (by decide)
      have r3 : wr.drew.cell? ⟨g, j * 4 + 3, none⟩ = some (.int .i64 ds[j].init) := de_cell HDW.out rfl hlt (k := 3) rfl (by decide)
      have s0 : wr.drew.cell? ⟨g2, j * 4, none⟩ = some (.string ds[j].name) := de_cell HDV.out rfl hlt (k := 0) rfl (by decide)
      have s1 : wr.drew.cell? ⟨g2, j * 4 + 1, none⟩ = some (.int .i64 ds[j].way) := de_cell HDV.out rfl hlt (k := 1) rfl (by decide)
      have s2 : wr.drew.cell? ⟨g2, j * 4 + 2, none⟩ = some (.int .i64 ds[j].ty) := de_cell HDV.out rfl hlt (k := 2) rfl (by decide)
      have s3 : wr.drew.cell? ⟨g2, j * 4 + 3, none⟩ = some (.int .i64 ds[j].init) := de_cell HDV.out rfl hlt (k := 3) rfl (by decide)
      generalize ds[j] = d at *
      obtain ⟨dn, way, ty, init⟩ := d
      simp only at r0 r1 r2 r3 s0 s1 s2 s3
      clear hv hv2
      go_wp2_with fail
      go_region
      go_wp2_with fail
      exact ⟨⟨j + 1, by omega, by go_num, hbw.out.drew⟩, by simp [intOf]; omega⟩
    · have hji : ¬ (j : Int) < (ds.length : Int) := by omega
      go_wp2_with fail
      go_ret
      exact ⟨rfl, hbw.out⟩

/-- the listed handle -/
abbrev Hdl2 (w : World) : Prop := w.cell? ⟨5, 0, none⟩ = some (.iface 163 (.agg #[.pointer (some ⟨14, 32, none⟩)]))
/-- what is asked of the listed variables -/
structure Env (w : World) : Prop where
  vars : Vars w
  rvars : RVars w
  hdl : Hdl2 w
  big : 12 ≤ w.heap.size
theorem Env.below {w w' : World} (h : Env w) (hb : Below w.heap.size w w') : Env w' := ⟨h.vars.below hb, h.rvars.below hb, (hb.cell (cell_lt h.hdl)).trans h.hdl, Nat.le_trans h.big hb.size⟩

def outP (r : Res (List De × List St)) : List De × List St × Int × Int := match r with | .ok p _ => (p.1, p.2, 0, -1) | .bad e p => ([], [], e, p) | .out => ([], [], 0, 0)
def outD (r : Res (List De)) : List De × Int × Int := match r with | .ok l _ => (l, 0, -1) | .bad e p => ([], e, p) | .out => ([], 0, 0)

def RParsedU (w : World) (q : List De × List St × Int × Int) (e : Ending) (w' : World) : Prop :=
  Below w.heap.size w w' ∧ ∃ (da ba : Option Addr) (dc bc : Nat), e = .returned (.tuple #[.agg #[.slice da q.1.length dc, .slice ba q.2.1.length bc], .agg #[.int .i64 q.2.2.1, .int .i64 q.2.2.2]]) ∧ IsDes (From w.heap.size) w' q.1 (.slice da q.1.length dc) ∧ IsSts (From w.heap.size) w' q.2.1 (.slice ba q.2.1.length bc)
/-- an error is this one, and there -/
def ErrOK (w : World) (ev : Value) (a b : Int) : Prop := ∀ W, Below w.heap.size w W → Calls Tryz.prog 6 #[ev, .agg #[.int .i64 a, .int .i64 b]] W fun e w' => e = .returned (.bool true) ∧ Below W.heap.size W w'
theorem ErrOK.below {w w' : World} {ev : Value} {a b : Int} (h : ErrOK w ev a b) (hb : Below w.heap.size w w') : ErrOK w' ev a b := fun W hW => h W (Below.step hb hW)
def ParsedU (w : World) (q : List De × List St × Int × Int) (e : Ending) (w' : World) : Prop :=
  Below w.heap.size w w' ∧ ∃ (da ba : Option Addr) (dc bc : Nat) (ev : Value), e = .returned (.tuple #[.agg #[.slice da q.1.length dc, .slice ba q.2.1.length bc], ev]) ∧ IsDes (From w.heap.size) w' q.1 (.slice da q.1.length dc) ∧ IsSts (From w.heap.size) w' q.2.1 (.slice ba q.2.1.length bc) ∧ ErrOK w' ev q.2.2.1 q.2.2.2
def RDParsedU (w : World) (q : List De × Int × Int) (e : Ending) (w' : World) : Prop :=
  Below w.heap.size w w' ∧ ∃ (da : Option Addr) (dc : Nat), e = .returned (.tuple #[.slice da q.1.length dc, .agg #[.int .i64 q.2.1, .int .i64 q.2.2]]) ∧ IsDes (From w.heap.size) w' q.1 (.slice da q.1.length dc)
def DParsedU (w : World) (q : List De × Int × Int) (e : Ending) (w' : World) : Prop :=
  Below w.heap.size w w' ∧ ∃ (da : Option Addr) (dc : Nat) (ev : Value), e = .returned (.tuple #[.slice da q.1.length dc, ev]) ∧ IsDes (From w.heap.size) w' q.1 (.slice da q.1.length dc) ∧ ErrOK w' ev q.2.1 q.2.2

theorem prRep_2 {N : Nat} {w : World} {v : Value} {p : List De × List St} (h : PrRep N w v p) : ∃ (aa : Option Addr) (ac : Nat) (ba : Option Addr) (bc : Nat), v = .agg #[.slice aa p.1.length ac, .slice ba p.2.length bc] ∧ IsDes (From N) w p.1 (.slice aa p.1.length ac) ∧ IsSts (From N) w p.2 (.slice ba p.2.length bc) := by
  obtain ⟨a, b, rfl, h1, h2⟩ := h
  obtain ⟨aa, ac, rfl⟩ := h1.val
  obtain ⟨ba, bc, rfl⟩ := (show ∃ (x : Option Addr) (k : Nat), b = .slice x p.2.length k from by obtain ⟨cs, hr, _⟩ := h2; exact hr.val)
  exact ⟨aa, ac, ba, bc, rfl, h1, h2⟩
theorem err_nil (w : World) : ErrOK w .nilIface 0 (-1) := fun W _ => is_nil 0 (-1) W
theorem err_at {w : World} (h : Hdl2 w) (A p : Nat) (er : Int) (hA : w.heap[A]? = some (.cells #[.int .i64 er, .int .i64 p] 102 (0, 0))) : ErrOK w (.iface 93 (.pointer (some ⟨A, 0, none⟩))) er p := fun W hb =>
  (is_at A p er er p W ((hb.cell (cell_lt h)).trans h) (Below.blk hb hA)).mono fun e w' q => ⟨by rw [q.1]; simp, q.2⟩

theorem rparse_u (s : ByteArray) (w : World) (hs : s.size ≤ 100000) (h : Env w) : Calls Tryz.prog 4 #[.string s] w (RParsedU w (outP (parse2 s))) := by
  refine (rparse_at s w (by omega) h.rvars h.big).mono ?_
  rintro e w' ⟨hb, hr⟩
  refine ⟨hb, ?_⟩
  cases hp : parse2 s with
  | out => rw [hp] at hr; exact hr.elim
  | bad er p => rw [hp] at hr; exact ⟨none, none, 0, 0, hr, IsRow.nil .., IsSts.nil _ _⟩
  | ok p k =>
    rw [hp] at hr
    obtain ⟨v, rfl, hv⟩ := hr
    obtain ⟨aa, ac, ba, bc, rfl, h1, h2⟩ := prRep_2 hv
    exact ⟨aa, ba, ac, bc, rfl, h1, h2⟩
theorem parse_u (s : ByteArray) (w : World) (hs : s.size ≤ 100000) (h : Env w) : Calls Tryz.prog 5 #[.string s] w (ParsedU w (outP (parse2 s))) := by
  refine (parse_at s w (by omega) h.vars h.big).mono ?_
  rintro e w' ⟨hb, hr⟩
  refine ⟨hb, ?_⟩
  cases hp : parse2 s with
  | out => rw [hp] at hr; exact hr.elim
  | bad er p =>
    rw [hp] at hr
    obtain ⟨A, he, hA⟩ := hr
    exact ⟨none, none, 0, 0, _, he, IsRow.nil .., IsSts.nil _ _, err_at (h.below hb).hdl A p er hA⟩
  | ok p k =>
    rw [hp] at hr
    obtain ⟨v, rfl, hv⟩ := hr
    obtain ⟨aa, ac, ba, bc, rfl, h1, h2⟩ := prRep_2 hv
    exact ⟨aa, ba, ac, bc, _, rfl, h1, h2, err_nil w'⟩
theorem rdecls_u (s : ByteArray) (w : World) (hs : s.size ≤ 100000) (h : Env w) : Calls Tryz.prog 13 #[.string s] w (RDParsedU w (outD (decls2 s))) := by
  refine (rdeclsA_at s w (by omega) h.rvars h.big).mono ?_
  rintro e w' ⟨hb, hr⟩
  refine ⟨hb, ?_⟩
  cases hp : decls2 s with
  | out => rw [hp] at hr; exact hr.elim
  | bad er p => rw [hp] at hr; exact ⟨none, 0, hr, IsRow.nil ..⟩
  | ok p k =>
    rw [hp] at hr
    obtain ⟨v, rfl, hv⟩ := hr
    obtain ⟨aa, ac, rfl⟩ := hv.val
    exact ⟨aa, ac, rfl, hv⟩
theorem decls_u (s : ByteArray) (w : World) (hs : s.size ≤ 100000) (h : Env w) : Calls Tryz.prog 14 #[.string s] w (DParsedU w (outD (decls2 s))) := by
  refine (tdecls_at s w (by omega) h.vars h.big).mono ?_
  rintro e w' ⟨hb, hr⟩
  refine ⟨hb, ?_⟩
  cases hp : decls2 s with
  | out => rw [hp] at hr; exact hr.elim
  | bad er p =>
    rw [hp] at hr
    obtain ⟨A, he, hA⟩ := hr
    exact ⟨none, 0, _, he, IsRow.nil .., err_at (h.below hb).hdl A p er hA⟩
  | ok p k =>
    rw [hp] at hr
    obtain ⟨v, rfl, hv⟩ := hr
    obtain ⟨aa, ac, rfl⟩ := hv.val
    exact ⟨aa, ac, _, rfl, hv, err_nil w'⟩

theorem outP_same {s : ByteArray} (hs : s.size ≤ 100000) : SSs (outP (parse2 s)).2.1 ∧ (outP (parse2 s)).1.length ≤ 1000 := by
  cases hp : parse2 s with
  | out => exact ⟨sameNone, Nat.zero_le _⟩
  | bad e p => exact ⟨sameNone, Nat.zero_le _⟩
  | ok p k =>
    have h := sameSts_parse hs p k hp
    exact ⟨h.1, by have := h.2; show p.1.length ≤ 1000; omega⟩
theorem outD_small {s : ByteArray} (hs : s.size ≤ 100000) : (outD (decls2 s)).1.length ≤ 1000 := by
  cases hp : decls2 s with
  | out => exact Nat.zero_le _
  | bad e p => exact Nat.zero_le _
  | ok l k =>
    unfold decls2 at hp
    obtain ⟨ts, k0, e1, e2⟩ := bind_ok hp
    unfold wholeP at e2
    obtain ⟨q, k1, e3, e4⟩ := bind_ok e2
    split at e4
    · cases e4
      obtain ⟨hw, hsz⟩ := tokens_ok (by omega) e1
      have := (decls_inv hw _ 0 e3 (by simp) (by simp) (by simp [linesK])).2.1
      show l.length ≤ 1000
      omega
    · cases e4
end Go.Proofs.YtlbgdoajaplabaaGreatDoor
