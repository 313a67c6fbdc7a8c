/-
  PLAIN: what a plant is, and does; the maps that hold it.
-/
import Derived.Test.YtiimnnancblbkaaDoorVal
import Derived.Test.YtiimnnancblbkaaDoorJChk
set_option linter.unusedSimpArgs false
set_option linter.unusedVariables false
namespace Go.Proofs.YtiimnnancblbkaaDoor
open Go.RowKit

/-- a number of a type -/
abbrev Ty := Nat × Int
/-- a block: its kind, how far it counted, what it saw last, what it tells -/
structure Bk where
  kind : Nat
  n : Int
  saw : Bool
  q : Bool
abbrev Vs := List (ByteArray × Ty)
abbrev Ks := List (ByteArray × Bk)
def tyV (a : Ty) : Value := .agg #[.int .i64 a.1, .int .i64 a.2]
def bkV (b : Bk) : Value := .agg #[.int .i64 b.kind, .int .i64 b.n, .bool b.saw, .bool b.q]
def ty0 : Ty := (0, 0)
def bk0 : Bk := ⟨0, 0, false, false⟩

theorem bb_eq {s k : ByteArray} (h : (s == k) = true) : s = k := by
  rw [beq_toListBytes, beq_iff_eq, ByteArray.toList_eq, ByteArray.toList_eq] at h
  exact ByteArray.ext (Array.toList_inj.1 h)
theorem bb_refl (s : ByteArray) : (s == s) = true := by rw [beq_toListBytes]; simp
theorem modify_at {α : Type} (f : α → α) : ∀ (l : List α) (k : Nat) (x : α), l[k]? = some x → l.modify k f = l.set k (f x)
  | [], k, x, h => by simp at h
  | a :: l, 0, x, h => by simp at h; subst h; simp
  | a :: l, k + 1, x, h => by simp at h; simp [modify_at f l k x h]
def getA {α : Type} : List (ByteArray × α) → ByteArray → α → α
  | [], _, z => z
  | (k, a) :: l, s, z => if s == k then a else getA l s z
def putA {α : Type} : List (ByteArray × α) → ByteArray → α → List (ByteArray × α)
  | [], s, a => [(s, a)]
  | (k, b) :: l, s, a => if s == k then (s, a) :: l else (k, b) :: putA l s a
def mes {α : Type} (enc : α → Value) : Nat → List (ByteArray × α) → List MapEntry
  | _, [] => []
  | i, (k, a) :: l => ⟨.string k, enc a, i⟩ :: mes enc (i + 1) l

theorem mes_len {α : Type} (enc : α → Value) : ∀ (i : Nat) (l : List (ByteArray × α)), (mes enc i l).length = l.length
  | _, [] => rfl
  | i, (k, a) :: l => by simp [mes, mes_len enc (i + 1) l]
theorem mes_snoc {α : Type} (enc : α → Value) (s : ByteArray) (a : α) : ∀ (i : Nat) (l : List (ByteArray × α)), mes enc i (l ++ [(s, a)]) = mes enc i l ++ [⟨.string s, enc a, i + l.length⟩]
  | i, [] => by simp [mes]
  | i, (k, b) :: l => by
    simp only [List.cons_append, mes, mes_snoc enc s a (i + 1) l, List.length_cons]
    rw [show i + 1 + l.length = i + (l.length + 1) by omega]

/-- what is found of a name, and what comes of setting it -/
theorem find_mes {α : Type} (enc : α → Value) (s : ByteArray) (z a : α) : ∀ (l : List (ByteArray × α)) (i j : Nat),
    (Instr.findNow .string (.string s) (mes enc i l) j = some none ∧ getA l s z = z ∧ putA l s a = l ++ [(s, a)]) ∨
    ∃ k b, Instr.findNow .string (.string s) (mes enc i l) j = some (some (j + k, enc b)) ∧ k < l.length ∧ getA l s z = b ∧ (mes enc i l)[k]? = some ⟨.string s, enc b, i + k⟩ ∧ mes enc i (putA l s a) = (mes enc i l).set k ⟨.string s, enc a, i + k⟩ ∧ (putA l s a).length = l.length
  | [], i, j => .inl ⟨rfl, rfl, rfl⟩
  | (k, b) :: l, i, j => by
    by_cases h : (s == k) = true
    · refine .inr ⟨0, b, ?_, by simp, ?_, ?_, ?_, ?_⟩
      · simp [mes, Instr.findNow, Instr.sameNow, h]
      · simp [getA, h]
      · have e : s = k := bb_eq h
        simp [mes, e]
      · simp [putA, h, mes]
      · simp [putA, h]
    · have h' : (s == k) = false := by simpa using h
      rcases find_mes enc s z a l (i + 1) (j + 1) with ⟨h1, h2, h3⟩ | ⟨m, c, h1, h2, h3, h4, h5, h6⟩
      · refine .inl ⟨?_, ?_, ?_⟩
        · simp [mes, Instr.findNow, Instr.sameNow, h', h1]
        · simp [getA, h', h2]
        · simp [putA, h', h3]
      · refine .inr ⟨m + 1, c, ?_, by simp; omega, ?_, ?_, ?_, ?_⟩
        · simp only [mes, Instr.findNow, Instr.sameNow, h', h1]
          rw [show j + 1 + m = j + (m + 1) by omega]
        · simp [getA, h', h3]
        · simp only [mes, List.getElem?_cons_succ, h4]
          rw [show i + 1 + m = i + (m + 1) by omega]
        · simp only [putA, h', Bool.false_eq_true, if_false, mes, h5, List.set_cons_succ]
          rw [show i + 1 + m = i + (m + 1) by omega]
        · simp [putA, h', h6]

/-- a map, in memory -/
def MapAt {α : Type} (enc : α → Value) (w : World) (M : Nat) (l : List (ByteArray × α)) : Prop := w.heap[M]? = some (.map (mes enc 0 l).toArray l.length)

theorem look_ty {w : World} {M : Nat} {l : Vs} (h : MapAt tyV w M l) (s : ByteArray) :
    (Instr.lookup 51 (.map (some M)) (.string s) false).run Tryd.prog w = .ok (tyV (getA l s ty0)) w := by
  have h1 := fun b => key_ok' b s
  have h2 : (getObj M).run Tryd.prog w = .ok (.map (mes tyV 0 l).toArray l.length) w := by simp only [getObj, Sem.run, show w.heap[M]? = _ from h]
  rcases find_mes tyV s ty0 ty0 l 0 0 with ⟨e1, e2, _⟩ | ⟨k, b, e1, _, e3, _⟩
  · rw [e2]
    simp [Instr.lookup, go_sem, Instr.findKey, h1, h2, e1, tyV, ty0]
  · rw [e3]
    simp [Instr.lookup, go_sem, Instr.findKey, h1, h2, e1]
theorem look_bk {w : World} {M : Nat} {l : Ks} (h : MapAt bkV w M l) (s : ByteArray) :
    (Instr.lookup 52 (.map (some M)) (.string s) false).run Tryd.prog w = .ok (bkV (getA l s bk0)) w := by
  have h1 := fun b => key_ok' b s
  have h2 : (getObj M).run Tryd.prog w = .ok (.map (mes bkV 0 l).toArray l.length) w := by simp only [getObj, Sem.run, show w.heap[M]? = _ from h]
  rcases find_mes bkV s bk0 bk0 l 0 0 with ⟨e1, e2, _⟩ | ⟨k, b, e1, _, e3, _⟩
  · rw [e2]
    simp [Instr.lookup, go_sem, Instr.findKey, h1, h2, e1, bkV, bk0]
  · rw [e3]
    simp [Instr.lookup, go_sem, Instr.findKey, h1, h2, e1]
theorem stays (s : ByteArray) (w : World) : (Instr.keyThatStays (.string s) (.string s)).run Tryd.prog w = .ok (.string s) w := by
  have : Instr.sameBits 10000 (.string s) (.string s) = true := by simp [Instr.sameBits, bb_refl]
  simp [Instr.keyThatStays, go_sem, this]
theorem upd_ty {w : World} {M : Nat} {l : Vs} (h : MapAt tyV w M l) (s : ByteArray) (a : Ty) :
    (Instr.mapUpdate 51 (.map (some M)) (.string s) (tyV a)).run Tryd.prog w = .ok () (putObj w M (.map (mes tyV 0 (putA l s a)).toArray (putA l s a).length)) := by
  have h1 := key_ok' false s
  have h0 : w.heap[M]? = some (.map (mes tyV 0 l).toArray l.length) := h
  have h2 : (getObj M).run Tryd.prog w = .ok (.map (mes tyV 0 l).toArray l.length) w := by simp only [getObj, Sem.run, h0]
  have h3 : ∀ o, (setObj M o).run Tryd.prog w = .ok () (putObj w M o) := fun o => by simp only [setObj, Sem.run, h0, putObj]
  have h4 := stays s w
  rcases find_mes tyV s ty0 a l 0 0 with ⟨e1, _, e3⟩ | ⟨k, b, e1, e2, e3, e4, e5, e6⟩
  · rw [e3, mes_snoc]
    simp [Instr.mapUpdate, go_sem, Instr.findKey, h1, h2, h3, e1]
  · have e7 : ((mes tyV 0 l).modify k fun e => { e with key := .string s, val := tyV a }) = mes tyV 0 (putA l s a) := by
      rw [e5, modify_at _ _ _ _ e4]
    simp only [Nat.zero_add] at e1 e4
    simp [Instr.mapUpdate, go_sem, Instr.findKey, h1, h2, h3, e1, e4, h4, e6]
    rw [e7]
theorem upd_bk {w : World} {M : Nat} {l : Ks} (h : MapAt bkV w M l) (s : ByteArray) (a : Bk) :
    (Instr.mapUpdate 52 (.map (some M)) (.string s) (bkV a)).run Tryd.prog w = .ok () (putObj w M (.map (mes bkV 0 (putA l s a)).toArray (putA l s a).length)) := by
  have h1 := key_ok' false s
  have h0 : w.heap[M]? = some (.map (mes bkV 0 l).toArray l.length) := h
  have h2 : (getObj M).run Tryd.prog w = .ok (.map (mes bkV 0 l).toArray l.length) w := by simp only [getObj, Sem.run, h0]
  have h3 : ∀ o, (setObj M o).run Tryd.prog w = .ok () (putObj w M o) := fun o => by simp only [setObj, Sem.run, h0, putObj]
  have h4 := stays s w
  rcases find_mes bkV s bk0 a l 0 0 with ⟨e1, _, e3⟩ | ⟨k, b, e1, e2, e3, e4, e5, e6⟩
  · rw [e3, mes_snoc]
    simp [Instr.mapUpdate, go_sem, Instr.findKey, h1, h2, h3, e1]
  · have e7 : ((mes bkV 0 l).modify k fun e => { e with key := .string s, val := bkV a }) = mes bkV 0 (putA l s a) := by
      rw [e5, modify_at _ _ _ _ e4]
    simp only [Nat.zero_add] at e1 e4
    simp [Instr.mapUpdate, go_sem, Instr.findKey, h1, h2, h3, e1, e4, h4, e6]
    rw [e7]

/-- what a block's field is -/
def bitN (b : Bool) : Int := if b then 1 else 0
def fieldS (b : Bk) (f : ByteArray) : Ty := let k := fieldN b.kind f.toList; (k, if k = 1 then bitN b.q else if k = 2 then b.n else 0)
def timerS (b : Bk) (a : Bool) (n : Int) : Bk :=
  let c := if a then (if b.n < n then b.n + 1 else b.n) else 0
  { b with n := c, q := a && decide (n ≤ c) }
def counterS (b : Bk) (up again : Bool) (n : Int) : Bk :=
  let c := if again then 0 else if up && !b.saw && decide (b.n < 255) then b.n + 1 else b.n
  { b with n := c, saw := up, q := decide (n ≤ c) }
def edgeS (b : Bk) (a : Bool) : Bk := { b with q := a && !b.saw, saw := a }
def numS (vs : Vs) (ks : Ks) : Ex → Ty
  | .num _ n ty => (ty, n)
  | .name _ s => getA vs s ty0
  | .field _ s f => fieldS (getA ks s bk0) f
  | .not _ x => let l := numS vs ks x; (l.1, cutI l.1 (bits .xor .i64 (-1) l.2))
  | .bin _ op x y => let l := numS vs ks x; let r := numS vs ks y; (resN op.toList l.1 r.1, twoI op.data.toList l.1 l.2 r.2)
def holdsS (vs : Vs) (ks : Ks) (x : Ex) : Bool := (numS vs ks x).2 != 0
def callS (vs : Vs) (ks : Ks) (b : Bk) (l : List Ex) (n : Nat) : Bk :=
  let a := match l with | [] => false | x :: _ => holdsS vs ks x
  let r := match l with | _ :: y :: _ => holdsS vs ks y | _ => false
  if b.kind = 3 then timerS b a n else if b.kind = 4 then counterS b a r n else if b.kind = 5 then edgeS b a else b
mutual
def doS : St → Vs × Ks → Vs × Ks
  | .set _ s x, q => (putA q.1 s ((getA q.1 s ty0).1, (numS q.1 q.2 x).2), q.2)
  | .call _ s l n, q => (q.1, putA q.2 s (callS q.1 q.2 (getA q.2 s bk0) l n))
  | .cond _ x th el, q => if holdsS q.1 q.2 x then doL th q else doL el q
def doL : List St → Vs × Ks → Vs × Ks
  | [], q => q
  | s :: l, q => doL l (doS s q)
end
def declS (d : De) (q : Vs × Ks) : Vs × Ks :=
  if widthN d.ty = 0 then (q.1, putA q.2 d.name ⟨d.ty, 0, false, false⟩) else if d.way = 1 then (putA q.1 d.name (d.ty, 0), q.2) else (putA q.1 d.name (d.ty, d.init), q.2)
def newS : List De → Vs × Ks → Vs × Ks
  | [], q => q
  | d :: l, q => newS l (declS d q)
def takeS : List De → List Int → Vs → Vs
  | [], _, vs => vs
  | d :: l, g, vs => if d.way = 1 then takeS l g.tail (putA vs d.name ((getA vs d.name ty0).1, cutI d.ty (g.headD 0))) else takeS l g vs
def outS (vs : Vs) : List De → List Int
  | [] => []
  | d :: l => if d.way = 2 then (getA vs d.name ty0).2 :: outS vs l else outS vs l
def stepS (p : List De × List St) (g : List Int) (q : Vs × Ks) : Vs × Ks := doL p.2 (takeS p.1 g q.1, q.2)
end Go.Proofs.YtiimnnancblbkaaDoor
