/-
  ROWS of statements, and the parts of a statement.
-/
import Derived.Test.YtlbgdoajaplabaaGreatDoorRSameE
namespace Go.Proofs.YtlbgdoajaplabaaGreatDoor
open Go.RowKit
set_option linter.unusedSimpArgs false
set_option linter.unusedVariables false

/-! ### rows -/
theorem qrow_cell {S : Nat → Prop} {e size n : Nat} {w : World} {v : Value} {xs : List Value} (h : IsRow S w e size v n xs) {g cap m : Nat} (hv : v = .slice (some ⟨g, 0, none⟩) m cap) {j : Nat} {u : Value} (hj : xs[j]? = some u) : w.cell? ⟨g, j, none⟩ = some u := by
  subst hv
  have := h.1.cells (g := g) rfl j u hj
  unfold Addr.add at this
  split at this
  · rename_i e; subst e; exact this
  · simpa using this
theorem qrow_addr {S : Nat → Prop} {e size n : Nat} {w : World} {v : Value} {xs : List Value} (h : IsRow S w e size v n xs) (hn : 0 < n) : ∃ g cap : Nat, v = .slice (some ⟨g, 0, none⟩) n cap ∧ S g := by
  rcases h.1.2 with ⟨rfl, rfl⟩ | ⟨g, cap, cur, rfl, _⟩
  · omega
  · exact ⟨g, cap, rfl, h.2 g rfl⟩
theorem qexs_get {S : Nat → Prop} {w : World} : ∀ {l : List Ex} {vs : List Value}, All2 (IsEx S w) l vs → ∀ i (h : i < l.length), ∃ b, vs[i]? = some b ∧ IsEx S w l[i] b
  | _ :: _, _ :: _, h, 0, _ => ⟨_, rfl, h.1⟩
  | _ :: l, _ :: vs, h, i + 1, hi => by
    obtain ⟨b, hb, hx⟩ := qexs_get h.2 i (by simpa using hi)
    exact ⟨b, by simpa using hb, by simpa using hx⟩
theorem qstl_get {S : Nat → Prop} {w : World} : ∀ {l : List St} {cs : List (List Value)}, IsStL S w l cs → ∀ i (h : i < l.length), ∃ c, cs[i]? = some c ∧ IsSt S w l[i] c
  | s :: l, c :: cs, h, 0, _ => by simp only [IsStL] at h; exact ⟨c, rfl, h.1⟩
  | s :: l, c :: cs, h, i + 1, hi => by
    simp only [IsStL] at h
    obtain ⟨d, hd, hs⟩ := qstl_get h.2 i (by simpa using hi)
    exact ⟨d, by simpa using hd, by simpa using hs⟩
  | _ :: _, [], h, _, _ => by simp only [IsStL] at h
theorem qstl_eight {S : Nat → Prop} {w : World} : ∀ {l : List St} {cs : List (List Value)}, IsStL S w l cs → ∀ c ∈ cs, c.length = 8
  | [], [], _, c, hc => by simp at hc
  | s :: l, d :: cs, h, c, hc => by
    simp only [IsStL] at h
    rcases List.mem_cons.1 hc with e | e
    · rw [e]; exact (IsSt.form s d h.1).1
    · exact qstl_eight h.2 c e
  | [], _ :: _, h, _, _ => by simp only [IsStL] at h
  | _ :: _, [], h, _, _ => by simp only [IsStL] at h
theorem qflat_nth {α : Type} (m : Nat) : ∀ (cs : List (List α)), (∀ c ∈ cs, c.length = m) → ∀ (i : Nat) (c : List α), cs[i]? = some c → ∀ k, k < m → cs.flatten[i * m + k]? = c[k]?
  | [], _, i, c, h, _, _ => by simp at h
  | d :: cs, h8, 0, c, h, k, hk => by
    simp at h; subst h
    rw [List.flatten_cons, List.getElem?_append_left (by rw [h8 d (by simp)]; omega)]
    simp
  | d :: cs, h8, i + 1, c, h, k, hk => by
    have hd := h8 d (by simp)
    have e : (i + 1) * m + k = d.length + (i * m + k) := by rw [hd, Nat.add_mul]; omega
    rw [List.flatten_cons, e, List.getElem?_append_right (by omega), Nat.add_sub_cancel_left]
    exact qflat_nth m cs (fun c hc => h8 c (by simp [hc])) i c (by simpa using h) k hk

/-! ### the parts of a statement -/
def codeS : St → Nat | .set .. => 1 | .call .. => 3 | .cond .. => 2
def posS : St → Nat | .set p _ _ => p | .call p _ _ _ => p | .cond p _ _ _ => p
def nameS : St → ByteArray | .set _ s _ => s | .call _ s _ _ => s | .cond .. => ⟨#[]⟩
def numS : St → Nat | .call _ _ _ n => n | _ => 0
def argS : St → List Ex | .call _ _ l _ => l | _ => []
def thenS : St → List St | .cond _ _ t _ => t | _ => []
def elseS : St → List St | .cond _ _ _ e => e | _ => []
def exS : St → Option Ex | .set _ _ x => some x | .cond _ x _ _ => some x | _ => none
def IsO (S : Nat → Prop) (w : World) (o : Option Ex) (a : Option Addr) : Prop := match o with | none => a = none | some x => IsEx S w x (.pointer a)
theorem IsO.below {S : Nat → Prop} {w w' : World} {o : Option Ex} {a : Option Addr} (h : IsO S w o a) (hb : Below w.heap.size w w') : IsO S w' o a := by
  cases o with
  | none => exact h
  | some x => exact IsEx.below h hb
theorem sameO_at (o : Option Ex) (S S' : Nat → Prop) (w : World) (a b : Option Addr) (ha : IsO S w o a) (hb : IsO S' w o b) : Calls Tryz.prog 24 #[.pointer a, .pointer b] w (Yes w) := by
  cases o with
  | none =>
    have ha : a = none := ha
    have hb : b = none := hb
    subst ha hb
    exact sameNil_at w
  | some x => exact sameExpr_at x S S' w _ _ ha hb
theorem st_parts {S : Nat → Prop} {w : World} : ∀ (st : St) (c : List Value), IsSt S w st c → ∃ (a ao ta ua : Option Addr) (ac tc uc : Nat), c = [.int .i64 (codeS st : Nat), .int .i64 (posS st : Nat), .string (nameS st), .pointer a, .slice ao (argS st).length ac, .int .i64 (numS st : Nat), .slice ta (thenS st).length tc, .slice ua (elseS st).length uc] ∧
      IsO S w (exS st) a ∧ IsExs S w (argS st) (.slice ao (argS st).length ac) ∧ IsSts S w (thenS st) (.slice ta (thenS st).length tc) ∧ IsSts S w (elseS st) (.slice ua (elseS st).length uc)
  | .set p s x, c, h => by
    simp only [IsSt] at h
    obtain ⟨a, rfl, hx⟩ := h
    obtain ⟨B, rfl⟩ := hx.ptr
    exact ⟨_, none, none, none, 0, 0, 0, rfl, hx, IsExs.nil S w, IsSts.nil S w, IsSts.nil S w⟩
  | .call p s l n, c, h => by
    simp only [IsSt] at h
    obtain ⟨a, rfl, hx⟩ := h
    obtain ⟨aa, ac, rfl⟩ := (show ∃ (x : Option Addr) (c : Nat), a = .slice x l.length c from by obtain ⟨vs, hr, _⟩ := hx; exact hr.val)
    exact ⟨none, aa, none, none, ac, 0, 0, rfl, rfl, hx, IsSts.nil S w, IsSts.nil S w⟩
  | .cond p x th el, c, h => by
    simp only [IsSt] at h
    obtain ⟨a, t, u, cs, ds, rfl, hx, h1, h2, h3, h4⟩ := h
    obtain ⟨B, rfl⟩ := hx.ptr
    obtain ⟨ta, tc, rfl⟩ := h1.val
    obtain ⟨ua, uc, rfl⟩ := h3.val
    exact ⟨_, none, ta, ua, 0, tc, uc, rfl, hx, IsExs.nil S w, ⟨cs, h1, h2⟩, ⟨ds, h3, h4⟩⟩

abbrev YesB (w : World) : Ending → World → Prop := fun e w' => e = .returned (.bool true) ∧ Below w.heap.size w w'
def SSs (l : List St) : Prop := ∀ (S S' : Nat → Prop) (w : World) (va vb : Value), IsSts S w l va → IsSts S' w l vb → Calls Tryz.prog 8 #[va, vb] w (YesB w)

end Go.Proofs.YtlbgdoajaplabaaGreatDoor
