/-
  ROWS of numbers of the call's own, or none: Sort, Compact, short of them.
-/
import Derived.Test.YtacgepdmhdcdkaaLNl
import Derived.Test.YtacgepdmhdcdkaaLCc
set_option linter.unusedSimpArgs false
set_option linter.unusedVariables false
namespace Go.Proofs.Ytacgepdmhdcdkaa
open Go.RowKit

/-- a row of numbers of the call's own, from a block's beginning on, or none at all -/
def RowI (B : Nat) (w : World) (va : Option Addr) (n vc : Nat) (l : List Int) : Prop := (va = none ∧ n = 0 ∧ vc = 0 ∧ l = []) ∨ ∃ g, va = some ⟨g, 0, none⟩ ∧ OwnI B g w n vc l
/-- nothing turns but the row's own block -/
structure KeptO (va : Option Addr) (w w' : World) : Prop where
  os : w'.os = w.os
  tape : w'.tape = w.tape
  output : w'.output = w.output
  size : w.heap.size ≤ w'.heap.size
  block : ∀ k, k < w.heap.size → (∀ g, va = some ⟨g, 0, none⟩ → k ≠ g) → w'.heap[k]? = w.heap[k]?
theorem KeptO.of {g : Nat} {w w' : World} (h : Kept g w w') : KeptO (some ⟨g, 0, none⟩) w w' := ⟨h.os, h.tape, h.output, h.size, fun k hk hn => h.block k hk (hn g rfl)⟩
theorem KeptO.below {va : Option Addr} {B : Nat} {w w' : World} (h : KeptO va w w') (hB : ∀ g, va = some ⟨g, 0, none⟩ → B ≤ g) (hw : B ≤ w.heap.size) : Below B w w' := ⟨h.os, h.tape, h.output, h.size, fun k hk => h.block k (Nat.lt_of_lt_of_le hk hw) fun g e => by have := hB g e; omega⟩
theorem KeptO.blk {va : Option Addr} {w w' : World} (h : KeptO va w w') {b : Nat} {o : Obj} (hc : w.heap[b]? = some o) (hn : ∀ g, va = some ⟨g, 0, none⟩ → b ≠ g) : w'.heap[b]? = some o := (h.block b (blk_lt hc) hn).trans hc
theorem RowI.len {B : Nat} {w : World} {va : Option Addr} {n vc : Nat} {l : List Int} (h : RowI B w va n vc l) : l.length = n := by
  rcases h with ⟨_, rfl, _, rfl⟩ | ⟨g, _, h⟩
  · rfl
  · exact h.len
theorem RowI.ge {B : Nat} {w : World} {va : Option Addr} {n vc : Nat} {l : List Int} (h : RowI B w va n vc l) : ∀ g, va = some ⟨g, 0, none⟩ → B ≤ g := by
  rcases h with ⟨rfl, _⟩ | ⟨g, rfl, h⟩
  · intro g e; cases e
  · intro g' e; cases e; exact h.ge
theorem RowI.lt {B : Nat} {w : World} {va : Option Addr} {n vc : Nat} {l : List Int} (h : RowI B w va n vc l) : ∀ g, va = some ⟨g, 0, none⟩ → g < w.heap.size := by
  rcases h with ⟨rfl, _⟩ | ⟨g, rfl, h⟩
  · intro g e; cases e
  · intro g' e; cases e; exact h.lt
theorem RowI.below {B : Nat} {w w' : World} {va : Option Addr} {n vc : Nat} {l : List Int} (h : RowI B w va n vc l) (hb : Below w.heap.size w w') : RowI B w' va n vc l := by
  rcases h with h | ⟨g, e, h⟩
  · exact .inl h
  · exact .inr ⟨g, e, h.below hb⟩
theorem RowI.kept {B R : Nat} {w w' : World} {va : Option Addr} {n vc : Nat} {l : List Int} (h : RowI B w va n vc l) (hk : Kept R w w') (hn : ∀ g, va = some ⟨g, 0, none⟩ → g ≠ R) : RowI B w' va n vc l := by
  rcases h with h | ⟨g, e, h⟩
  · exact .inl h
  · exact .inr ⟨g, e, h.kept hk (hn g e)⟩
theorem RowI.lies {B : Nat} {w : World} {va : Option Addr} {n vc : Nat} {l : List Int} (h : RowI B w va n vc l) : Lies (FromB B) w va (intsC l) := by
  rcases h with ⟨rfl, _, _, rfl⟩ | ⟨g, rfl, h⟩
  · left; rfl
  · exact h.mine.lies fun b hb => h.mine.new b hb
theorem RowI.of {B : Nat} {w : World} {va : Option Addr} {n vc : Nat} {l : List Int} (h : Mine 3 1 B w (.slice va n vc) n (intsC l)) : RowI B w va n vc l := by
  have hl : l.length = n := by
    have := h.own.1
    simpa [intsC] using this
  rcases h.own.2 with ⟨h0, h1⟩ | ⟨g, cap, cur, hv, _⟩
  · cases h0
    exact .inl ⟨rfl, rfl, rfl, List.eq_nil_of_length_eq_zero hl⟩
  · cases hv
    exact .inr ⟨g, rfl, h, hl⟩
theorem sort_u {B : Nat} {w : World} {va : Option Addr} {n vc : Nat} {l : List Int} (h : RowI B w va n vc l) (hn : n ≤ 12) :
    Calls Try.prog 48 #[.slice va n vc] w fun e w' => e = .returned (.tuple #[]) ∧ (∃ l', RowI B w' va n vc l' ∧ l'.Perm l) ∧ KeptO va w w' := by
  rcases h with ⟨rfl, rfl, rfl, rfl⟩ | ⟨g, rfl, h⟩
  · refine (sort_no w).mono ?_
    rintro e w' ⟨rfl, rfl⟩
    exact ⟨rfl, ⟨[], .inl ⟨rfl, rfl, rfl, rfl⟩, .refl _⟩, rfl, rfl, rfl, Nat.le_refl _, fun _ _ _ => rfl⟩
  · refine (sort_at h hn).mono ?_
    rintro e w' ⟨rfl, ⟨l', ho, hp⟩, hk⟩
    exact ⟨rfl, ⟨l', .inr ⟨g, rfl, ho⟩, hp⟩, .of hk⟩
theorem compact_u {B : Nat} {w : World} {va : Option Addr} {n vc : Nat} {l : List Int} (h : RowI B w va n vc l) (hn : n ≤ 12) :
    Calls Try.prog 49 #[.slice va n vc] w fun e w' => (∃ (k : Nat) (l' : List Int), e = .returned (.slice va k vc) ∧ RowI B w' va k vc l' ∧ k ≤ n ∧ ∀ x, x ∈ l' ↔ x ∈ l) ∧ KeptO va w w' := by
  rcases h with ⟨rfl, rfl, rfl, rfl⟩ | ⟨g, rfl, h⟩
  · refine (compact_no w).mono ?_
    rintro e w' ⟨rfl, rfl⟩
    exact ⟨⟨0, [], rfl, .inl ⟨rfl, rfl, rfl, rfl⟩, Nat.le_refl _, fun _ => Iff.rfl⟩, rfl, rfl, rfl, Nat.le_refl _, fun _ _ _ => rfl⟩
  · refine (compact_at h hn).mono ?_
    rintro e w' ⟨⟨k, l', rfl, ho, hk, hm⟩, hkk⟩
    exact ⟨⟨k, l', rfl, .inr ⟨g, rfl, ho⟩, hk, hm⟩, .of hkk⟩
theorem short_u {B : Nat} {w : World} {va : Option Addr} {vc : Nat} (l : Lt) (h : RowI B w va l.ins.length vc l.ins) (hw : Way l) (hB : B ≤ w.heap.size) :
    Calls Try.prog 53 #[.agg #[.slice va l.ins.length vc, .int .i64 l.table]] w fun e w' => (∃ l' : Lt, e = .returned (.agg #[.slice va l'.ins.length vc, .int .i64 l'.table]) ∧ RowI B w' va l'.ins.length vc l'.ins ∧ Less l l') ∧ Below B w w' := by
  rcases h with ⟨rfl, h0, rfl, h1⟩ | ⟨g, rfl, h⟩
  · obtain ⟨ins, t⟩ := l
    simp only at h1
    subst h1
    refine (short_no t w).mono ?_
    rintro e w' ⟨rfl, hb⟩
    exact ⟨⟨⟨[], t⟩, rfl, .inl ⟨rfl, rfl, rfl, rfl⟩, Less.refl hw⟩, hb.mono hB⟩
  · refine (short_at l h hw hB).mono ?_
    rintro e w' ⟨⟨l', rfl, ho, hl⟩, hb⟩
    exact ⟨⟨l', rfl, .inr ⟨g, rfl, ho⟩, hl⟩, hb⟩
end Go.Proofs.Ytacgepdmhdcdkaa
