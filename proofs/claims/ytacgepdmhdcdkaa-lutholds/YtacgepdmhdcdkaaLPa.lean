/-
  MEMORY: a packer, with the ways that it has found.
-/
import Derived.Test.YtacgepdmhdcdkaaLPn
import Derived.Test.YtacgepdmhdcdkaaLNd
set_option linter.unusedSimpArgs false
set_option linter.unusedVariables false
namespace Go.Proofs.Ytacgepdmhdcdkaa
open Go.RowKit

/-- all blocks but those of which S holds are as they were -/
structure KeptQ (S : Nat → Prop) (w w' : World) : Prop where
  os : w'.os = w.os
  tape : w'.tape = w.tape
  output : w'.output = w.output
  size : w.heap.size ≤ w'.heap.size
  block : ∀ k, k < w.heap.size → ¬ S k → w'.heap[k]? = w.heap[k]?
theorem KeptQ.refl (S : Nat → Prop) (w : World) : KeptQ S w w := ⟨rfl, rfl, rfl, Nat.le_refl _, fun _ _ _ => rfl⟩
theorem KeptQ.trans {S : Nat → Prop} {a b c : World} (h : KeptQ S a b) (k : KeptQ S b c) : KeptQ S a c :=
  ⟨k.os.trans h.os, k.tape.trans h.tape, k.output.trans h.output, Nat.le_trans h.size k.size, fun i hi hn => (k.block i (Nat.lt_of_lt_of_le hi h.size) hn).trans (h.block i hi hn)⟩
theorem KeptQ.of {S : Nat → Prop} {w w' : World} (h : Below w.heap.size w w') : KeptQ S w w' := ⟨h.os, h.tape, h.output, h.size, fun k hk _ => h.block k hk⟩
theorem KeptQ.one {S : Nat → Prop} {R : Nat} {w w' : World} (h : Kept R w w') (hR : S R) : KeptQ S w w' := ⟨h.os, h.tape, h.output, h.size, fun k hk hn => h.block k hk fun e => hn (e ▸ hR)⟩
theorem KeptQ.imp {S T : Nat → Prop} {w w' : World} (h : KeptQ S w w') (hi : ∀ k, k < w.heap.size → S k → T k) : KeptQ T w w' := ⟨h.os, h.tape, h.output, h.size, fun k hk hn => h.block k hk fun hs => hn (hi k hk hs)⟩
theorem KeptQ.below {S : Nat → Prop} {a b c : World} (h : KeptQ S a b) (k : Below b.heap.size b c) : KeptQ S a c := h.trans (KeptQ.of k)
theorem KeptQ.blk {S : Nat → Prop} {w w' : World} (h : KeptQ S w w') {b : Nat} {o : Obj} (hc : w.heap[b]? = some o) (hn : ¬ S b) : w'.heap[b]? = some o := (h.block b (blk_lt hc) hn).trans hc
theorem KeptQ.set {S : Nat → Prop} {w w' : World} (h : KeptQ S w w') (R i : Nat) (v : Value) (hR : S R) : KeptQ S w (w'.setCell ⟨R, i, none⟩ v) := h.trans (KeptQ.one (Kept.set w' i v) hR)
/-- what is kept but for one block, and made -/
theorem Kept.ofQ {S : Nat → Prop} {R : Nat} {w w' : World} (h : KeptQ S w w') (hS : ∀ k, k < w.heap.size → S k → k = R) : Kept R w w' := ⟨h.os, h.tape, h.output, h.size, fun k hk hn => h.block k hk fun hs => hn (hS k hk hs)⟩

/-- where the ways of a packer may lie -/
def PkS (B P Dg : Nat) (v : Value) (b : Nat) : Prop := B ≤ b ∧ b ≠ P ∧ b ≠ Dg ∧ v.ownBlock ≠ some b
def rowsC (X : Nat → List Wy) (SA : Nat → Option Addr) (SC : Nat → Nat) (i : Nat) : List Value := (List.range i).map fun j => .slice (SA j) (X j).length (SC j)
theorem rowsC_len (X : Nat → List Wy) (SA : Nat → Option Addr) (SC : Nat → Nat) (i : Nat) : (rowsC X SA SC i).length = i := by simp [rowsC]
/-- all blocks but the packer's own are as they were -/
abbrev KeptP (P Dg : Nat) := KeptQ (fun b => b = P ∨ b = Dg)
structure PkAt (B P Dg : Nat) (w : World) (first reg i : Nat) (wa : Option Addr) (wc : Nat) (X : Nat → List Wy) (SA : Nat → Option Addr) (SC : Nat → Nat) (D : List Int) : Prop where
  me : w.heap[P]? = some (.cells #[.int .i64 first, .int .i64 reg, .slice wa i wc, .slice (some ⟨Dg, 0, none⟩) D.length D.length] 68 (0, 0))
  deep : w.heap[Dg]? = some (.cells (intsC D).toArray 3 (0, 0))
  ne : P ≠ Dg
  PB : B ≤ P
  DB : B ≤ Dg
  row : Mine 23 1 B w (.slice wa i wc) i (rowsC X SA SC i)
  ownP : (Value.slice wa i wc).ownBlock ≠ some P
  ownD : (Value.slice wa i wc).ownBlock ≠ some Dg
  each : ∀ j, j < i → Lies (PkS B P Dg (.slice wa i wc)) w (SA j) (wyC (X j)) ∧ ∀ x ∈ X j, Lies (PkS B P Dg (.slice wa i wc)) w x.a (intsC x.l.ins)
theorem PkAt.below {B P Dg : Nat} {w w' : World} {first reg i : Nat} {wa : Option Addr} {wc : Nat} {X : Nat → List Wy} {SA : Nat → Option Addr} {SC : Nat → Nat} {D : List Int} (h : PkAt B P Dg w first reg i wa wc X SA SC D) (hb : Below w.heap.size w w') : PkAt B P Dg w' first reg i wa wc X SA SC D :=
  ⟨Below.blk hb h.me, Below.blk hb h.deep, h.ne, h.PB, h.DB, h.row.below hb, h.ownP, h.ownD, fun j hj => ⟨(h.each j hj).1.below hb, fun x hx => ((h.each j hj).2 x hx).below hb⟩⟩
/-- the packer's own two blocks are turned -/
theorem PkAt.turned {B P Dg : Nat} {w w' : World} {first reg i : Nat} {wa : Option Addr} {wc : Nat} {X : Nat → List Wy} {SA : Nat → Option Addr} {SC : Nat → Nat} {D : List Int} (h : PkAt B P Dg w first reg i wa wc X SA SC D) {reg' : Nat} {D' : List Int} (hl : D'.length = D.length) (hk : KeptP P Dg w w')
    (hm : w'.heap[P]? = some (.cells #[.int .i64 first, .int .i64 reg', .slice wa i wc, .slice (some ⟨Dg, 0, none⟩) D.length D.length] 68 (0, 0))) (hd : w'.heap[Dg]? = some (.cells (intsC D').toArray 3 (0, 0))) : PkAt B P Dg w' first reg' i wa wc X SA SC D' := by
  have hs : ∀ b, PkS B P Dg (.slice wa i wc) b → b < w.heap.size → w'.heap[b]? = w.heap[b]? := fun b hb hlt => hk.block b hlt fun e => by rcases e with e | e; exact hb.2.1 e; exact hb.2.2.1 e
  exact ⟨by rw [hm, hl], hd, h.ne, h.PB, h.DB, h.row.same fun b hb hlt => hk.block b hlt fun e => by rcases e with rfl | rfl; exact h.ownP hb; exact h.ownD hb, h.ownP, h.ownD, fun j hj => ⟨(h.each j hj).1.same hs, fun x hx => ((h.each j hj).2 x hx).same hs⟩⟩
theorem PkAt.cell {B P Dg : Nat} {w : World} {first reg i : Nat} {wa : Option Addr} {wc : Nat} {X : Nat → List Wy} {SA : Nat → Option Addr} {SC : Nat → Nat} {D : List Int} (h : PkAt B P Dg w first reg i wa wc X SA SC D) {j : Nat} (hj : j < i) : ∃ b off, wa = some ⟨b, off, none⟩ ∧ w.cell? ⟨b, off + j, none⟩ = some (.slice (SA j) (X j).length (SC j)) := by
  have hl := h.row.lies (S := AnyB) (fun _ _ => trivial)
  rcases hl with hl | ⟨b, off, h1, _, h3⟩
  · have := congrArg List.length hl
    rw [rowsC_len] at this
    simp at this; omega
  · exact ⟨b, off, h1, h3 j _ (by unfold rowsC; simp [hj])⟩
theorem info_rw : ∃ i : TypeInfo, Try.prog.info? 23 = some i ∧ i.zero = some (.slice none 0 0) ∧ i.size = 1 ∧ i.bytes = 24 := info_of (by kernel_rfl)
/-- one more node's ways -/
theorem PkAt.more {B P Dg : Nat} {w : World} {first reg i : Nat} {wa : Option Addr} {wc : Nat} {X : Nat → List Wy} {SA : Nat → Option Addr} {SC : Nat → Nat} {D : List Int} (h : PkAt B P Dg w first reg i wa wc X SA SC D) (hB : B ≤ w.heap.size) (hi : i < 100000) (xs : List Wy) (sa : Option Addr) (sc : Nat) (W : Nat) (hW : B ≤ W ∧ P < W ∧ Dg < W ∧ ∀ b, (Value.slice wa i wc).ownBlock = some b → b < W) (hx : Lies (FromB W) w sa (wyC xs)) (hx2 : ∀ x ∈ xs, Lies (FromB W) w x.a (intsC x.l.ins)) :
    ∃ wa' wc' w2, (Builtin.append_ #[66, 66] 66 #[.slice wa i wc, .slice (some ⟨w.heap.size, 0, none⟩) 1 1]).run Try.prog (w.alloc (.cells #[.slice sa xs.length sc] 23)) = .ok (.slice wa' (i + 1) wc') w2 ∧
      PkAt B P Dg (w2.setCell ⟨P, 2, none⟩ (.slice wa' (i + 1) wc')) first reg (i + 1) wa' wc' (fun j => if j = i then xs else X j) (fun j => if j = i then sa else SA j) (fun j => if j = i then sc else SC j) D ∧ w2.heap[P]? = w.heap[P]? ∧ (∀ b, b < w.heap.size → (Value.slice wa i wc).ownBlock ≠ some b → w2.heap[b]? = w.heap[b]?) ∧ w.heap.size ≤ w2.heap.size ∧ w2.os = w.os ∧ w2.tape = w.tape ∧ w2.output = w.output := by
  obtain ⟨t, hi1, hz, hs, hb⟩ := info_rw
  have hb1 := below_alloc w (.cells #[.slice sa xs.length sc] 23)
  have h1 := h.below hb1
  obtain ⟨wa', wc', w2, hr, hown, hg, hnb⟩ := app_own (P := Try.prog) (w := w.alloc (.cells #[.slice sa xs.length sc] 23)) 66 66 23 t _ 1 24 (by kernel_rfl) hi1 hz hs hb rfl (by decide) (.slice wa i wc) i _ h1.row.own (some ⟨w.heap.size, 0, none⟩) 1 1 [.slice sa xs.length sc] rfl (Lies.blk (S := AnyB) (cs := [.slice sa xs.length sc]) (blk_new w _) trivial) (fun u hu => by rw [List.mem_singleton.1 hu]; rfl) (by omega) (by decide)
  have hold : ∀ b, b < w.heap.size → (Value.slice wa i wc).ownBlock ≠ some b → w2.heap[b]? = w.heap[b]? := fun b hb hn => (hg.block b (Nat.lt_of_lt_of_le hb hb1.size) (fun e => hn e.symm)).trans (hb1.block b hb)
  have hPl := blk_lt h.me
  have hDl := blk_lt h.deep
  have hsz : (w.alloc (.cells #[.slice sa xs.length sc] 23)).heap.size = w.heap.size + 1 := by simp
  have hP2 := hold P hPl h.ownP
  have hnew : ∀ b, b < w.heap.size → (Value.slice wa i wc).ownBlock ≠ some b → (Value.slice wa' (i + 1) wc').ownBlock ≠ some b := fun b hb hn e => by
    rcases hnb b e with e | e
    · exact hn e
    · rw [hsz] at e; omega
  have hset : ∀ b, b ≠ P → (w2.setCell ⟨P, 2, none⟩ (.slice wa' (i + 1) wc')).heap[b]? = w2.heap[b]? := fun b hb => Below.heap_setCell w2 ⟨P, 2, none⟩ _ b hb
  refine ⟨wa', wc', w2, hr, ⟨?_, ?_, h.ne, h.PB, h.DB, ⟨?_, fun b hb => ?_⟩, hnew P hPl h.ownP, hnew Dg hDl h.ownD, fun j hj => ?_⟩, hP2, hold, Nat.le_trans hb1.size hg.size, hg.os.trans hb1.os, hg.tape.trans hb1.tape, hg.output.trans hb1.output⟩
  · rw [blk_set (hP2.trans h.me)]; rfl
  · rw [hset Dg (fun e => h.ne e.symm)]; exact (hold Dg hDl h.ownD).trans h.deep
  · have hrow : rowsC (fun j => if j = i then xs else X j) (fun j => if j = i then sa else SA j) (fun j => if j = i then sc else SC j) (i + 1) = rowsC X SA SC i ++ [.slice sa xs.length sc] := by
      unfold rowsC
      have e1 : (List.range i).map (fun j => Value.slice ((fun j => if j = i then sa else SA j) j) ((fun j => if j = i then xs else X j) j).length ((fun j => if j = i then sc else SC j) j)) = (List.range i).map fun j => .slice (SA j) (X j).length (SC j) := List.map_congr_left fun j hj => by
        have : j < i := List.mem_range.1 hj
        simp only [show j ≠ i by omega, ↓reduceIte]
      rw [List.range_succ, List.map_append, e1]
      simp only [List.map_cons, List.map_nil, ↓reduceIte]
    rw [hrow]
    exact Mine.own (B := B) (Mine.same (e := 23) (size := 1) (B := B) (w := w2) ⟨hown, fun b hb => (hnb b hb).elim (h.row.new b) (fun e => by rw [hsz] at e; omega)⟩ fun b hb _ => hset b fun e => by
      subst e; exact hnew b hPl h.ownP hb)
  · exact (hnb b hb).elim (h.row.new b) (fun e => by rw [hsz] at e; omega)
  · have hs : ∀ b, (PkS B P Dg (.slice wa i wc) b ∧ b < w.heap.size) → b < w.heap.size → (w2.setCell ⟨P, 2, none⟩ (.slice wa' (i + 1) wc')).heap[b]? = w.heap[b]? := fun b hb hlt => (hset b hb.1.2.1).trans (hold b hlt hb.1.2.2.2)
    have himp : ∀ (ao : Option Addr) (cs : List Value), Lies (PkS B P Dg (.slice wa i wc)) w ao cs → Lies (PkS B P Dg (.slice wa' (i + 1) wc')) (w2.setCell ⟨P, 2, none⟩ (.slice wa' (i + 1) wc')) ao cs := fun ao cs hl => ((hl.imp (T := fun b => PkS B P Dg (.slice wa i wc) b ∧ b < w.heap.size) fun b hlt hb => ⟨hb, hlt⟩).same hs).imp fun b _ hb => ⟨hb.1.1, hb.1.2.1, hb.1.2.2.1, hnew b hb.2 hb.1.2.2.2⟩
    have hfrom : ∀ (ao : Option Addr) (cs : List Value), Lies (FromB W) w ao cs → Lies (PkS B P Dg (.slice wa i wc)) w ao cs := fun ao cs hl => hl.imp fun b _ hb => by
      have hb' : W ≤ b := hb
      obtain ⟨h1, h2, h3, h4⟩ := hW
      exact ⟨by omega, by omega, by omega, fun e => by have := h4 b e; omega⟩
    by_cases e : j = i
    · subst e
      simp only [↓reduceIte]
      exact ⟨himp _ _ (hfrom _ _ hx), fun x hx' => himp _ _ (hfrom _ _ (hx2 x hx'))⟩
    · simp only [if_neg e]
      exact ⟨himp _ _ (h.each j (by omega)).1, fun x hx' => himp _ _ ((h.each j (by omega)).2 x hx')⟩
end Go.Proofs.Ytacgepdmhdcdkaa
