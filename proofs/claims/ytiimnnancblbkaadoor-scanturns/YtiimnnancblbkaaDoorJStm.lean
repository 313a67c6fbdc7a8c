/-
  MEMORY: rows of statements.
  CONTRACT of act: a statement that sets or calls.
  PLAIN: statements go forward.
  CONTRACT of stmts: rows of statements, where what is an if is known.
-/
import Derived.Test.YtiimnnancblbkaaDoorJTwo
import Derived.Test.YtiimnnancblbkaaDoorArgs2
import Derived.Test.YtiimnnancblbkaaDoorJByte
namespace Go.Proofs.YtiimnnancblbkaaDoor
open Go.RowKit

mutual
/-- the eight cells of a statement -/
def IsSt (S : Nat → Prop) (w : World) : St → List Value → Prop
  | .set p s x, c => ∃ a, c = [.int .i64 1, .int .i64 p, .string s, a, .slice none 0 0, .int .i64 0, .slice none 0 0, .slice none 0 0] ∧ IsEx S w x a
  | .call p s l n, c => ∃ a, c = [.int .i64 3, .int .i64 p, .string s, .pointer none, a, .int .i64 n, .slice none 0 0, .slice none 0 0] ∧ IsExs S w l a
  | .cond p x th el, c => ∃ (a t u : Value) (cs ds : List (List Value)), c = [.int .i64 2, .int .i64 p, .string ⟨#[]⟩, a, .slice none 0 0, .int .i64 0, t, u] ∧ IsEx S w x a ∧ IsRow S w 48 8 t th.length cs.flatten ∧ IsStL S w th cs ∧ IsRow S w 48 8 u el.length ds.flatten ∧ IsStL S w el ds
def IsStL (S : Nat → Prop) (w : World) : List St → List (List Value) → Prop
  | [], [] => True
  | s :: l, c :: cs => IsSt S w s c ∧ IsStL S w l cs
  | [], _ :: _ => False
  | _ :: _, [] => False
end

mutual
theorem IsSt.same {S : Nat → Prop} {w w' : World} (hb : ∀ b, S b → b < w.heap.size → w'.heap[b]? = w.heap[b]?) : ∀ (s : St) (c : List Value), IsSt S w s c → IsSt S w' s c
  | .set _ _ _, _, h => by
    simp only [IsSt] at h ⊢
    obtain ⟨a, e, hx⟩ := h
    exact ⟨a, e, hx.same hb⟩
  | .call _ _ _ _, _, h => by
    simp only [IsSt] at h ⊢
    obtain ⟨a, e, hx⟩ := h
    exact ⟨a, e, hx.same hb⟩
  | .cond _ _ th el, _, h => by
    simp only [IsSt] at h ⊢
    obtain ⟨a, t, u, cs, ds, e, hx, h1, h2, h3, h4⟩ := h
    exact ⟨a, t, u, cs, ds, e, hx.same hb, h1.same hb, IsStL.same hb th cs h2, h3.same hb, IsStL.same hb el ds h4⟩
theorem IsStL.same {S : Nat → Prop} {w w' : World} (hb : ∀ b, S b → b < w.heap.size → w'.heap[b]? = w.heap[b]?) : ∀ (l : List St) (cs : List (List Value)), IsStL S w l cs → IsStL S w' l cs
  | [], [], _ => by simp only [IsStL]
  | s :: l, c :: cs, h => by
    simp only [IsStL] at h ⊢
    exact ⟨IsSt.same hb s c h.1, IsStL.same hb l cs h.2⟩
  | [], _ :: _, h => by simp only [IsStL] at h
  | _ :: _, [], h => by simp only [IsStL] at h
end
mutual
theorem IsSt.imp {S S' : Nat → Prop} {w : World} (hl : ∀ b, b < w.heap.size → S b → S' b) : ∀ (s : St) (c : List Value), IsSt S w s c → IsSt S' w s c
  | .set _ _ _, _, h => by
    simp only [IsSt] at h ⊢
    obtain ⟨a, e, hx⟩ := h
    exact ⟨a, e, hx.imp hl⟩
  | .call _ _ _ _, _, h => by
    simp only [IsSt] at h ⊢
    obtain ⟨a, e, hx⟩ := h
    exact ⟨a, e, hx.imp hl⟩
  | .cond _ _ th el, _, h => by
    simp only [IsSt] at h ⊢
    obtain ⟨a, t, u, cs, ds, e, hx, h1, h2, h3, h4⟩ := h
    exact ⟨a, t, u, cs, ds, e, hx.imp hl, h1.imp hl, IsStL.imp hl th cs h2, h3.imp hl, IsStL.imp hl el ds h4⟩
theorem IsStL.imp {S S' : Nat → Prop} {w : World} (hl : ∀ b, b < w.heap.size → S b → S' b) : ∀ (l : List St) (cs : List (List Value)), IsStL S w l cs → IsStL S' w l cs
  | [], [], _ => by simp only [IsStL]
  | s :: l, c :: cs, h => by
    simp only [IsStL] at h ⊢
    exact ⟨IsSt.imp hl s c h.1, IsStL.imp hl l cs h.2⟩
  | [], _ :: _, h => by simp only [IsStL] at h
  | _ :: _, [], h => by simp only [IsStL] at h
end
theorem IsStL.snoc {S : Nat → Prop} {w : World} {s : St} {c : List Value} (hs : IsSt S w s c) : ∀ (l : List St) (cs : List (List Value)), IsStL S w l cs → IsStL S w (l ++ [s]) (cs ++ [c])
  | [], [], _ => by simp only [List.nil_append, IsStL, hs, and_self]
  | _ :: l, _ :: cs, h => by
    simp only [List.cons_append, IsStL] at h ⊢
    exact ⟨h.1, IsStL.snoc hs l cs h.2⟩
  | [], _ :: _, h => by simp only [IsStL] at h
  | _ :: _, [], h => by simp only [IsStL] at h
theorem IsSt.form {S : Nat → Prop} {w : World} : ∀ (s : St) (c : List Value), IsSt S w s c → c.length = 8 ∧ ∀ u ∈ c, u.oneCell' = true
  | .set _ _ _, _, h => by
    simp only [IsSt] at h
    obtain ⟨a, rfl, hx⟩ := h
    obtain ⟨B, rfl⟩ := hx.ptr
    exact ⟨rfl, by simp [Value.oneCell']⟩
  | .call _ _ _ _, _, h => by
    simp only [IsSt] at h
    obtain ⟨a, rfl, vs, hr, _⟩ := h
    obtain ⟨p, q, rfl⟩ := hr.val
    exact ⟨rfl, by simp [Value.oneCell']⟩
  | .cond _ _ _ _, _, h => by
    simp only [IsSt] at h
    obtain ⟨a, t, u, cs, ds, rfl, hx, h1, _, h3, _⟩ := h
    obtain ⟨B, rfl⟩ := hx.ptr
    obtain ⟨p, q, rfl⟩ := h1.val
    obtain ⟨p', q', rfl⟩ := h3.val
    exact ⟨rfl, by simp [Value.oneCell']⟩

/-- a row of statements -/
def IsSts (S : Nat → Prop) (w : World) (l : List St) (v : Value) : Prop := ∃ cs : List (List Value), IsRow S w 48 8 v l.length cs.flatten ∧ IsStL S w l cs
theorem IsSts.same {S : Nat → Prop} {w w' : World} {l : List St} {v : Value} (h : IsSts S w l v) (hb : ∀ b, S b → b < w.heap.size → w'.heap[b]? = w.heap[b]?) : IsSts S w' l v := by
  obtain ⟨cs, h1, h2⟩ := h
  exact ⟨cs, h1.same hb, IsStL.same hb l cs h2⟩
theorem IsSts.imp {S S' : Nat → Prop} {w : World} {l : List St} {v : Value} (h : IsSts S w l v) (hl : ∀ b, b < w.heap.size → S b → S' b) : IsSts S' w l v := by
  obtain ⟨cs, h1, h2⟩ := h
  exact ⟨cs, h1.imp hl, IsStL.imp hl l cs h2⟩
theorem IsSts.nil (S : Nat → Prop) (w : World) : IsSts S w [] (.slice none 0 0) := ⟨[], IsRow.nil .., by simp only [IsStL]⟩

/-- a row of statements under way: none of what they hold lies in the row itself -/
def Growing (N : Nat) (w : World) (l : List St) (v : Value) : Prop := ∃ cs : List (List Value), IsRow (From N) w 48 8 v l.length cs.flatten ∧ IsStL (fun b => N ≤ b ∧ some b ≠ v.ownBlock) w l cs
theorem Growing.nil (N : Nat) (w : World) : Growing N w [] (.slice none 0 0) := ⟨[], IsRow.nil .., by simp only [IsStL]⟩
theorem Growing.same {N : Nat} {w w' : World} {l : List St} {v : Value} (h : Growing N w l v) (hb : ∀ b, N ≤ b → b < w.heap.size → w'.heap[b]? = w.heap[b]?) : Growing N w' l v := by
  obtain ⟨cs, h1, h2⟩ := h
  exact ⟨cs, h1.same hb, IsStL.same (fun b h => hb b h.1) l cs h2⟩
theorem Growing.done {N : Nat} {w : World} {l : List St} {v : Value} (h : Growing N w l v) : IsSts (From N) w l v := by
  obtain ⟨cs, h1, h2⟩ := h
  exact ⟨cs, h1, IsStL.imp (fun b _ h => h.1) l cs h2⟩
theorem Growing.val {N : Nat} {w : World} {l : List St} {v : Value} (h : Growing N w l v) : ∃ (a : Option Addr) (cap : Nat), v = .slice a l.length cap := by
  obtain ⟨cs, h1, h2⟩ := h
  exact h1.val

theorem sts_snoc {R N : Nat} {w0 w5 w w1 : World} {l : List St} {s : St} {c : List Value} {v v' : Value} {cs : List (List Value)} (o : Obj) (h0 : w0.heap.size = N) (hN : N ≤ w5.heap.size) (h5 : w5.heap.size ≤ w.heap.size) (hk : Kept R w0 w)
    (hv5 : ∀ b, v.ownBlock = some b → b < w5.heap.size) (hrow : IsRow (From N) w 48 8 v l.length cs.flatten) (hall : IsStL (fun b => N ≤ b ∧ some b ≠ v.ownBlock) w l cs) (hs : IsSt (From w5.heap.size) w s c)
    (hown : w1.ownsRow 0 48 8 v' (l.length + 1) (cs.flatten ++ c)) (hg : (w.alloc o).grownBy w1 v.ownBlock) (hb : v'.ownBlock = v.ownBlock ∨ v'.ownBlock = some (w.heap.size + 1)) :
    Growing N w1 (l ++ [s]) v' ∧ Kept R w0 w1 := by
  have hsz : w.heap.size ≤ (w.alloc o).heap.size := by simp
  have hs2 : IsSt (fun b => N ≤ b ∧ some b ≠ v.ownBlock) w s c := IsSt.imp (fun b _ h => ⟨Nat.le_trans hN h, fun e => by have := hv5 b e.symm; have h' : w5.heap.size ≤ b := h; omega⟩) s c hs
  have hall2 := IsStL.snoc hs2 l cs hall
  have carry : ∀ b, (N ≤ b ∧ some b ≠ v.ownBlock) → b < w.heap.size → w1.heap[b]? = w.heap[b]? := fun b h1 h2 => (hg.block b (Nat.lt_of_lt_of_le h2 hsz) h1.2).trans (Below.heap_alloc w o b h2)
  have hall3 : IsStL (fun b => (N ≤ b ∧ some b ≠ v.ownBlock) ∧ some b ≠ v'.ownBlock) w (l ++ [s]) (cs ++ [c]) := IsStL.imp (fun b h1 h2 => ⟨h2, fun e => by
    rcases hb with hb | hb
    · exact h2.2 (e.trans hb)
    · rw [hb] at e
      simp only [Option.some.injEq] at e
      omega⟩) _ _ hall2
  have hall4 := IsStL.same (w' := w1) (fun b h1 h2 => carry b h1.1 h2) _ _ hall3
  refine ⟨⟨cs ++ [c], ⟨?_, fun b hb' => ?_⟩, IsStL.imp (fun b _ h => ⟨h.1.1, h.2⟩) _ _ hall4⟩, ?_⟩
  · simpa using hown
  · show N ≤ b
    rcases hb with e | e
    · exact hrow.2 b (by rw [← e]; exact hb')
    · rw [e] at hb'
      simp only [Option.some.injEq] at hb'
      omega
  · exact grown_kept hg (fun b h => hrow.2 b h) (hk.alloc o) (by omega)
end Go.Proofs.YtiimnnancblbkaaDoor
namespace Go.Proofs.YtiimnnancblbkaaDoor
open Go.RowKit

theorem set_other (w : World) {S b : Nat} (i : Nat) (v : Value) (h : b ≠ S) : (w.setCell ⟨S, i, none⟩ v).heap[b]? = w.heap[b]? := Below.heap_setCell w ⟨S, i, none⟩ v b h
def put8 (w : World) (S : Nat) (c0 c1 c2 c3 c4 c5 c6 c7 : Value) : World := (((((((w.setCell ⟨S, 0, none⟩ c0).setCell ⟨S, 1, none⟩ c1).setCell ⟨S, 2, none⟩ c2).setCell ⟨S, 3, none⟩ c3).setCell ⟨S, 4, none⟩ c4).setCell ⟨S, 5, none⟩ c5).setCell ⟨S, 6, none⟩ c6).setCell ⟨S, 7, none⟩ c7
theorem put8_other (w : World) {S b : Nat} (c0 c1 c2 c3 c4 c5 c6 c7 : Value) (h : b ≠ S) : (put8 w S c0 c1 c2 c3 c4 c5 c6 c7).heap[b]? = w.heap[b]? := by
  unfold put8
  simp only [set_other _ _ _ h]
theorem Rd.put8 {w : World} {R T cap k : Nat} {ts : List Tok} (h : Rd w R T cap ts k) {S : Nat} (c0 c1 c2 c3 c4 c5 c6 c7 : Value) (hR : S ≠ R) (hT : S ≠ T) (hg : 5 ≤ S) : Rd (put8 w S c0 c1 c2 c3 c4 c5 c6 c7) R T cap ts k :=
  (((((((h.other 0 _ hR hT hg).other 1 _ hR hT hg).other 2 _ hR hT hg).other 3 _ hR hT hg).other 4 _ hR hT hg).other 5 _ hR hT hg).other 6 _ hR hT hg).other 7 _ hR hT hg
theorem Kept.put8 {R : Nat} {w w1 : World} (h : Kept R w w1) {S : Nat} (c0 c1 c2 c3 c4 c5 c6 c7 : Value) (hS : w.heap.size ≤ S) : Kept R w (put8 w1 S c0 c1 c2 c3 c4 c5 c6 c7) :=
  (((((((h.new 0 _ hS).new 1 _ hS).new 2 _ hS).new 3 _ hS).new 4 _ hS).new 5 _ hS).new 6 _ hS).new 7 _ hS

/-- what act and branch hand back -/
abbrev StRep (w : World) : World → Value → St → Prop := fun w' v s => ∃ c : List Value, v = .agg c.toArray ∧ IsSt (From w.heap.size) w' s c

set_option maxRecDepth 100000 in
set_option maxHeartbeats 6400000 in
theorem act_at (f : Nat) {w : World} {R T cap : Nat} {ts : List Tok} {k : Nat} (h : Rd w R T cap ts k) (hout : actP ts f k ≠ .out) :
    Calls Tryd.prog 57 #[.pointer (some ⟨R, 0, none⟩)] w (Rds w R T cap ts (StRep w) (actP ts f k)) := by
  have q2 := fld2
  have HR := hide h
  have HO := hide hout
  have HSR := hide (show w.heap.size ≠ R by have := h.Rlt; omega)
  have HST := hide (show w.heap.size ≠ T by have := h.Tlt; omega)
  have HSB := hide (show 5 ≤ w.heap.size by have := h.Rlt; have := h.big; omega)
  have HWS := hide (Nat.le_refl w.heap.size)
  clear h hout
  go_enter Tryd.func57, Tryd.ntmps57
  go_wp2_with fail
  have HN0 := hide (blk_new w (.cells #[.int .i64 0, .int .i64 0, .string ⟨#[]⟩, .pointer none, .slice none 0 0, .int .i64 0, .slice none 0 0, .slice none 0 0] 48))
  have HB0 := hide (below_alloc w (.cells #[.int .i64 0, .int .i64 0, .string ⟨#[]⟩, .pointer none, .slice none 0 0, .int .i64 0, .slice none 0 0, .slice none 0 0] 48))
  have HD0 := hide (HR.out.below HB0.out)
  generalize (w.alloc (.cells #[.int .i64 0, .int .i64 0, .string ⟨#[]⟩, .pointer none, .slice none 0 0, .int .i64 0, .slice none 0 0, .slice none 0 0] 48)) = w0 at *
  refine (now_at HD0.out).mono ?_
  rintro e w1 ⟨rfl, hb1⟩
  have HD1 := hide (HD0.out.below hb1)
  have HB1 := hide (Below.step HB0.out hb1)
  have HS1 := hide (Below.blk hb1 HN0.out)
  clear hb1
  go_wp2_with fail
  refine (name_at HD1.out).mono ?_
  rintro e w2 h2
  rcases h2.cases with ⟨er2, p2, A2, hr2, rfl, hA2, hk2⟩ | ⟨a2, k2, v2, hr2, rfl, hv2, hd2, hk2⟩
  · have Hr2 := hide hr2
    have HA2 := hide hA2
    have HK2 := hide ((Kept.of HB1.out).trans hk2)
    clear h2 hr2 hA2 hk2
    go_wp2_with fail
    exact ⟨rfl, Rds.bad (by simp only [actP, Hr2.out, Res.bind]) HK2.out HA2.out⟩
  · have Hr2 := hide hr2
    have HD2 := hide hd2
    have HK2 := hide ((Kept.of HB1.out).trans hk2)
    subst hv2
    have HX2 := hide hk2
    clear h2 hr2 hd2 hk2
    go_wp2_with fail
    have HS2 := hide (HX2.out.blk HS1.out HSR.out)
    have HVR := hide (show w2.heap.size ≠ R by have := HD2.out.Rlt; omega)
    have HVT := hide (show w2.heap.size ≠ T by have := HD2.out.Tlt; omega)
    have HVB := hide (show 5 ≤ w2.heap.size by have := HD2.out.Rlt; have := HD2.out.big; omega)
    have HSV := hide (show w.heap.size ≠ w2.heap.size by have := blk_lt HS2.out; omega)
    have HN3 := hide (blk_new w2 (.cells #[.int .i64 0, .int .i64 (tk ts k).pos, .string a2, .pointer none, .slice none 0 0, .int .i64 0, .slice none 0 0, .slice none 0 0] 48))
    have HD3 := hide (HD2.out.below (below_alloc w2 (.cells #[.int .i64 0, .int .i64 (tk ts k).pos, .string a2, .pointer none, .slice none 0 0, .int .i64 0, .slice none 0 0, .slice none 0 0] 48)))
    have HK3 := hide (HK2.out.alloc (.cells #[.int .i64 0, .int .i64 (tk ts k).pos, .string a2, .pointer none, .slice none 0 0, .int .i64 0, .slice none 0 0, .slice none 0 0] 48))
    have HS3 := hide (Below.blk (below_alloc w2 (.cells #[.int .i64 0, .int .i64 (tk ts k).pos, .string a2, .pointer none, .slice none 0 0, .int .i64 0, .slice none 0 0, .slice none 0 0] 48)) HS2.out)
    have HWV := hide HK2.out.size
    have HVL := hide (blk_lt HN3.out)
    have HSL := hide (blk_lt HS3.out)
    generalize (w2.alloc (.cells #[.int .i64 0, .int .i64 (tk ts k).pos, .string a2, .pointer none, .slice none 0 0, .int .i64 0, .slice none 0 0, .slice none 0 0] 48)) = w3 at *
    generalize w2.heap.size = V at *
    cases h4 : (tx ts k2 == [58, 61]) with
    | true =>
      have H4 := hide h4
      clear h4
      have HOE : Hid (twoP ts f 1 0 (k2 + 1) ≠ .out) := fun e => HO.out (by simp only [actP, Hr2.out, Res.bind, H4.out, if_true, e])
      refine (yes_at [58, 61] (by decide) HD3.out H4.out).mono ?_
      rintro e w4 ⟨rfl, hd4, hk4⟩
      have HD4 := hide hd4
      have HK4 := hide (HK3.out.trans hk4)
      have HV4 := hide (hk4.blk HN3.out HVR.out)
      have HS4 := hide (hk4.blk HS3.out HSR.out)
      have HVL4 := hide (blk_lt HV4.out)
      have HSL4 := hide (blk_lt HS4.out)
      have HRL4 := hide hd4.Rlt
      clear hd4 hk4
      go_wp2_with fail
      refine (expr_at f HD4.out HOE.out).mono ?_
      rintro e w5 h5
      rcases h5.cases with ⟨er5, p5, A5, hr5, rfl, hA5, hk5⟩ | ⟨a5, k5, v5, hr5, rfl, hv5, hd5, hk5⟩
      · have Hr5 := hide hr5
        have HA5 := hide hA5
        have HK5 := hide (HK4.out.trans hk5)
        clear h5 hr5 hA5 hk5
        go_wp2_with fail
        exact ⟨rfl, Rds.bad (by simp only [actP, Hr2.out, H4.out, if_true, Hr5.out, Res.bind]) HK5.out HA5.out⟩
      · have Hr5 := hide hr5
        have HD5 := hide hd5
        have HK5 := hide (HK4.out.trans hk5)
        obtain ⟨Q5, rfl⟩ := hv5.ptr
        have HX5 := hide hv5
        have HV5 := hide (hk5.blk HV4.out HVR.out)
        have HS5 := hide (hk5.blk HS4.out HSR.out)
        clear hv5
        clear h5 hr5 hd5 hk5
        have HV6 := hide (blk_set (blk_set HV5.out 0 (.int .i64 1)) 3 (.pointer (some ⟨Q5, 0, none⟩)))
        have HS6 : Hid (((w5.setCell ⟨V, 0, none⟩ (.int .i64 1)).setCell ⟨V, 3, none⟩ (.pointer (some ⟨Q5, 0, none⟩))).heap[w.heap.size]? = _) := (set_other _ 3 _ HSV.out).trans ((set_other _ 0 _ HSV.out).trans HS5.out)
        have HD6 := hide ((HD5.out.other 0 (.int .i64 1) HVR.out HVT.out HVB.out).other 3 (.pointer (some ⟨Q5, 0, none⟩)) HVR.out HVT.out HVB.out)
        have HK6 := hide ((HK5.out.new 0 (.int .i64 1) HWV.out).new 3 (.pointer (some ⟨Q5, 0, none⟩)) HWV.out)
        have HX6 := hide (HX5.out.same (w' := (w5.setCell ⟨V, 0, none⟩ (.int .i64 1)).setCell ⟨V, 3, none⟩ (.pointer (some ⟨Q5, 0, none⟩))) fun b h1 _ => (set_other _ 3 _ (by have : w4.heap.size ≤ b := h1; have := HVL4.out; omega)).trans (set_other _ 0 _ (by have : w4.heap.size ≤ b := h1; have := HVL4.out; omega)))
        have vv0 : w5.cell? ⟨V, 0, none⟩ = some (.int .i64 0) := by rw [blk_cell HV5.out]; rfl
        have vv3 : w5.cell? ⟨V, 3, none⟩ = some (.pointer none) := by rw [blk_cell HV5.out]; rfl
        have vvf : ∀ i, w5.frozen? ⟨V, i, none⟩ = false := blk_frozen HV5.out
        go_wp2_with fail
        clear vv0 vv3 vvf
        generalize (w5.setCell ⟨V, 0, none⟩ (.int .i64 1)).setCell ⟨V, 3, none⟩ (.pointer (some ⟨Q5, 0, none⟩)) = w6 at *
        refine (need_at [59] (by decide) HD6.out).mono ?_
        rintro e w7 h7
        rcases h7.cases with ⟨er7, p7, A7, hr7, rfl, hA7, hk7⟩ | ⟨a7, k7, v7, hr7, rfl, hv7, hd7, hk7⟩
        · have Hr7 := hide hr7
          have HA7 := hide hA7
          have HK7 := hide (HK6.out.trans hk7)
          clear h7 hr7 hA7 hk7
          go_wp2_with fail
          exact ⟨rfl, Rds.bad (by simp only [actP, Hr2.out, H4.out, if_true, Hr5.out, Hr7.out, Res.bind]) HK7.out HA7.out⟩
        · have Hr7 := hide hr7
          have HD7 := hide hd7
          have HK7 := hide (HK6.out.trans hk7)
          subst hv7
          have HV7 := hide (hk7.blk HV6.out HVR.out)
          have HS7 := hide (hk7.blk HS6.out HSR.out)
          have HX7 := hide (HX6.out.kept hk7 HRL4.out)
          clear h7 hr7 hd7 hk7
          have v0 : w7.cell? ⟨V, 0, none⟩ = some (.int .i64 1) := by rw [blk_cell HV7.out]; rfl
          have v1 : w7.cell? ⟨V, 1, none⟩ = some (.int .i64 (tk ts k).pos) := by rw [blk_cell HV7.out]; rfl
          have v2 : w7.cell? ⟨V, 2, none⟩ = some (.string a2) := by rw [blk_cell HV7.out]; rfl
          have v3 : w7.cell? ⟨V, 3, none⟩ = some (.pointer (some ⟨Q5, 0, none⟩)) := by rw [blk_cell HV7.out]; rfl
          have v4 : w7.cell? ⟨V, 4, none⟩ = some (.slice none 0 0) := by rw [blk_cell HV7.out]; rfl
          have v5 : w7.cell? ⟨V, 5, none⟩ = some (.int .i64 0) := by rw [blk_cell HV7.out]; rfl
          have v6 : w7.cell? ⟨V, 6, none⟩ = some (.slice none 0 0) := by rw [blk_cell HV7.out]; rfl
          have v7 : w7.cell? ⟨V, 7, none⟩ = some (.slice none 0 0) := by rw [blk_cell HV7.out]; rfl
          have vf : ∀ i, w7.frozen? ⟨V, i, none⟩ = false := blk_frozen HV7.out
          have s0 : w7.cell? ⟨w.heap.size, 0, none⟩ = some (.int .i64 0) := by rw [blk_cell HS7.out]; rfl
          have s1 : w7.cell? ⟨w.heap.size, 1, none⟩ = some (.int .i64 0) := by rw [blk_cell HS7.out]; rfl
          have s2 : w7.cell? ⟨w.heap.size, 2, none⟩ = some (.string ⟨#[]⟩) := by rw [blk_cell HS7.out]; rfl
          have s3 : w7.cell? ⟨w.heap.size, 3, none⟩ = some (.pointer none) := by rw [blk_cell HS7.out]; rfl
          have s4 : w7.cell? ⟨w.heap.size, 4, none⟩ = some (.slice none 0 0) := by rw [blk_cell HS7.out]; rfl
          have s5 : w7.cell? ⟨w.heap.size, 5, none⟩ = some (.int .i64 0) := by rw [blk_cell HS7.out]; rfl
          have s6 : w7.cell? ⟨w.heap.size, 6, none⟩ = some (.slice none 0 0) := by rw [blk_cell HS7.out]; rfl
          have s7 : w7.cell? ⟨w.heap.size, 7, none⟩ = some (.slice none 0 0) := by rw [blk_cell HS7.out]; rfl
          have sf : ∀ i, w7.frozen? ⟨w.heap.size, i, none⟩ = false := blk_frozen HS7.out
          go_wp2_with fail
          refine bodyPost_ret (v := .agg #[.int .i64 1, .int .i64 (tk ts k).pos, .string a2, .pointer (some ⟨Q5, 0, none⟩), .slice none 0 0, .int .i64 0, .slice none 0 0, .slice none 0 0]) (by simp [results, Tryd.results57, go_sem, s0, s1, s2, s3, s4, s5, s6, s7]) rfl ?_
          refine Rds.ok (a := St.set (tk ts k).pos a2 a5) (k' := k7) (by simp only [actP, Hr2.out, H4.out, if_true, Hr5.out, Hr7.out, Res.bind]) (Kept.put8 HK7.out _ _ _ _ _ _ _ _ HWS.out) (Rd.put8 HD7.out _ _ _ _ _ _ _ _ HSR.out HST.out HSB.out) ⟨[.int .i64 1, .int .i64 (tk ts k).pos, .string a2, .pointer (some ⟨Q5, 0, none⟩), .slice none 0 0, .int .i64 0, .slice none 0 0, .slice none 0 0], rfl, ?_⟩
          simp only [IsSt]
          refine ⟨_, rfl, ?_⟩
          exact (HX7.out.same fun b h1 _ => put8_other _ _ _ _ _ _ _ _ _ (by have : w4.heap.size ≤ b := h1; have := HSL4.out; omega)).low HK4.out.size
    | false =>
      have H4 := hide h4
      clear h4
      refine (no_at [58, 61] HD3.out H4.out).mono ?_
      rintro e w4 ⟨rfl, hd4, hk4⟩
      have HD4 := hide hd4
      have HK4 := hide (HK3.out.trans hk4)
      have HV4 := hide (hk4.blk HN3.out HVR.out)
      have HS4 := hide (hk4.blk HS3.out HSR.out)
      clear hd4 hk4
      go_wp2_with fail
      refine (need_at [40] (by decide) HD4.out).mono ?_
      rintro e w5 h5
      rcases h5.cases with ⟨er5, p5, A5, hr5, rfl, hA5, hk5⟩ | ⟨a5, k5, v5, hr5, rfl, hv5, hd5, hk5⟩
      · have Hr5 := hide hr5
        have HA5 := hide hA5
        have HK5 := hide (HK4.out.trans hk5)
        clear h5 hr5 hA5 hk5
        go_wp2_with fail
        exact ⟨rfl, Rds.bad (by simp only [actP, Hr2.out, H4.out, Bool.false_eq_true, if_false, Hr5.out, Res.bind]) HK5.out HA5.out⟩
      · have Hr5 := hide hr5
        have HD5 := hide hd5
        have HK5 := hide (HK4.out.trans hk5)
        subst hv5
        have HV5 := hide (hk5.blk HV4.out HVR.out)
        have HS5 := hide (hk5.blk HS4.out HSR.out)
        clear h5 hr5 hd5 hk5
        have HOA : Hid (argsP ts f k5 [] ≠ .out) := fun e => HO.out (by simp only [actP, Hr2.out, Res.bind, H4.out, Bool.false_eq_true, if_false, Hr5.out, e])
        have HV6 := hide (blk_set HV5.out 0 (.int .i64 3))
        have HS6 : Hid ((w5.setCell ⟨V, 0, none⟩ (.int .i64 3)).heap[w.heap.size]? = _) := (set_other _ 0 _ HSV.out).trans HS5.out
        have HD6 := hide (HD5.out.other 0 (.int .i64 3) HVR.out HVT.out HVB.out)
        have HK6 := hide (HK5.out.new 0 (.int .i64 3) HWV.out)
        have vv0 : w5.cell? ⟨V, 0, none⟩ = some (.int .i64 0) := by rw [blk_cell HV5.out]; rfl
        have vvf : ∀ i, w5.frozen? ⟨V, i, none⟩ = false := blk_frozen HV5.out
        go_wp2_with fail
        clear vv0 vvf
        generalize (w5.setCell ⟨V, 0, none⟩ (.int .i64 3)) = w6 at *
        have HVL6 := hide (blk_lt HV6.out)
        have HSL6 := hide (blk_lt HS6.out)
        have HRL6 := hide HD6.out.Rlt
        refine (args_at f HD6.out HOA.out).mono ?_
        rintro e w7 h7
        rcases h7.cases with ⟨er7, p7, A7, hr7, rfl, hA7, hk7⟩ | ⟨a7, k7, v7, hr7, rfl, hv7, hd7, hk7⟩
        · have Hr7 := hide hr7
          have HA7 := hide hA7
          have HK7 := hide (HK6.out.trans hk7)
          clear h7 hr7 hA7 hk7
          go_wp2_with fail
          exact ⟨rfl, Rds.bad (by simp only [actP, Hr2.out, H4.out, Bool.false_eq_true, if_false, Hr5.out, Hr7.out, Res.bind]) HK7.out HA7.out⟩
        · have Hr7 := hide hr7
          have HD7 := hide hd7
          have HK7 := hide (HK6.out.trans hk7)
          obtain ⟨vl, rfl, hx7⟩ := hv7
          obtain ⟨sa, sc, rfl⟩ := (show ∃ (a : Option Addr) (c : Nat), vl = .slice a a7.1.length c from by obtain ⟨vs, hr, _⟩ := hx7; exact hr.val)
          have HX7 := hide hx7
          have HV7 := hide (hk7.blk HV6.out HVR.out)
          have HS7 := hide (hk7.blk HS6.out HSR.out)
          clear hx7
          clear h7 hr7 hd7 hk7
          have HV8 := hide (blk_set (blk_set HV7.out 4 (.slice sa a7.1.length sc)) 5 (.int .i64 a7.2))
          have HS8 : Hid (((w7.setCell ⟨V, 4, none⟩ (.slice sa a7.1.length sc)).setCell ⟨V, 5, none⟩ (.int .i64 a7.2)).heap[w.heap.size]? = _) := (set_other _ 5 _ HSV.out).trans ((set_other _ 4 _ HSV.out).trans HS7.out)
          have HD8 := hide ((HD7.out.other 4 (.slice sa a7.1.length sc) HVR.out HVT.out HVB.out).other 5 (.int .i64 a7.2) HVR.out HVT.out HVB.out)
          have HK8 := hide ((HK7.out.new 4 (.slice sa a7.1.length sc) HWV.out).new 5 (.int .i64 a7.2) HWV.out)
          have HX8 := hide (HX7.out.same (w' := (w7.setCell ⟨V, 4, none⟩ (.slice sa a7.1.length sc)).setCell ⟨V, 5, none⟩ (.int .i64 a7.2)) fun b h1 _ => (set_other _ 5 _ (by have : w6.heap.size ≤ b := h1; have := HVL6.out; omega)).trans (set_other _ 4 _ (by have : w6.heap.size ≤ b := h1; have := HVL6.out; omega)))
          have vv4 : w7.cell? ⟨V, 4, none⟩ = some (.slice none 0 0) := by rw [blk_cell HV7.out]; rfl
          have vv5 : w7.cell? ⟨V, 5, none⟩ = some (.int .i64 0) := by rw [blk_cell HV7.out]; rfl
          have vvf : ∀ i, w7.frozen? ⟨V, i, none⟩ = false := blk_frozen HV7.out
          go_wp2_with fail
          clear vv4 vv5 vvf
          generalize ((w7.setCell ⟨V, 4, none⟩ (.slice sa a7.1.length sc)).setCell ⟨V, 5, none⟩ (.int .i64 a7.2)) = w8 at *
          refine (need_at [41] (by decide) HD8.out).mono ?_
          rintro e w9 h9
          rcases h9.cases with ⟨er9, p9, A9, hr9, rfl, hA9, hk9⟩ | ⟨a9, k9, v9, hr9, rfl, hv9, hd9, hk9⟩
          · have Hr9 := hide hr9
            have HA9 := hide hA9
            have HK9 := hide (HK8.out.trans hk9)
            clear h9 hr9 hA9 hk9
            go_wp2_with fail
            exact ⟨rfl, Rds.bad (by simp only [actP, Hr2.out, H4.out, Bool.false_eq_true, if_false, Hr5.out, Hr7.out, Hr9.out, Res.bind]) HK9.out HA9.out⟩
          · have Hr9 := hide hr9
            have HD9 := hide hd9
            have HK9 := hide (HK8.out.trans hk9)
            subst hv9
            have HV9 := hide (hk9.blk HV8.out HVR.out)
            have HS9 := hide (hk9.blk HS8.out HSR.out)
            have HX9 := hide (HX8.out.same fun b h1 h2 => hk9.block b h2 (by have : w6.heap.size ≤ b := h1; have := HRL6.out; omega))
            clear h9 hr9 hd9 hk9
            go_wp2_with fail
            refine (need_at [59] (by decide) HD9.out).mono ?_
            rintro e w10 h10
            rcases h10.cases with ⟨er10, p10, A10, hr10, rfl, hA10, hk10⟩ | ⟨a10, k10, v10, hr10, rfl, hv10, hd10, hk10⟩
            · have Hr10 := hide hr10
              have HA10 := hide hA10
              have HK10 := hide (HK9.out.trans hk10)
              clear h10 hr10 hA10 hk10
              go_wp2_with fail
              exact ⟨rfl, Rds.bad (by simp only [actP, Hr2.out, H4.out, Bool.false_eq_true, if_false, Hr5.out, Hr7.out, Hr9.out, Hr10.out, Res.bind]) HK10.out HA10.out⟩
            · have Hr10 := hide hr10
              have HD10 := hide hd10
              have HK10 := hide (HK9.out.trans hk10)
              subst hv10
              have HV10 := hide (hk10.blk HV9.out HVR.out)
              have HS10 := hide (hk10.blk HS9.out HSR.out)
              have HX10 := hide (HX9.out.same fun b h1 h2 => hk10.block b h2 (by have : w6.heap.size ≤ b := h1; have := HRL6.out; omega))
              clear h10 hr10 hd10 hk10
              have v0 : w10.cell? ⟨V, 0, none⟩ = some (.int .i64 3) := by rw [blk_cell HV10.out]; rfl
              have v1 : w10.cell? ⟨V, 1, none⟩ = some (.int .i64 (tk ts k).pos) := by rw [blk_cell HV10.out]; rfl
              have v2 : w10.cell? ⟨V, 2, none⟩ = some (.string a2) := by rw [blk_cell HV10.out]; rfl
              have v3 : w10.cell? ⟨V, 3, none⟩ = some (.pointer none) := by rw [blk_cell HV10.out]; rfl
              have v4 : w10.cell? ⟨V, 4, none⟩ = some (.slice sa a7.1.length sc) := by rw [blk_cell HV10.out]; rfl
              have v5 : w10.cell? ⟨V, 5, none⟩ = some (.int .i64 a7.2) := by rw [blk_cell HV10.out]; rfl
              have v6 : w10.cell? ⟨V, 6, none⟩ = some (.slice none 0 0) := by rw [blk_cell HV10.out]; rfl
              have v7 : w10.cell? ⟨V, 7, none⟩ = some (.slice none 0 0) := by rw [blk_cell HV10.out]; rfl
              have vf : ∀ i, w10.frozen? ⟨V, i, none⟩ = false := blk_frozen HV10.out
              have s0 : w10.cell? ⟨w.heap.size, 0, none⟩ = some (.int .i64 0) := by rw [blk_cell HS10.out]; rfl
              have s1 : w10.cell? ⟨w.heap.size, 1, none⟩ = some (.int .i64 0) := by rw [blk_cell HS10.out]; rfl
              have s2 : w10.cell? ⟨w.heap.size, 2, none⟩ = some (.string ⟨#[]⟩) := by rw [blk_cell HS10.out]; rfl
              have s3 : w10.cell? ⟨w.heap.size, 3, none⟩ = some (.pointer none) := by rw [blk_cell HS10.out]; rfl
              have s4 : w10.cell? ⟨w.heap.size, 4, none⟩ = some (.slice none 0 0) := by rw [blk_cell HS10.out]; rfl
              have s5 : w10.cell? ⟨w.heap.size, 5, none⟩ = some (.int .i64 0) := by rw [blk_cell HS10.out]; rfl
              have s6 : w10.cell? ⟨w.heap.size, 6, none⟩ = some (.slice none 0 0) := by rw [blk_cell HS10.out]; rfl
              have s7 : w10.cell? ⟨w.heap.size, 7, none⟩ = some (.slice none 0 0) := by rw [blk_cell HS10.out]; rfl
              have sf : ∀ i, w10.frozen? ⟨w.heap.size, i, none⟩ = false := blk_frozen HS10.out
              go_wp2_with fail
              refine bodyPost_ret (v := .agg #[.int .i64 3, .int .i64 (tk ts k).pos, .string a2, .pointer none, .slice sa a7.1.length sc, .int .i64 a7.2, .slice none 0 0, .slice none 0 0]) (by simp [results, Tryd.results57, go_sem, s0, s1, s2, s3, s4, s5, s6, s7]) rfl ?_
              refine Rds.ok (a := St.call (tk ts k).pos a2 a7.1 a7.2) (k' := k10) (by simp only [actP, Hr2.out, H4.out, Bool.false_eq_true, if_false, Hr5.out, Hr7.out, Hr9.out, Hr10.out, Res.bind]) (Kept.put8 HK10.out _ _ _ _ _ _ _ _ HWS.out) (Rd.put8 HD10.out _ _ _ _ _ _ _ _ HSR.out HST.out HSB.out) ⟨[.int .i64 3, .int .i64 (tk ts k).pos, .string a2, .pointer none, .slice sa a7.1.length sc, .int .i64 a7.2, .slice none 0 0, .slice none 0 0], rfl, ?_⟩
              simp only [IsSt]
              refine ⟨_, rfl, ?_⟩
              exact (HX10.out.same fun b h1 _ => put8_other _ _ _ _ _ _ _ _ _ (by have : w6.heap.size ≤ b := h1; have := HSL6.out; omega)).imp fun b _ h => Nat.le_trans HK6.out.size h

end Go.Proofs.YtiimnnancblbkaaDoor
namespace Go.Proofs.YtiimnnancblbkaaDoor
section
variable {ts : List Tok}
theorem args_lt : ∀ (f : Nat) {k k' : Nat} {acc : List Ex} {r : List Ex × Nat}, argsP ts f k acc = .ok r k' → k < k'
  | 0, _, _, _, _, h => by simp [argsP] at h
  | f + 1, k, k', acc, r, h => by
    unfold argsP at h
    split at h
    · obtain ⟨a, k1, e1, e2⟩ := bind_ok h
      have := byteP_ok e1
      cases e2; omega
    · obtain ⟨a, k1, e1, e2⟩ := bind_ok h
      have := two_lt e1
      split at e2
      · have := args_lt f e2
        omega
      · cases e2; omega
theorem act_lt {f k k' : Nat} {s : St} (h : actP ts f k = .ok s k') : k < k' := by
  unfold actP at h
  obtain ⟨a, k1, e1, e2⟩ := bind_ok h
  have := nameP_ok e1
  split at e2
  · obtain ⟨b, k2, e3, e4⟩ := bind_ok e2
    obtain ⟨c, k3, e5, e6⟩ := bind_ok e4
    have := two_lt e3
    have := wantP_ok e5
    cases e6; omega
  · obtain ⟨b, k2, e3, e4⟩ := bind_ok e2
    obtain ⟨c, k3, e5, e6⟩ := bind_ok e4
    obtain ⟨d, k4, e7, e8⟩ := bind_ok e6
    obtain ⟨u, k5, e9, e10⟩ := bind_ok e8
    have := wantP_ok e3
    have := args_lt f e5
    have := wantP_ok e7
    have := wantP_ok e9
    cases e10; omega
theorem st_mono (f : Nat) : (∀ deep k acc l k', stmtsP ts f deep k acc = .ok l k' → k ≤ k') ∧ (∀ deep k s k', branchP ts f deep k = .ok s k' → k < k') := by
  induction f with
  | zero => exact ⟨fun _ _ _ _ _ h => by simp [stmtsP] at h, fun _ _ _ _ h => by simp [branchP] at h⟩
  | succ f ih =>
    obtain ⟨h1, h2⟩ := ih
    refine ⟨fun deep k acc l k' h => ?_, fun deep k s k' h => ?_⟩
    · unfold stmtsP at h
      split at h
      · obtain ⟨a, k1, e1, e2⟩ := bind_ok h
        have := h2 _ _ _ _ e1
        have := h1 _ _ _ _ _ e2
        omega
      · split at h
        · obtain ⟨a, k1, e1, e2⟩ := bind_ok h
          have := act_lt e1
          have := h1 _ _ _ _ _ e2
          omega
        · cases h; exact Nat.le_refl _
    · unfold branchP at h
      split at h
      · cases h
      · obtain ⟨a, k1, e1, e2⟩ := bind_ok h
        obtain ⟨b, k2, e3, e4⟩ := bind_ok e2
        obtain ⟨c, k3, e5, e6⟩ := bind_ok e4
        have := two_lt e1
        have := wantP_ok e3
        have := h1 _ _ _ _ _ e5
        split at e6
        · obtain ⟨d, k4, e7, e8⟩ := bind_ok e6
          have := h2 _ _ _ _ e7
          cases e8; omega
        · obtain ⟨d, k4, e7, e8⟩ := bind_ok e6
          obtain ⟨u, k5, e9, e10⟩ := bind_ok e8
          obtain ⟨v, k6, e11, e12⟩ := bind_ok e10
          have := wantP_ok e9
          have := wantP_ok e11
          have h7 : k3 ≤ k4 := by
            split at e7
            · have := h1 _ _ _ _ _ e7; omega
            · cases e7; exact Nat.le_refl _
          cases e12; omega
theorem branch_lt {f deep k k' : Nat} {s : St} (h : branchP ts f deep k = .ok s k') : k < k' := (st_mono f).2 _ _ _ _ h

theorem args_out : ∀ (f : Nat) {k : Nat} {acc : List Ex}, 11 * (ts.length - k) + 30 < f → argsP ts f k acc ≠ .out
  | 0, _, _, h => by omega
  | f + 1, k, acc, hf => by
    intro h
    unfold argsP at h
    split at h
    · rcases bind_out h with e | ⟨a, k1, e1, e2⟩
      · exact byteP_out e
      · cases e2
    · rcases bind_out h with e | ⟨a, k1, e1, e2⟩
      · exact (ex_out f).1 1 0 k (by omega) (by omega) (by omega) e
      · have := two_lt e1
        split at e2
        · rename_i hc
          have hk1 : k1 < ts.length := by
            by_cases hk : ts.length ≤ k1
            · rw [tx_past hk] at hc; simp at hc
            · omega
          exact args_out f (by omega) e2
        · cases e2
theorem act_out {f k : Nat} (hf : 11 * (ts.length - k) + 30 < f) : actP ts f k ≠ .out := by
  intro h
  unfold actP at h
  rcases bind_out h with e | ⟨a, k1, e1, e2⟩
  · exact nameP_out e
  have := nameP_ok e1
  split at e2
  · rcases bind_out e2 with e | ⟨b, k2, e3, e4⟩
    · exact (ex_out f).1 1 0 _ (by omega) (by omega) (by omega) e
    · rcases bind_out e4 with e | ⟨c, k3, e5, e6⟩
      · exact wantP_out e
      · cases e6
  · rcases bind_out e2 with e | ⟨b, k2, e3, e4⟩
    · exact wantP_out e
    · have := wantP_ok e3
      rcases bind_out e4 with e | ⟨c, k3, e5, e6⟩
      · exact args_out f (by omega) e
      · rcases bind_out e6 with e | ⟨d, k4, e7, e8⟩
        · exact wantP_out e
        · rcases bind_out e8 with e | ⟨u, k5, e9, e10⟩
          · exact wantP_out e
          · cases e10
theorem st_out (f : Nat) : (∀ deep k acc, 12 * (ts.length - k) + 40 < f → stmtsP ts f deep k acc ≠ .out) ∧ (∀ deep k, k < ts.length → 12 * (ts.length - k) + 39 < f → branchP ts f deep k ≠ .out) := by
  induction f with
  | zero => exact ⟨fun _ _ _ h => by omega, fun _ _ _ h => by omega⟩
  | succ f ih =>
    obtain ⟨h1, h2⟩ := ih
    refine ⟨fun deep k acc hf h => ?_, fun deep k hk hf h => ?_⟩
    · unfold stmtsP at h
      split at h
      · rename_i hc
        have hk : k < ts.length := by
          by_cases hk : ts.length ≤ k
          · rw [tx_past hk] at hc; simp at hc
          · omega
        rcases bind_out h with e | ⟨a, k1, e1, e2⟩
        · exact h2 _ _ hk (by omega) e
        · have := branch_lt e1
          exact h1 _ _ _ (by omega) e2
      · split at h
        · rename_i hc
          have hk : k < ts.length := by
            by_cases hk : ts.length ≤ k
            · rw [tk_past hk] at hc; simp [isNm] at hc
            · omega
          rcases bind_out h with e | ⟨a, k1, e1, e2⟩
          · exact act_out (by omega) e
          · have := act_lt e1
            exact h1 _ _ _ (by omega) e2
        · cases h
    · unfold branchP at h
      split at h
      · cases h
      · rcases bind_out h with e | ⟨a, k1, e1, e2⟩
        · exact (ex_out f).1 1 0 _ (by omega) (by omega) (by omega) e
        have := two_lt e1
        rcases bind_out e2 with e | ⟨b, k2, e3, e4⟩
        · exact wantP_out e
        have := wantP_ok e3
        rcases bind_out e4 with e | ⟨c, k3, e5, e6⟩
        · exact h1 _ _ _ (by omega) e
        have := (st_mono f).1 _ _ _ _ _ e5
        split at e6
        · rename_i hc
          have hk3 : k3 < ts.length := by
            by_cases hk : ts.length ≤ k3
            · rw [tx_past hk] at hc; simp at hc
            · omega
          rcases bind_out e6 with e | ⟨d, k4, e7, e8⟩
          · exact h2 _ _ hk3 (by omega) e
          · cases e8
        · rcases bind_out e6 with e | ⟨d, k4, e7, e8⟩
          · split at e
            · exact h1 _ _ _ (by omega) e
            · cases e
          · rcases bind_out e8 with e | ⟨u, k5, e9, e10⟩
            · exact wantP_out e
            · rcases bind_out e10 with e | ⟨v, k6, e11, e12⟩
              · exact wantP_out e
              · cases e12
end
end Go.Proofs.YtiimnnancblbkaaDoor
namespace Go.Proofs.YtiimnnancblbkaaDoor
open Go.RowKit

theorem row_new (w : World) (t : TypeId) (l : List Value) : ∀ (j : Nat) (x : Value), l[j]? = some x → (w.alloc (.cells l.toArray t)).cell? ((⟨w.heap.size, 0, none⟩ : Addr).add j) = some x := by
  intro j x hx
  rw [show ((⟨w.heap.size, 0, none⟩ : Addr).add j) = ⟨w.heap.size, j, none⟩ by unfold Addr.add; split <;> simp_all]
  rw [blk_cell (blk_new w _)]
  simpa using hx
theorem eight (c : List Value) (h : c.length = 8) : ∃ c0 c1 c2 c3 c4 c5 c6 c7, c = [c0, c1, c2, c3, c4, c5, c6, c7] := by
  match c, h with
  | [c0, c1, c2, c3, c4, c5, c6, c7], _ => exact ⟨c0, c1, c2, c3, c4, c5, c6, c7, rfl⟩
theorem info_st : ∃ i, Tryd.prog.info? 48 = some i ∧ i.zero = some (.agg #[.int .i64 0, .int .i64 0, .string ⟨#[]⟩, .pointer none, .slice none 0 0, .int .i64 0, .slice none 0 0, .slice none 0 0]) ∧ i.size = 8 ∧ i.bytes = 120 := info_parts (by kernel_rfl)

def BranchOK (f : Nat) : Prop := ∀ (w : World) (R T cap : Nat) (ts : List Tok) (deep k : Nat), Rd w R T cap ts k → deep ≤ 8 → k + 1 < ts.length → branchP ts f deep k ≠ .out →
  Calls Tryd.prog 55 #[.pointer (some ⟨R, 0, none⟩), .int .i64 deep] w (Rds w R T cap ts (StRep w) (branchP ts f deep k))
def StmtsOK (f : Nat) : Prop := ∀ (w : World) (R T cap : Nat) (ts : List Tok) (deep k : Nat), Rd w R T cap ts k → deep ≤ 8 → stmtsP ts f deep k [] ≠ .out →
  Calls Tryd.prog 34 #[.pointer (some ⟨R, 0, none⟩), .int .i64 deep] w (Rds w R T cap ts (fun w' v l => IsSts (From w.heap.size) w' l v) (stmtsP ts f deep k []))

set_option maxRecDepth 100000 in
set_option maxHeartbeats 6400000 in
theorem stmts_ok (f : Nat) (ih : ∀ g, g < f → BranchOK g) : StmtsOK f := by
  intro w R T cap ts deep k h hdp hout
  have q1 := fld1
  obtain ⟨i0, hi, hz0, hz1, hz2⟩ := info_st
  have HR := hide h
  have HO := hide hout
  have IH := hide ih
  clear h hout ih
  go_enter Tryd.func34, Tryd.ntmps34
  go_wp2_with fail
  go_loopw [5] (fun v wr => ∃ (g : Nat) (acc : List St) (k2 : Nat), Hid (Growing w.heap.size wr acc v) ∧ Hid (Rd wr R T cap ts k2) ∧ Hid (Kept R w wr) ∧ Hid (stmtsP ts f deep k [] = stmtsP ts g deep k2 acc) ∧ Hid (acc.length ≤ k2 ∧ g ≤ f)) (fun _ wr => ts.length - nextOf R wr)
  case atStart => exact ⟨f, [], k, Growing.nil .., HR, Kept.refl R w, rfl, (⟨Nat.zero_le k, Nat.le_refl f⟩ : _ ∧ _)⟩
  case round =>
    obtain ⟨g, acc, k2, hy, hd2, hk2, he2, hacg⟩ := hrel
    have hac : Hid (acc.length ≤ k2) := hacg.out.1
    have HNX : Hid (nextOf R wr = k2) := hd2.out.nextOf_eq
    have hk8 : k2 < 801 := by have := hd2.out.fit.len; have := hd2.out.lt; omega
    cases g with
    | zero => exact absurd (he2.out.trans (by simp only [stmtsP])) HO.out
    | succ g =>
    have HGF := hide (show g < f by have := hacg.out.2; omega)
    obtain ⟨va, vc, hv⟩ := hy.out.val
    subst hv
    cases hif : (tx ts k2 == [105, 102]) with
    | true =>
      have HIF := hide hif
      have htx : ((tk ts k2).text.toList == [105, 102]) = true := hif
      have HMORE := hide (hd2.out.fit.more hd2.out.lt hif (by decide))
      have HOB : Hid (branchP ts g deep k2 ≠ .out) := fun e => HO.out (he2.out.trans (by simp only [stmtsP, hif, if_true, e, Res.bind]))
      clear hif
      go_wp2_with fail
      refine (now_at hd2.out).mono ?_
      rintro e w3 ⟨rfl, hb3⟩
      have HD3 := hide (hd2.out.below hb3)
      have HK3 := hide (hk2.out.below hb3)
      have HY3 := hide (hy.out.same fun b _ h2 => hb3.block b h2)
      clear hb3
      go_wp2_with fail
      refine (IH.out g HGF.out w3 R T cap ts deep k2 HD3.out hdp HMORE.out HOB.out).mono ?_
      rintro e w6 h6
      rcases h6.cases with ⟨er6, p6, A6, hr6, rfl, hA6, hk6⟩ | ⟨a6, k6, v6, hr6, rfl, hv6, hd6, hk6⟩
      · have Hr6 := hide hr6
        have HA6 := hide hA6
        have HK6 := hide (HK3.out.trans hk6)
        clear h6 hr6 hA6 hk6
        go_wp2_with fail
        exact ⟨rfl, Rds.bad (by rw [he2.out]; simp only [stmtsP, HIF.out, if_true, Hr6.out, Res.bind]) HK6.out HA6.out⟩
      · have Hr6 := hide hr6
        have HD6 := hide hd6
        have HK6 := hide (HK3.out.trans hk6)
        obtain ⟨c, rfl, hst⟩ := hv6
        obtain ⟨hc8, hone⟩ := IsSt.form _ _ hst
        obtain ⟨c0, c1, c2, c3, c4, c5, c6, c7, rfl⟩ := eight c hc8
        have HST6 := hide hst
        have HONE := hide hone
        have HLT6 : Hid (k2 < k6) := branch_lt hr6
        have HY6 := hide (HY3.out.same fun b h1 h2 => hk6.block b h2 (by have := HR.out.Rlt; omega))
        have HV5 := hide (show ∀ b, (Value.slice va acc.length vc).ownBlock = some b → b < w3.heap.size from by obtain ⟨cs, hr, _⟩ := HY3.out; exact fun b hb => (hr.1.lt b hb).2)
        have H56 := hide hk6.size
        clear h6 hr6 hd6 hk6 hst hc8 hone
        obtain ⟨cs, hrow, hall⟩ := HY6.out
        have HROW := hide hrow
        have HALL := hide hall
        clear hrow hall
        have HOWN := hide ((HROW.out.1).alloc (.cells #[c0, c1, c2, c3, c4, c5, c6, c7] 48))
        go_wp2_with (at_builtin; (refine append_new rfl (.tmp 12) (.tmp 16) 25 rfl 48 i0 (.agg #[.int .i64 0, .int .i64 0, .string ⟨#[]⟩, .pointer none, .slice none 0 0, .int .i64 0, .slice none 0 0, .slice none 0 0]) 8 120 Tryd.underlying25 hi hz0 hz1 hz2 rfl (by decide) _ acc.length cs.flatten rfl HOWN.out ⟨w6.heap.size, 0, none⟩ 1 [c0, c1, c2, c3, c4, c5, c6, c7] rfl rfl ?c1 ?c2 ?c3 (by decide) ?_))
        case c1 => exact row_new _ _ _
        case c2 => exact HONE.out
        case c3 => have := hac.out; omega
        · intro v7 w7 hown7 hg7 hb7
          have HE7 := hide (sts_snoc (.cells #[c0, c1, c2, c3, c4, c5, c6, c7] 48) rfl HK3.out.size H56.out HK6.out HV5.out HROW.out HALL.out HST6.out hown7 hg7 hb7)
          have HD7 : Hid (Rd w7 R T cap ts k6) := HD6.out.grown (N := w.heap.size) (Kept.of (below_alloc w6 (.cells #[c0, c1, c2, c3, c4, c5, c6, c7] 48))) hg7 (fun b hb => HROW.out.2 b hb) HR.out.Rlt HR.out.Tlt (Below.heap_alloc _ _ _ HD6.out.Rlt) (by have := HR.out.big; have := HR.out.Rlt; omega)
          obtain ⟨va7, vc7, hv7⟩ := HE7.out.1.val
          subst hv7
          clear hown7 hg7 hb7
          go_wp2_with fail
          refine ⟨⟨g, acc ++ [a6], k6, HE7.out.1, HD7, HE7.out.2, ?_, ?_⟩, ?_⟩
          · show _ = _
            rw [he2.out]; simp only [stmtsP, HIF.out, if_true, Hr6.out, Res.bind]
          · have h1 := hac.out
            have h2 := HLT6.out
            have h3 := HGF.out
            exact (⟨by simp; omega, by omega⟩ : (acc ++ [a6]).length ≤ k6 ∧ g ≤ f)
          · rw [HD7.out.nextOf_eq, HNX.out]; have := HLT6.out; have := hd2.out.lt; omega
    | false =>
      have HIF := hide hif
      have htx : ((tk ts k2).text.toList == [105, 102]) = false := hif
      cases hnm : isNm (tk ts k2) with
      | true =>
        have HNM := hide hnm
        have HI : Hid ((((tk ts k2).kind : Int) == 1 && !keptL.contains (tk ts k2).text.toList) = true) := by rw [kindZ]; exact hnm
        have HOB : Hid (actP ts g k2 ≠ .out) := fun e => HO.out (he2.out.trans (by simp only [stmtsP, hif, hnm, Bool.false_eq_true, if_false, if_true, e, Res.bind]))
        clear hif hnm
        go_wp2_with fail
        refine (now_at hd2.out).mono ?_
        rintro e w3 ⟨rfl, hb3⟩
        have HD3 := hide (hd2.out.below hb3)
        have HB3 := hide hb3
        clear hb3
        go_wp2_with fail
        refine (now_at HD3.out).mono ?_
        rintro e w4 ⟨rfl, hb4⟩
        have HD4 := hide (HD3.out.below hb4)
        have HB4 := hide (Below.step HB3.out hb4)
        clear hb4
        go_wp2_with fail
        refine (isName_at _ _ _ w4 HD4.out.vars).mono ?_
        rintro e w5 ⟨rfl, hb5⟩
        rw [HI.out]
        have HD5 := hide (HD4.out.below hb5)
        have HK5 := hide (hk2.out.below (Below.step HB4.out hb5))
        have HY5 := hide (hy.out.same fun b _ h2 => (Below.step HB4.out hb5).block b h2)
        clear hb5
        go_wp2_with fail
        refine (act_at g HD5.out HOB.out).mono ?_
        rintro e w6 h6
        rcases h6.cases with ⟨er6, p6, A6, hr6, rfl, hA6, hk6⟩ | ⟨a6, k6, v6, hr6, rfl, hv6, hd6, hk6⟩
        · have Hr6 := hide hr6
          have HA6 := hide hA6
          have HK6 := hide (HK5.out.trans hk6)
          clear h6 hr6 hA6 hk6
          go_wp2_with fail
          exact ⟨rfl, Rds.bad (by rw [he2.out]; simp only [stmtsP, HIF.out, HNM.out, Bool.false_eq_true, if_false, if_true, Hr6.out, Res.bind]) HK6.out HA6.out⟩
        · have Hr6 := hide hr6
          have HD6 := hide hd6
          have HK6 := hide (HK5.out.trans hk6)
          obtain ⟨c, rfl, hst⟩ := hv6
          obtain ⟨hc8, hone⟩ := IsSt.form _ _ hst
          obtain ⟨c0, c1, c2, c3, c4, c5, c6, c7, rfl⟩ := eight c hc8
          have HST6 := hide hst
          have HONE := hide hone
          have HLT6 : Hid (k2 < k6) := act_lt hr6
          have HY6 := hide (HY5.out.same fun b h1 h2 => hk6.block b h2 (by have := HR.out.Rlt; omega))
          have HV5 := hide (show ∀ b, (Value.slice va acc.length vc).ownBlock = some b → b < w5.heap.size from by obtain ⟨cs, hr, _⟩ := HY5.out; exact fun b hb => (hr.1.lt b hb).2)
          have H56 := hide hk6.size
          clear h6 hr6 hd6 hk6 hst hc8 hone
          obtain ⟨cs, hrow, hall⟩ := HY6.out
          have HROW := hide hrow
          have HALL := hide hall
          clear hrow hall
          have HOWN := hide ((HROW.out.1).alloc (.cells #[c0, c1, c2, c3, c4, c5, c6, c7] 48))
          go_wp2_with (at_builtin; (refine append_new rfl (.tmp 22) (.tmp 25) 25 rfl 48 i0 (.agg #[.int .i64 0, .int .i64 0, .string ⟨#[]⟩, .pointer none, .slice none 0 0, .int .i64 0, .slice none 0 0, .slice none 0 0]) 8 120 Tryd.underlying25 hi hz0 hz1 hz2 rfl (by decide) _ acc.length cs.flatten rfl HOWN.out ⟨w6.heap.size, 0, none⟩ 1 [c0, c1, c2, c3, c4, c5, c6, c7] rfl rfl ?c1 ?c2 ?c3 (by decide) ?_))
          case c1 => exact row_new _ _ _
          case c2 => exact HONE.out
          case c3 => have := hac.out; omega
          · intro v7 w7 hown7 hg7 hb7
            have HE7 := hide (sts_snoc (.cells #[c0, c1, c2, c3, c4, c5, c6, c7] 48) rfl HK5.out.size H56.out HK6.out HV5.out HROW.out HALL.out HST6.out hown7 hg7 hb7)
            have HD7 : Hid (Rd w7 R T cap ts k6) := HD6.out.grown (N := w.heap.size) (Kept.of (below_alloc w6 (.cells #[c0, c1, c2, c3, c4, c5, c6, c7] 48))) hg7 (fun b hb => HROW.out.2 b hb) HR.out.Rlt HR.out.Tlt (Below.heap_alloc _ _ _ HD6.out.Rlt) (by have := HR.out.big; have := HR.out.Rlt; omega)
            obtain ⟨va7, vc7, hv7⟩ := HE7.out.1.val
            subst hv7
            clear hown7 hg7 hb7
            go_wp2_with fail
            refine ⟨⟨g, acc ++ [a6], k6, HE7.out.1, HD7, HE7.out.2, ?_, ?_⟩, ?_⟩
            · show _ = _
              rw [he2.out]; simp only [stmtsP, HIF.out, HNM.out, Bool.false_eq_true, if_false, if_true, Hr6.out, Res.bind]
            · have h1 := hac.out
              have h2 := HLT6.out
              have h3 := HGF.out
              exact (⟨by simp; omega, by omega⟩ : (acc ++ [a6]).length ≤ k6 ∧ g ≤ f)
            · rw [HD7.out.nextOf_eq, HNX.out]; have := HLT6.out; have := hd2.out.lt; omega
      | false =>
        have HNM := hide hnm
        have HI : Hid ((((tk ts k2).kind : Int) == 1 && !keptL.contains (tk ts k2).text.toList) = false) := by rw [kindZ]; exact hnm
        clear hif hnm
        go_wp2_with fail
        refine (now_at hd2.out).mono ?_
        rintro e w3 ⟨rfl, hb3⟩
        have HD3 := hide (hd2.out.below hb3)
        have HB3 := hide hb3
        clear hb3
        go_wp2_with fail
        refine (now_at HD3.out).mono ?_
        rintro e w4 ⟨rfl, hb4⟩
        have HD4 := hide (HD3.out.below hb4)
        have HB4 := hide (Below.step HB3.out hb4)
        clear hb4
        go_wp2_with fail
        refine (isName_at _ _ _ w4 HD4.out.vars).mono ?_
        rintro e w5 ⟨rfl, hb5⟩
        rw [HI.out]
        have HD5 := hide (HD4.out.below hb5)
        have HK5 := hide (hk2.out.below (Below.step HB4.out hb5))
        have HY5 := hide (hy.out.same fun b _ h2 => (Below.step HB4.out hb5).block b h2)
        clear hb5
        go_wp2_with fail
        go_ret
        exact Rds.ok (a := acc) (k' := k2) (by rw [he2.out]; simp only [stmtsP, HIF.out, HNM.out, Bool.false_eq_true, if_false]) HK5.out HD5.out HY5.out.done
end Go.Proofs.YtiimnnancblbkaaDoor
