/-
  CONTRACT of gate.
-/
import Derived.Test.YtacgepdmhdcdkaaLGa
set_option linter.unusedSimpArgs false
set_option linter.unusedVariables false
namespace Go.Proofs.Ytacgepdmhdcdkaa
open Go.RowKit

/-- what gate answers where its best way needs no table: that way alone -/
def GateFree (w : World) (op : Int) (xs ys : List Wy) (e : Ending) (w' : World) : Prop :=
  ∃ (x : Wy) (g c : Nat), e = .returned (.slice (some ⟨g, 0, none⟩) 1 c) ∧ Lies (FromB w.heap.size) w' (some ⟨g, 0, none⟩) (wyC [x]) ∧ Lies (FromB w.heap.size) w' x.a (intsC x.l.ins) ∧ freeL x.l = true ∧ (∃ a ∈ xs, ∃ b ∈ ys, Joined2 op a.l b.l x.l) ∧ Below w.heap.size w w'
/-- what gate answers else: at most four ways, the best one first, and behind them its own table's signal, whose depth is the best way's -/
def GateMore (w : World) (op : Int) (xs ys : List Wy) (D : List Int) (Dg sig : Nat) (e : Ending) (w' : World) : Prop :=
  ∃ (zs : List Wy) (pz : Wy) (va : Option Addr) (vc : Nat), e = .returned (.slice va (zs.length + 1) vc) ∧ Lies (FromB w.heap.size) w' va (wyC (zs ++ [pz])) ∧ (∀ z ∈ zs, Lies (FromB w.heap.size) w' z.a (intsC z.l.ins) ∧ ∃ a ∈ xs, ∃ b ∈ ys, Joined2 op a.l b.l z.l) ∧ 0 < zs.length ∧ zs.length ≤ 4 ∧ freeL (wyAt zs 0).l = false ∧ pz.l = ⟨[(sig : Int)], 2⟩ ∧ Lies (FromB w.heap.size) w' pz.a (intsC [(sig : Int)]) ∧ w'.heap[Dg]? = some (.cells (intsC (D.set sig (deepI D (wyAt zs 0).l))).toArray 3 (0, 0)) ∧ Kept Dg w w'
theorem OwnW.lies {B g : Nat} {w : World} {n cap : Nat} {l : List Wy} (h : OwnW B g w n cap l) : Lies (FromB B) w (some ⟨g, 0, none⟩) (wyC l) := h.mine.lies fun b hb => h.mine.new b hb

set_option maxRecDepth 100000 in
set_option maxHeartbeats 12800000 in
theorem gate_at {S T : Nat → Prop} (P : Nat) (op : Int) (xs ys : List Wy) (sa sb : Option Addr) (ca cb : Nat) (w : World) (hA : Lies S w sa (wyC xs)) (hB : Lies T w sb (wyC ys)) (hx : ∀ x ∈ xs, Lies AnyB w x.a (intsC x.l.ins) ∧ Way x.l) (hy : ∀ x ∈ ys, Lies AnyB w x.a (intsC x.l.ins) ∧ Way x.l) (hn : xs.length * ys.length ≤ 19) (hx1 : ∃ i < xs.length, (wyAt xs i).l.ins.length ≤ 1) (hy1 : ∃ j < ys.length, (wyAt ys j).l.ins.length ≤ 1) (D : List Int) (Dg dc first nw wc : Nat) (wa : Option Addr) (hp : w.cell? ⟨P, 3, none⟩ = some (.slice (some ⟨Dg, 0, none⟩) D.length dc)) (hp0 : w.cell? ⟨P, 0, none⟩ = some (.int .i64 first)) (hp2 : w.cell? ⟨P, 2, none⟩ = some (.slice wa nw wc)) (hsg : first + nw < D.length) (hDg : w.heap[Dg]? = some (.cells (intsC D).toArray 3 (0, 0))) (hPD : P ≠ Dg) (hDb : D.length ≤ 100000) (hDM : ∀ i, outAt D i ≤ 100000) (hxd : ∀ x ∈ xs, ∀ q ∈ x.l.ins, 0 ≤ q ∧ q < D.length) (hyd : ∀ x ∈ ys, ∀ q ∈ x.l.ins, 0 ≤ q ∧ q < D.length) :
    Calls Try.prog 34 #[.pointer (some ⟨P, 0, none⟩), .int .i64 op, .slice sa xs.length ca, .slice sb ys.length cb] w fun e w' => GateFree w op xs ys e w' ∨ GateMore w op xs ys D Dg (first + nw) e w' := by
  have HA := hide hA
  have HB := hide hB
  have HX := hide hx
  have HY := hide hy
  have hxn : xs.length ≤ 19 := Nat.le_trans (Nat.le_mul_of_pos_right _ (by obtain ⟨j, hj, _⟩ := hy1; omega)) hn
  have hyn : ys.length ≤ 19 := Nat.le_trans (Nat.le_mul_of_pos_left _ (by obtain ⟨j, hj, _⟩ := hx1; omega)) hn
  have HX1 := hide hx1
  have HY1 := hide hy1
  have HN := hide hn
  have HP := hide hp
  have hD : Lies AnyB w (some ⟨Dg, 0, none⟩) (intsC D) := Lies.blk (cs := intsC D) hDg trivial
  have HD := hide hD
  have HP0 := hide hp0
  have HP2 := hide hp2
  have HDG := hide hDg
  have HDM := hide hDM
  have HXD := hide hxd
  have HYD := hide hyd
  clear hA hB hx hy hx1 hy1 hn hp hD hDM hxd hyd hp0 hp2 hDg
  go_enter Try.func34, Try.ntmps34
  go_wp2_with fail
  go_loopw [9, 15, 19] (fun l _ i wr => ∃ (k : Nat) (va : Option Addr) (vc : Nat) (ws : List Wy), k ≤ xs.length ∧ i = .int .i64 k ∧ l = .slice va ws.length vc ∧ ws.length ≤ k * ys.length ∧ Hid (GaAt w op xs ys (.slice va ws.length vc) ws wr) ∧ Hid ((∃ i < k, ∃ j < ys.length, (wyAt xs i).l.ins.length + (wyAt ys j).l.ins.length ≤ 4) → 0 < ws.length)) (fun _ _ i _ => xs.length - (intOf i).toNat)
  case atStart => exact ⟨0, none, 0, [], Nat.zero_le _, rfl, rfl, Nat.zero_le _, hide ⟨Below.refl _ _, Mine.none w, fun x hx => by cases hx⟩, hide (by rintro ⟨i, hi, _⟩; exact absurd hi (Nat.not_lt_zero _))⟩
  case round =>
    obtain ⟨k, va, vc, ws, hk, rfl, rfl, hwl, hg, hne⟩ := hrel
    by_cases hlt : k < xs.length
    · have hki : (k : Int) < (xs.length : Int) := by omega
      obtain ⟨b1, o1, ha1, n0, n1⟩ := (HA.out.below hg.out.bel).wy hlt
      have HA1 := hide ha1
      rw [HA1.out]
      have HXK := hide (HX.out _ (wyAt_mem hlt))
      have HXM := hide (wyAt_mem hlt)
      generalize hax : wyAt xs k = a at *
      have HAX := hide hax
      clear hax ha1
      simp only [wy0, wy1] at n0 n1
      have hb1 := below_alloc wr (.cells #[.slice a.a a.l.ins.length a.c, .int .i64 a.l.table] 44)
      have HG1 := hide (hg.out.below hb1)
      have HB1 := hide (blk_new wr (.cells #[.slice a.a a.l.ins.length a.c, .int .i64 a.l.table] 44))
      have HLT : Hid (∀ b, (Value.slice va ws.length vc).ownBlock = some b → b ≠ wr.heap.size) := hide fun b e => Nat.ne_of_lt (hg.out.mine.own.lt b e).2
      clear hg hb1
      go_wp2_with fail
      generalize wr.alloc (.cells #[.slice a.a a.l.ins.length a.c, .int .i64 a.l.table] 44) = w1 at *
      generalize wr.heap.size = X1 at *
      have HOX : Hid (∀ b, (Value.slice va ws.length vc).ownBlock = some b → b ≠ X1) := hide fun b e => HLT.out b e
      clear n0 n1 HLT
      go_loopw [9, 15, 25] (fun l _ i wr => ∃ (j : Nat) (va : Option Addr) (vc : Nat) (ws : List Wy), j ≤ ys.length ∧ i = .int .i64 j ∧ l = .slice va ws.length vc ∧ ws.length ≤ k * ys.length + j ∧ Hid (GaAt w op xs ys (.slice va ws.length vc) ws wr) ∧ Hid (wr.heap[X1]? = some (.cells #[.slice a.a a.l.ins.length a.c, .int .i64 a.l.table] 44 (0, 0))) ∧ Hid (∀ b, (Value.slice va ws.length vc).ownBlock = some b → b ≠ X1) ∧ Hid ((∃ i < k, ∃ j < ys.length, (wyAt xs i).l.ins.length + (wyAt ys j).l.ins.length ≤ 4) ∨ (∃ q < j, a.l.ins.length + (wyAt ys q).l.ins.length ≤ 4) → 0 < ws.length)) (fun _ _ i _ => ys.length - (intOf i).toNat)
      case atStart => exact ⟨0, va, vc, ws, Nat.zero_le _, rfl, rfl, hwl, HG1, HB1, HOX, hide (by
        rintro (h | ⟨q, hq, _⟩)
        · exact hne.out h
        · exact absurd hq (Nat.not_lt_zero _))⟩
      case round =>
        clear HG1 HB1 HOX hne hwl
        obtain ⟨j, va, vc, ws, hj, rfl, rfl, hwl, hg, hb1, hox, hne⟩ := hrel
        by_cases hlj : j < ys.length
        · have hji : (j : Int) < (ys.length : Int) := by omega
          obtain ⟨b2, o2, ha2, n0, n1⟩ := (HB.out.below hg.out.bel).wy hlj
          have HA2 := hide ha2
          rw [HA2.out]
          have HYJ := hide (HY.out _ (wyAt_mem hlj))
          have HYM := hide (wyAt_mem hlj)
          generalize hbx : wyAt ys j = b at *
          have HBX := hide hbx
          clear hbx ha2
          simp only [wy0, wy1] at n0 n1
          have hb2 := below_alloc wr (.cells #[.slice b.a b.l.ins.length b.c, .int .i64 b.l.table] 44)
          have HG2 := hide (hg.out.below hb2)
          have HX1 := hide (Below.blk hb2 hb1.out)
          have HX2 := hide (blk_new wr (.cells #[.slice b.a b.l.ins.length b.c, .int .i64 b.l.table] 44))
          have hown : ∀ b, (Value.slice va ws.length vc).ownBlock = some b → b < wr.heap.size := fun b e => (hg.out.mine.own.lt b e).2
          have hxlt : X1 < wr.heap.size := blk_lt hb1.out
          have c0 : (wr.alloc (.cells #[.slice b.a b.l.ins.length b.c, .int .i64 b.l.table] 44)).cell? ⟨X1, 0, none⟩ = some (.slice a.a a.l.ins.length a.c) := by rw [blk_cell HX1.out]; rfl
          have c1 : (wr.alloc (.cells #[.slice b.a b.l.ins.length b.c, .int .i64 b.l.table] 44)).cell? ⟨X1, 1, none⟩ = some (.int .i64 a.l.table) := by rw [blk_cell HX1.out]; rfl
          have HZ2 : Hid ((wr.alloc (.cells #[.slice b.a b.l.ins.length b.c, .int .i64 b.l.table] 44)).heap.size = wr.heap.size + 1) := hide (by simp)
          have HJN := hide (join_at op a.l b.l a.a b.a a.c b.c (wr.alloc (.cells #[.slice b.a b.l.ins.length b.c, .int .i64 b.l.table] 44)) (HXK.out.1.below HG2.out.bel) (HYJ.out.1.below HG2.out.bel) HXK.out.2 HYJ.out.2)
          have HOWN := hide hown
          clear hg hb1 hb2 hown
          go_wp2_with fail
          generalize wr.alloc (.cells #[.slice b.a b.l.ins.length b.c, .int .i64 b.l.table] 44) = w2 at *
          refine HJN.out.mono ?_
          rintro e w3 ⟨hcase, hb3⟩
          have HB3 := hide hb3
          have HG3 := hide (HG2.out.below hb3)
          have HX13 := hide (Below.blk hb3 HX1.out)
          have hz3 := hb3.size
          rw [HZ2.out] at hz3
          clear hb3 c0 c1
          rcases hcase with ⟨rfl, hsum⟩ | ⟨l', va', vc', rfl, hrow, hjd⟩
          · have hb4 := below_alloc w3 (.cells #[.slice none 0 0, .int .i64 0] 44)
            have HG4 := hide (HG3.out.below hb4)
            have HX14 := hide (Below.blk hb4 HX13.out)
            clear hb4
            have HNE : Hid ((∃ i < k, ∃ j < ys.length, (wyAt xs i).l.ins.length + (wyAt ys j).l.ins.length ≤ 4) ∨ (∃ q < j + 1, a.l.ins.length + (wyAt ys q).l.ins.length ≤ 4) → 0 < ws.length) := hide (by
              rintro (h | ⟨q, hq, h⟩)
              · exact hne.out (.inl h)
              · by_cases hqj : q < j
                · exact hne.out (.inr ⟨q, hqj, h⟩)
                · have : q = j := by omega
                  subst this
                  rw [HBX.out] at h
                  omega)
            clear HJN HG2 HX1 HX2 HB3 HG3 HX13
            go_wp2_with fail
            exact ⟨⟨j + 1, va, vc, ws, by omega, by go_num, rfl, by omega, HG4, HX14, hox, HNE⟩, by simp [intOf]; omega⟩
          · have hrl : Lies (FromB w2.heap.size) w3 va' (intsC l'.ins) := hrow.lies
            obtain ⟨w4, hw4⟩ : ∃ W, W = (w3.alloc (.cells #[.slice va' l'.ins.length vc', .int .i64 l'.table] 44)).alloc (.cells #[.slice va' l'.ins.length vc', .int .i64 l'.table] 44) := ⟨_, rfl⟩
            have hb4 : Below w3.heap.size w3 w4 := by rw [hw4]; exact Below.step (below_alloc _ _) (below_alloc _ _)
            have hnew : w4.heap[w3.heap.size + 1]? = some (.cells #[.slice va' l'.ins.length vc', .int .i64 l'.table] 44 (0, 0)) := by
              rw [hw4]
              have := blk_new (w3.alloc (.cells #[.slice va' l'.ins.length vc', .int .i64 l'.table] 44)) (.cells #[.slice va' l'.ins.length vc', .int .i64 l'.table] 44)
              rwa [show (w3.alloc (.cells #[.slice va' l'.ins.length vc', .int .i64 l'.table] 44)).heap.size = w3.heap.size + 1 by simp] at this
            have HG4 := hide (HG3.out.below hb4)
            have HX14 := hide (Below.blk hb4 HX13.out)
            have hsz4 : X1 < w4.heap.size := blk_lt HX14.out
            have hbig : ws.length + 1 ≤ 100000 := by
              have h1 := HN.out
              have h3 : k * ys.length + ys.length ≤ xs.length * ys.length := by rw [← Nat.succ_mul]; exact Nat.mul_le_mul_right _ hlt
              omega
            obtain ⟨va2, vc2, w5, happ, hm5, hg5, hnb5⟩ := app_wy (B := w.heap.size) (w := w4) (c := 1) (n' := ws.length + 1) (l := ws) (new := [(⟨va', vc', l'⟩ : Wy)]) (m := 1) HG4.out.mine rfl rfl rfl (Lies.blk (cs := wyC [(⟨va', vc', l'⟩ : Wy)]) hnew trivial) HG4.out.bel.size hbig
            have HG5 : Hid (GaAt w op xs ys (.slice va2 (ws ++ [(⟨va', vc', l'⟩ : Wy)]).length vc2) (ws ++ [(⟨va', vc', l'⟩ : Wy)]) w5) := hide (by
              rw [List.length_append]
              exact HG4.out.app (W := w2.heap.size) (hrl.below hb4) HG2.out.bel.size (fun b e => by have := HOWN.out b e; have := HZ2.out; omega) ⟨a, HXM.out, b, HYM.out, hjd⟩ hm5 hg5 hnb5)
            have HX15 : Hid (w5.heap[X1]? = some (.cells #[.slice a.a a.l.ins.length a.c, .int .i64 a.l.table] 44 (0, 0))) := hide ((hg5.block X1 hsz4 (fun e => hox.out X1 e.symm rfl)).trans HX14.out)
            have HOX5 : Hid (∀ b, (Value.slice va2 (ws ++ [(⟨va', vc', l'⟩ : Wy)]).length vc2).ownBlock = some b → b ≠ X1) := hide (by
              rw [List.length_append]
              intro b e
              rcases hnb5 b e with q | q
              · exact hox.out b q
              · omega)
            have HNE : Hid ((∃ i < k, ∃ j < ys.length, (wyAt xs i).l.ins.length + (wyAt ys j).l.ins.length ≤ 4) ∨ (∃ q < j + 1, a.l.ins.length + (wyAt ys q).l.ins.length ≤ 4) → 0 < (ws ++ [(⟨va', vc', l'⟩ : Wy)]).length) := hide (fun _ => by rw [List.length_append]; exact Nat.succ_pos _)
            have c4 : (w3.alloc (.cells #[.slice va' l'.ins.length vc', .int .i64 l'.table] 44)).cell? ⟨w3.heap.size, 0, none⟩ = some (.slice va' l'.ins.length vc') := by rw [blk_cell (blk_new _ _)]; rfl
            have c5 : (w3.alloc (.cells #[.slice va' l'.ins.length vc', .int .i64 l'.table] 44)).cell? ⟨w3.heap.size, 1, none⟩ = some (.int .i64 l'.table) := by rw [blk_cell (blk_new _ _)]; rfl
            have HL5 : Hid ((ws ++ [(⟨va', vc', l'⟩ : Wy)]).length = ws.length + 1) := hide (by simp)
            clear HJN HG2 HX1 HX2 HB3 HG3 HX13 HG4 HX14 hm5 hg5 hnb5 hrl hrow hjd hnew hb4
            rw [hw4] at happ
            go_wp2_with (at_builtin; (refine wpl_append_run happ rfl _ _ rfl rfl rfl ?_))
            exact ⟨⟨j + 1, va2, vc2, _, by omega, by go_num, by rw [HL5.out], by rw [HL5.out]; omega, HG5, HX15, HOX5, HNE⟩, by simp [intOf]; omega⟩
        · have hjx : j = ys.length := by omega
          go_wp2_with fail
          refine ⟨⟨k + 1, va, vc, ws, by omega, by go_num, rfl, by rw [Nat.succ_mul]; omega, hg, hide ?_⟩, by simp [intOf]; omega⟩
          rintro ⟨i, hi, q, hq, hs⟩
          by_cases hik : i < k
          · exact hne.out (.inl ⟨i, hik, q, hq, hs⟩)
          · have : i = k := by omega
            subst this
            rw [HAX.out] at hs
            exact hne.out (.inr ⟨q, by omega, hs⟩)
    · have hkx : k = xs.length := by omega
      have hpos : 0 < ws.length := hne.out (by
        obtain ⟨i, hi, h1⟩ := HX1.out
        obtain ⟨j, hj, h2⟩ := HY1.out
        exact ⟨i, by omega, j, hj, by omega⟩)
      have hw19 : ws.length ≤ 19 := by rw [hkx] at hwl; exact Nat.le_trans hwl HN.out
      obtain ⟨g, rfl, HO⟩ : ∃ g, va = some ⟨g, 0, none⟩ ∧ Hid (OwnW w.heap.size g wr ws.length vc ws) := by
        rcases hg.out.mine.own.2 with ⟨h0, h1⟩ | ⟨g', cap, cur, hv, _⟩
        · omega
        · cases hv
          exact ⟨g', rfl, hide ⟨hg.out.mine, rfl⟩⟩
      have HGE := hide HO.out.ge
      have HROW : Hid (∀ W, Kept g wr W → Below w.heap.size w W ∧ ∀ z ∈ ws, Lies (fun b => w.heap.size ≤ b ∧ b ≠ g) W z.a (intsC z.l.ins)) := hide fun W hW => by
        have hgw := HGE.out
        refine ⟨⟨hW.os.trans hg.out.bel.os, hW.tape.trans hg.out.bel.tape, hW.output.trans hg.out.bel.output, Nat.le_trans hg.out.bel.size hW.size, fun b hb => (hW.block b (Nat.lt_of_lt_of_le hb hg.out.bel.size) (by omega)).trans (hg.out.bel.block b hb)⟩, fun z hz => ?_⟩
        have h1 := (hg.out.all z hz).1.imp (T := fun b => w.heap.size ≤ b ∧ b ≠ g) (fun b _ hs => ⟨hs.1, fun e => hs.2 (by rw [e]; rfl)⟩)
        exact h1.same fun b hs hb => hW.block b hb hs.2
      have HIN : Hid (∀ z ∈ ws, Way z.l ∧ ∀ i, i < z.l.ins.length → 0 ≤ outAt z.l.ins i ∧ outAt z.l.ins i < D.length) := hide fun z hz => by
        obtain ⟨a, ha, b, hb, hj⟩ := (hg.out.all z hz).2
        refine ⟨hj.way, fun i hi => ?_⟩
        have hm : outAt z.l.ins i ∈ z.l.ins := by
          have e : outAt z.l.ins i = z.l.ins[i] := by simp [outAt, hi]
          rw [e]; exact List.getElem_mem _
        rcases hj.sub _ hm with q | q
        · exact HXD.out a ha _ q
        · exact HYD.out b hb _ q
      have HJO : Hid (∀ z ∈ ws, ∃ a ∈ xs, ∃ b ∈ ys, Joined2 op a.l b.l z.l) := hide fun z hz => (hg.out.all z hz).2
      have HE := hide fun W (hW : Kept g wr W) (x : Wy) (hx : x ∈ ws) (y : Wy) (hy : y ∈ ws) => compare_at P x.l y.l x.a y.a x.c y.c D (some ⟨Dg, 0, none⟩) dc W (((HROW.out W hW).1.cell (cell_lt HP.out)).trans HP.out) ((HROW.out W hW).2 x hx) ((HROW.out W hW).2 y hy) (HD.out.below (HROW.out W hW).1) (by have := (HIN.out x hx).1.n4; omega) (by have := (HIN.out y hy).1.n4; omega) (HIN.out x hx).2 (HIN.out y hy).2 hDb HDM.out
      have HSO := hide (wsorted_at (P := P) HO.out hw19 HE)
      clear HA HB HX HY HX1 HY1 HN HXD HYD hwl hg hne HE
      go_wp2_with fail
      refine HSO.out.mono ?_
      rintro e w1 ⟨rfl, ⟨ws1, ho1, hp1⟩, hk1⟩
      have HO1 := hide ho1
      have HP1 := hide hp1
      have HK1 := hide hk1
      clear ho1 hp1 hk1 HSO HO
      have HE2 := hide fun W (hW : Kept g w1 W) (x : Wy) (hx : x ∈ ws1) (y : Wy) (hy : y ∈ ws1) => eqw_at x y W ((HROW.out W (HK1.out.trans hW)).2 x (HP1.out.mem_iff.1 hx)) ((HROW.out W (HK1.out.trans hW)).2 y (HP1.out.mem_iff.1 hy)) (by have := (HIN.out x (HP1.out.mem_iff.1 hx)).1.n4; omega) (by have := (HIN.out y (HP1.out.mem_iff.1 hy)).1.n4; omega)
      have HCO := hide (wcompact_at HO1.out (by omega) HE2)
      clear HE2 HO1
      go_wp2_with fail
      refine HCO.out.mono ?_
      rintro e w2 ⟨⟨m, ws2, rfl, ho2, hmn, hm0, hsub⟩, hk2⟩
      have HO2 := hide ho2
      have HK2 := hide (HK1.out.trans hk2)
      have HSU : Hid (∀ z ∈ ws2, z ∈ ws) := hide fun z hz => HP1.out.mem_iff.1 (hsub z hz)
      have hm1 := hm0 hpos
      clear ho2 hk2 hsub hm0 HCO HP1 HK1
      have hlen2 := HO2.out.len
      obtain ⟨k1, k2⟩ := HO2.out.cells (i := 0) (by omega)
      have HX0 := hide (wyAt_mem (l := ws2) (i := 0) (by omega))
      have HTK : Hid (ws2.take 1 = [wyAt ws2 0]) := hide (by
        cases ws2 with
        | nil => simp at hlen2; omega
        | cons z zs => rfl)
      generalize hxx : wyAt ws2 0 = x at *
      simp only [wy0, wy1, Nat.zero_mul, Nat.zero_add] at k1 k2
      clear hxx
      have HF := hide (free_at x.l x.a x.c w2)
      have hmc : m ≤ vc := by obtain ⟨cur, _, h2, _⟩ := HO2.out.blk; exact h2
      cases hf : freeL x.l with
      | true =>
        rw [hf] at HF
        have HFX := hide hf
        clear hf
        go_wp2_with fail
        refine HF.out.mono ?_
        rintro e w3 ⟨rfl, hb3⟩
        have HO3 := hide ((HO2.out.below hb3).take (k := 1) (by omega))
        have HK3 := hide (HK2.out.below hb3)
        clear hb3 HF HK2 HO2 k1 k2
        have hv1 : 1 ≤ vc := by omega
        go_wp2_with fail
        go_ret
        refine .inl ⟨x, g, vc, rfl, ?_, ?_, HFX.out, HJO.out x (HSU.out x HX0.out), (HROW.out _ HK3.out).1⟩
        · have := HO3.out.lies
          rwa [HTK.out] at this
        · exact ((HROW.out _ HK3.out).2 x (HSU.out x HX0.out)).imp fun b _ hs => hs.1
      | false =>
        rw [hf] at HF
        have HFX := hide hf
        clear hf
        go_wp2_with fail
        refine HF.out.mono ?_
        rintro e w3 ⟨rfl, hb3⟩
        have HO3 := hide (HO2.out.below hb3)
        have HK3 := hide (HK2.out.below hb3)
        have K0 := hide (⟨(hb3.cell (cell_lt k1)).trans k1, (hb3.cell (cell_lt k2)).trans k2⟩ : w3.cell? ⟨g, 0, none⟩ = some (.slice x.a x.l.ins.length x.c) ∧ w3.cell? ⟨g, 1, none⟩ = some (.int .i64 x.l.table))
        clear hb3 HF HK2 HO2 k1 k2
        have HBE3 := hide (HROW.out _ HK3.out).1
        have p0 := (HBE3.out.cell (cell_lt HP0.out)).trans HP0.out
        have p2 := (HBE3.out.cell (cell_lt HP2.out)).trans HP2.out
        have hfn : first + nw ≤ 100000 := by omega
        go_wp2_with fail
        go_quiet (fail)
        go_wp2_with fail
        obtain ⟨sig, hsig⟩ : ∃ sig : Nat, sig = first + nw := ⟨_, rfl⟩
        have hsi : (first : Int) + (nw : Int) = (sig : Int) := by omega
        rw [hsi]
        have hsD : sig < D.length := by omega
        have HSIG := hide hsig
        clear p0 p2 hsig hsi
        have HSW : Hid (∀ W, Below w3.heap.size w3 W → W.cell? ⟨P, 3, none⟩ = some (.slice (some ⟨Dg, 0, none⟩) D.length dc) ∧ W.cell? ⟨g, 0, none⟩ = some (.slice x.a x.l.ins.length x.c) ∧ W.cell? ⟨g, 1, none⟩ = some (.int .i64 x.l.table)) := hide fun W hW => ⟨(Below.cell (HROW.out W (HK3.out.below hW)).1 (cell_lt HP.out)).trans HP.out, (hW.cell (cell_lt K0.out.1)).trans K0.out.1, (hW.cell (cell_lt K0.out.2)).trans K0.out.2⟩
        have HB4 : Hid (Below w3.heap.size w3 (w3.drewN nq).drew) := hide (Below.drewNs (Below.refl _ _) nq).drew
        refine wp_region_held_drew (S := fun W => W.cell? ⟨P, 3, none⟩ = some (.slice (some ⟨Dg, 0, none⟩) D.length dc) ∧ W.cell? ⟨g, 0, none⟩ = some (.slice x.a x.l.ins.length x.c) ∧ W.cell? ⟨g, 1, none⟩ = some (.int .i64 x.l.table)) (by kernel_rfl) (HSW.out _ HB4.out) (fun _ => ?_)
        generalize (w3.drewN nq).drew = w4 at *
        refine wpAnyH_take (i := 0) (oi := ⟨some 65, _, _, _, _, _⟩) (v := (.pointer (some ⟨P, 0, none⟩))) rfl (by kernel_rfl) (by kernel_rfl) (by kernel_rfl) (fun _ _ _ h => h) (Or.inl ⟨by rfl, fun W hS => by (obtain ⟨s0, s1, s2⟩ := hS; go_simp)⟩) (HSW.out _ HB4.out) ?_
        simp only [Act.put, List.setIfInBounds_toArray, List.set_cons_zero, List.set_cons_succ]
        refine wpAnyH_take (i := 1) (oi := ⟨some 66, _, _, _, _, _⟩) (v := (.pointer (some ⟨P, 0, none⟩))) rfl (by kernel_rfl) (by kernel_rfl) (by kernel_rfl) (fun _ _ _ h => h) (Or.inl ⟨by rfl, fun W hS => by (obtain ⟨s0, s1, s2⟩ := hS; go_simp)⟩) (HSW.out _ HB4.out) ?_
        simp only [Act.put, List.setIfInBounds_toArray, List.set_cons_zero, List.set_cons_succ]
        refine wpAnyH_take (i := 5) (oi := ⟨some 70, _, _, _, _, _⟩) (v := (.pointer (some ⟨P, 0, none⟩))) rfl (by kernel_rfl) (by kernel_rfl) (by kernel_rfl) (fun _ _ _ h => h) (Or.inl ⟨by rfl, fun W hS => by (obtain ⟨s0, s1, s2⟩ := hS; go_simp)⟩) (HSW.out _ HB4.out) ?_
        simp only [Act.put, List.setIfInBounds_toArray, List.set_cons_zero, List.set_cons_succ]
        refine wpAnyH_take (i := 2) (oi := ⟨some 67, _, _, _, _, _⟩) (v := (.pointer (some ⟨P, 3, none⟩))) rfl (by kernel_rfl) (by kernel_rfl) (by kernel_rfl) (fun _ _ _ h => h) (Or.inl ⟨by rfl, fun W hS => by (obtain ⟨s0, s1, s2⟩ := hS; go_simp)⟩) (HSW.out _ HB4.out) ?_
        simp only [Act.put, List.setIfInBounds_toArray, List.set_cons_zero, List.set_cons_succ]
        refine wpAnyH_take (i := 4) (oi := ⟨some 69, _, _, _, _, _⟩) (v := (.int .i64 sig)) rfl (by kernel_rfl) (by kernel_rfl) (by kernel_rfl) (fun _ _ _ h => h) (Or.inl ⟨by rfl, fun W hS => by (obtain ⟨s0, s1, s2⟩ := hS; go_simp)⟩) (HSW.out _ HB4.out) ?_
        simp only [Act.put, List.setIfInBounds_toArray, List.set_cons_zero, List.set_cons_succ]
        refine wpAnyH_take (i := 6) (oi := ⟨some 71, _, _, _, _, _⟩) (v := (.slice (some ⟨g, 0, none⟩) m vc)) rfl (by kernel_rfl) (by kernel_rfl) (by kernel_rfl) (fun _ _ _ h => h) (Or.inl ⟨by rfl, fun W hS => by (obtain ⟨s0, s1, s2⟩ := hS; go_simp)⟩) (HSW.out _ HB4.out) ?_
        simp only [Act.put, List.setIfInBounds_toArray, List.set_cons_zero, List.set_cons_succ]
        refine wpAnyH_take (i := 3) (oi := ⟨some 68, _, _, _, _, _⟩) (v := (.slice (some ⟨Dg, 0, none⟩) D.length dc)) rfl (by kernel_rfl) (by kernel_rfl) (by kernel_rfl) (fun _ _ _ h => h) (Or.inl ⟨by rfl, fun W hS => by (obtain ⟨s0, s1, s2⟩ := hS; go_simp)⟩) (HSW.out _ HB4.out) ?_
        simp only [Act.put, List.setIfInBounds_toArray, List.set_cons_zero, List.set_cons_succ]
        refine wpAnyH_take (i := 7) (oi := ⟨some 72, _, _, _, _, _⟩) (v := (.pointer (some ⟨g, 0, none⟩))) rfl (by kernel_rfl) (by kernel_rfl) (by kernel_rfl) (fun _ _ _ h => h) (Or.inl ⟨by rfl, fun W hS => by (obtain ⟨s0, s1, s2⟩ := hS; go_simp)⟩) (HSW.out _ HB4.out) ?_
        simp only [Act.put, List.setIfInBounds_toArray, List.set_cons_zero, List.set_cons_succ]
        refine wpAnyH_take (i := 8) (oi := ⟨some 73, _, _, _, _, _⟩) (v := (.agg #[.slice x.a x.l.ins.length x.c, .int .i64 x.l.table])) rfl (by kernel_rfl) (by kernel_rfl) (by kernel_rfl) (fun _ _ _ h => h) (Or.inl ⟨by rfl, fun W hS => by (obtain ⟨s0, s1, s2⟩ := hS; go_simp)⟩) (HSW.out _ HB4.out) ?_
        simp only [Act.put, List.setIfInBounds_toArray, List.set_cons_zero, List.set_cons_succ]
        refine wpAnyH_ready (rs := [9]) (by kernel_rfl) (by simp) ?_
        refine AllReadyH.cons rfl (fun K hK => ?_) AllReadyH.nil
        go_simp
        refine (depth_at P x.l x.a x.c D (some ⟨Dg, 0, none⟩) dc w4 (HSW.out _ HB4.out).1 ((HROW.out _ (HK3.out.below HB4.out)).2 x (HSU.out x HX0.out)) (HD.out.below (HROW.out _ (HK3.out.below HB4.out)).1) (by have := (HIN.out x (HSU.out x HX0.out)).1.n4; omega) (HIN.out x (HSU.out x HX0.out)).2 hDb HDM.out).mono ?_
        rintro e w5 ⟨rfl, hb5⟩
        have HB5 := hide (Below.step HB4.out hb5)
        clear hb5
        have HBW5 := hide (HROW.out _ (HK3.out.below HB5.out)).1
        have HDG5 := hide (Below.blk HBW5.out HDG.out)
        refine hK.out _ _ (HSW.out _ HB5.out) (fun _ => ?_)
        clear hK K
        refine wpAnyH_ready (rs := [10]) (by kernel_rfl) (by simp) ?_
        refine AllReadyH.cons rfl (fun K hK => ?_) AllReadyH.nil
        have e1 : (sig : Int) < (D.length : Int) := by omega
        go_simp
        refine hK.out _ _ (HSW.out _ HB5.out) (fun _ => ?_)
        clear hK K
        refine wpAnyH_ready (rs := [11]) (by kernel_rfl) (by simp) ?_
        refine AllReadyH.cons rfl (fun K hK => ?_) AllReadyH.nil
        have d0 : w5.cell? ⟨Dg, sig, none⟩ = some (.int .i64 (outAt D sig)) := by rw [blk_cell HDG5.out]; simp [intsC, outAt, hsD]
        have df : w5.frozen? ⟨Dg, sig, none⟩ = false := blk_frozen HDG5.out sig
        go_simp
        have hgd : Dg < w.heap.size := blk_lt HDG.out
        have hgg := HGE.out
        have HO6 := hide ((HO3.out.below HB5.out).kept (Kept.set (R := Dg) w5 sig (.int .i64 (deepI D x.l))) (by omega))
        have HK6 : Hid (Kept Dg w (w5.setCell ⟨Dg, sig, none⟩ (.int .i64 (deepI D x.l)))) := hide ((Kept.of HBW5.out).step sig _)
        have HD6 : Hid ((w5.setCell ⟨Dg, sig, none⟩ (.int .i64 (deepI D x.l))).heap[Dg]? = some (.cells (intsC (D.set sig (deepI D x.l))).toArray 3 (0, 0))) := hide (by rw [blk_set HDG5.out]; simp [intsC, List.map_set])
        have HR6 : Hid (∀ z ∈ ws2, Lies (fun b => w.heap.size ≤ b ∧ b ≠ g) (w5.setCell ⟨Dg, sig, none⟩ (.int .i64 (deepI D x.l))) z.a (intsC z.l.ins)) := hide fun z hz => ((HROW.out _ (HK3.out.below HB5.out)).2 z (HSU.out z hz)).same fun b hs hb => (Kept.set (R := Dg) w5 sig (.int .i64 (deepI D x.l))).block b hb (by omega)
        have HS6 : Hid (True) := hide trivial
        refine hK.out _ _ ⟨(Kept.set (R := Dg) w5 sig (.int .i64 (deepI D x.l))).cell (HSW.out _ HB5.out).1 hPD, (Kept.set (R := Dg) w5 sig (.int .i64 (deepI D x.l))).cell (HSW.out _ HB5.out).2.1 (by show g ≠ Dg; omega), (Kept.set (R := Dg) w5 sig (.int .i64 (deepI D x.l))).cell (HSW.out _ HB5.out).2.2 (by show g ≠ Dg; omega)⟩ (fun _ => ?_)
        clear hK K d0 df e1
        generalize w5.setCell ⟨Dg, sig, none⟩ (.int .i64 (deepI D x.l)) = w6 at *
        have HZZ := hide HX0.out
        clear HSW HB4 HB5 HBW5 HDG5 HBE3 HK3 HO3 K0 HROW HIN HS6
        refine wpAnyH_done (by kernel_rfl) ?_ _
        obtain ⟨q, hq⟩ : ∃ q : Nat, q = min 4 m := ⟨_, rfl⟩
        have hqi : min (4 : Int) (m : Int) = (q : Int) := by omega
        have hq4 : q ≤ 4 := by omega
        have hqm : q ≤ m := by omega
        have hq0 : 0 < q := by omega
        have hqv : q ≤ vc := by omega
        have hqvi : (q : Int) ≤ (vc : Int) := by omega
        have hqn : (0 : Int) ≤ (q : Int) := by omega
        have HQ := hide hq
        clear hq
        go_wp2_with fail
        have HDR : Hid (Below w6.heap.size w6 w6.drew) := hide (Below.refl _ _).drew
        refine wp_region_held_drew (S := fun _ => True) (by kernel_rfl) trivial (fun _ => ?_)
        generalize w6.drew = w7 at *
        refine wpAnyH_take (i := 0) (oi := ⟨some 76, _, _, _, _, _⟩) (v := (.slice (some ⟨g, 0, none⟩) m vc)) rfl (by kernel_rfl) (by kernel_rfl) (by kernel_rfl) (fun _ _ _ h => h) (Or.inl ⟨by rfl, fun W hS => by (go_simp)⟩) trivial ?_
        simp only [Act.put, List.setIfInBounds_toArray, List.set_cons_zero, List.set_cons_succ]
        refine wpAnyH_take (i := 1) (oi := ⟨some 77, _, _, _, _, _⟩) (v := (.slice (some ⟨g, 0, none⟩) m vc)) rfl (by kernel_rfl) (by kernel_rfl) (by kernel_rfl) (fun _ _ _ h => h) (Or.inl ⟨by rfl, fun W hS => by (go_simp)⟩) trivial ?_
        simp only [Act.put, List.setIfInBounds_toArray, List.set_cons_zero, List.set_cons_succ]
        refine wpAnyH_take (i := 5) (oi := ⟨some 81, _, _, _, _, _⟩) (v := (.int .i64 sig)) rfl (by kernel_rfl) (by kernel_rfl) (by kernel_rfl) (fun _ _ _ h => h) (Or.inl ⟨by rfl, fun W hS => by (go_simp)⟩) trivial ?_
        simp only [Act.put, List.setIfInBounds_toArray, List.set_cons_zero, List.set_cons_succ]
        refine wpAnyH_take (i := 2) (oi := ⟨some 78, _, _, _, _, _⟩) (v := (.int .i64 m)) rfl (by kernel_rfl) (by kernel_rfl) (by kernel_rfl) (fun _ _ _ h => h) (Or.inl ⟨by rfl, fun W hS => by (go_simp)⟩) trivial ?_
        simp only [Act.put, List.setIfInBounds_toArray, List.set_cons_zero, List.set_cons_succ]
        refine wpAnyH_take (i := 3) (oi := ⟨some 79, _, _, _, _, _⟩) (v := (.int .i64 q)) rfl (by kernel_rfl) (by kernel_rfl) (by kernel_rfl) (fun _ _ _ h => h) (Or.inl ⟨by rfl, fun W hS => by (go_simp)⟩) trivial ?_
        simp only [Act.put, List.setIfInBounds_toArray, List.set_cons_zero, List.set_cons_succ]
        refine wpAnyH_take (i := 4) (oi := ⟨some 80, _, _, _, _, _⟩) (v := (.slice (some ⟨g, 0, none⟩) q vc)) rfl (by kernel_rfl) (by kernel_rfl) (by kernel_rfl) (fun _ _ _ h => h) (Or.inl ⟨by rfl, fun W hS => by (go_simp)⟩) trivial ?_
        simp only [Act.put, List.setIfInBounds_toArray, List.set_cons_zero, List.set_cons_succ]
        refine wpAnyH_ready (rs := [6]) (by kernel_rfl) (by simp) ?_
        refine AllReadyH.cons rfl (fun K hK => ?_) AllReadyH.nil
        go_simp
        refine (plain_at sig w7).mono ?_
        rintro e w8 ⟨⟨g2, rfl, hg2, hn2⟩, hb8⟩
        have HB8 := hide (Below.step HDR.out hb8)
        clear hb8
        refine hK.out _ _ trivial (fun _ => ?_)
        clear hK K
        refine wpAnyH_ready (rs := [7]) (by kernel_rfl) (by simp) ?_
        refine AllReadyH.cons rfl (fun K hK => ?_) AllReadyH.nil
        go_simp
        have hb9 := below_alloc w8 (.cells #[.slice (some ⟨g2, 0, none⟩) 1 1, .int .i64 2] 44)
        have hnew := blk_new w8 (.cells #[.slice (some ⟨g2, 0, none⟩) 1 1, .int .i64 2] 44)
        have HB9 := hide (Below.step HB8.out hb9)
        have HN2 := hide (Below.blk hb9 hn2)
        refine hK.out _ _ trivial (fun _ => ?_)
        clear hK K
        generalize w8.heap.size = X9 at *
        generalize w8.alloc (.cells #[.slice (some ⟨g2, 0, none⟩) 1 1, .int .i64 2] 44) = w9 at *
        have HO9 := hide ((HO6.out.below HB9.out).take (k := q) hqm)
        have hs6 : w.heap.size ≤ w6.heap.size := HK6.out.size
        obtain ⟨va2, vc2, w10, happ, hm10, hg10, hnb10⟩ := app_wy (B := w.heap.size) (w := w9) (c := 1) (n' := q + 1) (l := ws2.take q) (new := [(⟨some ⟨g2, 0, none⟩, 1, ⟨[(sig : Int)], 2⟩⟩ : Wy)]) (m := 1) HO9.out.mine HO9.out.len rfl rfl (Lies.blk (cs := wyC [(⟨some ⟨g2, 0, none⟩, 1, ⟨[(sig : Int)], 2⟩⟩ : Wy)]) hnew trivial) (Nat.le_trans hs6 HB9.out.size) (by omega)
        refine wpAnyH_ready (rs := [8]) (by kernel_rfl) (by simp) ?_
        refine AllReadyH.cons rfl (fun K hK => ?_) AllReadyH.nil
        refine (if_pos (by kernel_rfl)).mpr ?_
        refine wp_append_run happ _ _ rfl rfl rfl ?_
        refine hK.out _ _ trivial (fun _ => ?_)
        clear hK K
        refine wpAnyH_ready (rs := [9]) (by kernel_rfl) (by simp) ?_
        refine AllReadyH.cons rfl (fun K hK => ?_) AllReadyH.nil
        go_simp
        refine hK.out _ _ trivial (fun _ => ?_)
        clear hK K
        refine wpAnyH_done (by kernel_rfl) ?_ _
        have hg2g : g < w6.heap.size := HO6.out.lt
        have hDg6 : Dg < w6.heap.size := by omega
        have hz7 : w6.heap.size ≤ w7.heap.size := HDR.out.size
        have hz9 : w6.heap.size ≤ w9.heap.size := HB9.out.size
        have hg29 : g2 < w9.heap.size := blk_lt HN2.out
        have hne : ∀ b : Nat, b ≠ g → some b ≠ (Value.slice (some ⟨g, 0, none⟩) q vc).ownBlock := fun b hb e => hb (by simpa [Value.ownBlock] using e)
        have HLN := HO9.out.len
        have HX00 : wyAt (ws2.take q) 0 = x := by
          have ht := HTK.out
          cases ws2 with
          | nil => simp at hlen2; omega
          | cons z zs =>
            obtain ⟨q', rfl⟩ : ∃ q', q = q' + 1 := ⟨q - 1, by omega⟩
            have : z = x := by simpa using ht
            rw [← this]; rfl
        have HG : Hid (GateMore w op xs ys D Dg (first + nw) (.returned (.slice va2 (q + 1) vc2)) w10) := hide (by
          rw [← HSIG.out]
          refine ⟨ws2.take q, ⟨some ⟨g2, 0, none⟩, 1, ⟨[(sig : Int)], 2⟩⟩, va2, vc2, by rw [HLN], hm10.lies fun b hb => hm10.new b hb, fun z hz => ⟨?_, HJO.out z (HSU.out z (List.mem_of_mem_take hz))⟩, by omega, by omega, by rw [HX00]; exact HFX.out, rfl, ?_, ?_, ?_⟩
          · exact ((((HR6.out z (List.mem_of_mem_take hz)).below HB9.out).same fun b hs hb => hg10.block b hb (hne b hs.2)).imp fun b _ hs => hs.1)
          · exact Lies.blk (cs := intsC [(sig : Int)]) ((hg10.block g2 hg29 (hne g2 (by omega))).trans HN2.out) (show w.heap.size ≤ g2 by omega)
          · rw [HX00]; exact (hg10.block Dg (by omega) (hne Dg (by omega))).trans (Below.blk HB9.out HD6.out)
          · exact ⟨hg10.os.trans (HB9.out.os.trans HK6.out.os), hg10.tape.trans (HB9.out.tape.trans HK6.out.tape), hg10.output.trans (HB9.out.output.trans HK6.out.output), Nat.le_trans hs6 (Nat.le_trans hz9 hg10.size), fun k hk hkd => (hg10.block k (by omega) (hne k (by omega))).trans ((HB9.out.block k (by omega)).trans (HK6.out.block k hk hkd))⟩)
        clear hne hm10 hg10 hnb10 happ hnew hb9 HX00
        go_wp2_with fail
        go_ret
        exact .inr HG.out
end Go.Proofs.Ytacgepdmhdcdkaa
