/-
  CONTRACT of args: what a call has between its brackets; rows of expressions in memory.
-/
import Derived.Laws.AppendOwn
import Derived.Laws.OwnMore
import Derived.Test.YtgncgbngjdcpgaaGreatDoorTwo
namespace Go.Proofs.YtgncgbngjdcpgaaGreatDoor
open Go.RowKit

def All2 {α β : Type} (p : α → β → Prop) : List α → List β → Prop
  | [], [] => True
  | a :: l, b :: m => p a b ∧ All2 p l m
  | _, _ => False
theorem All2.imp {α β : Type} {p q : α → β → Prop} (h : ∀ a b, p a b → q a b) : ∀ {l : List α} {m : List β}, All2 p l m → All2 q l m
  | [], [], _ => trivial
  | _ :: _, _ :: _, ⟨h1, h2⟩ => ⟨h _ _ h1, All2.imp h h2⟩
  | [], _ :: _, h => h.elim
  | _ :: _, [], h => h.elim
theorem All2.snoc {α β : Type} {p : α → β → Prop} {a : α} {b : β} (hab : p a b) : ∀ {l : List α} {m : List β}, All2 p l m → All2 p (l ++ [a]) (m ++ [b])
  | [], [], _ => ⟨hab, trivial⟩
  | _ :: _, _ :: _, ⟨h1, h2⟩ => ⟨h1, All2.snoc hab h2⟩
  | [], _ :: _, h => h.elim
  | _ :: _, [], h => h.elim

/-- a row in memory, in such a block -/
def IsRow (S : Nat → Prop) (w : World) (e size : Nat) (v : Value) (n : Nat) (xs : List Value) : Prop := w.ownsRow 0 e size v n xs ∧ ∀ b, v.ownBlock = some b → S b
theorem IsRow.same {S : Nat → Prop} {e size n : Nat} {w w' : World} {v : Value} {xs : List Value} (h : IsRow S w e size v n xs) (hb : ∀ b, S b → b < w.heap.size → w'.heap[b]? = w.heap[b]?) : IsRow S w' e size v n xs := by
  refine ⟨⟨h.1.1, ?_⟩, h.2⟩
  rcases h.1.2 with hn | ⟨g, cap, cur, rfl, hbg, hg, rest⟩
  · exact .inl hn
  · exact .inr ⟨g, cap, cur, rfl, hbg, (hb g (h.2 g rfl) (blk_lt hg)).trans hg, rest⟩
theorem IsRow.imp {S S' : Nat → Prop} {e size n : Nat} {w : World} {v : Value} {xs : List Value} (h : IsRow S w e size v n xs) (hl : ∀ b, b < w.heap.size → S b → S' b) : IsRow S' w e size v n xs :=
  ⟨h.1, fun b hb => hl b (h.1.lt b hb).2 (h.2 b hb)⟩
theorem IsRow.nil (S : Nat → Prop) (w : World) (e size : Nat) : IsRow S w e size (.slice none 0 0) 0 [] := ⟨World.ownsRow_nil .., fun b hb => by simp [Value.ownBlock] at hb⟩
theorem IsRow.val {S : Nat → Prop} {e size n : Nat} {w : World} {v : Value} {xs : List Value} (h : IsRow S w e size v n xs) : ∃ (a : Option Addr) (cap : Nat), v = .slice a n cap := by
  rcases h.1.2 with ⟨rfl, rfl⟩ | ⟨g, cap, cur, rfl, _⟩
  · exact ⟨_, _, rfl⟩
  · exact ⟨_, _, rfl⟩

/-- append at a row of the call's own: the row behind it is the same one, or a new one -/
theorem append_new {P : Program} {w : World} {ops : Array Oper} {rest : List Oper} {o : Oper} {a : Act} {Q : Exit → Act → World → Prop} (hgd : o.guard = none) (s x : Operand) (t : TypeId)
    (ho : o.op = .call { callee := .builtin .append, args := #[s, x], argTypes := #[t, t] })
    (e : TypeId) (i : TypeInfo) (z : Value) (size bytes : Nat) (ht : P.underlying t = some (.slice e)) (hi : P.info? e = some i) (hz : i.zero = some z)
    (hsize : i.size = size) (hby : i.bytes = bytes) (hzs : z.cells.size = size) (hsz : 0 < size)
    (v : Value) (n : Nat) (xs : List Value) (hs : a.eval s = v) (hown : w.ownsRow 0 e size v n xs)
    (ad : Addr) (c : Nat) (news : List Value) (hx : a.eval x = .slice (some ad) 1 c) (hl : news.length = size) (hnews : ∀ j u, news[j]? = some u → w.cell? (ad.add j) = some u) (h1 : ∀ u ∈ news, u.oneCell' = true)
    (h63 : n + 1 ≤ 1000000) (hb9 : bytes ≤ 1000)
    (h : ∀ v' w', w'.ownsRow 0 e size v' (n + 1) (xs ++ news) → w.grownBy w' v.ownBlock → (v'.ownBlock = v.ownBlock ∨ v'.ownBlock = some w.heap.size) → wpList P ops Q rest (a.put o.dst v') w') : wpList P ops Q (o :: rest) a w := by
  have hlen : n + 1 ≤ maxLen := by simp only [maxLen]; omega
  have hbytes : (n + 1) * bytes ≤ 140737488355328 := Nat.le_trans (Nat.mul_le_mul h63 hb9) (by decide)
  obtain ⟨v', w', hr, h2, h3, h4⟩ := run_append_own (P := P) w 0 t o.type e i z size bytes ht hi hz hsize hby hzs hsz v n xs hown ad 1 c news (by omega) hnews h1 hlen hbytes (Nat.zero_le _)
  have hnew : v'.ownBlock = v.ownBlock ∨ v'.ownBlock = some w.heap.size := by
    subst hsize
    subst hby
    rcases hown.2 with ⟨rfl, rfl⟩ | ⟨g, cap, cur, rfl, hbg, hg, hnc, hcm, hcs, htake⟩
    · have hq := run_append_nil (P := P) w t o.type e i z ht hi hz ad 1 c news (by omega) hnews (by omega) (by omega) (by have := hbytes; omega)
      rw [hq] at hr
      cases hr
      exact .inr rfl
    · by_cases hroom : n + 1 ≤ cap
      · have hfit : n * i.size + news.length ≤ cur.size := by rw [hcs]; have := Nat.mul_le_mul_right i.size hroom; rw [Nat.add_mul] at this; omega
        have hq := run_append_room (P := P) w t o.type e i ht hi g n cap cur hg ad 1 c news (by omega) hnews h1 hroom hfit
        rw [hq] at hr
        cases hr
        exact .inl rfl
      · have holds : ∀ j u, xs[j]? = some u → w.cell? ((⟨g, 0, none⟩ : Addr).add j) = some u := hown.cells (g := g) rfl
        have hq := run_append_grow (P := P) w t o.type e i z ht hi hz ⟨g, 0, none⟩ n cap xs hown.1 holds ad 1 c news (by omega) hnews (by omega) (by omega) (growslice_fits (by omega) hbytes)
        rw [hq] at hr
        cases hr
        exact .inr rfl
  refine wpList_plain hgd fun K hK => ?_
  unfold Oper.wp execOp
  simp only [ho, resolve, invoke, builtin, Sem.run_bind, Sem.run_pure, Result.andThen_ok, List.map_toArray, List.map_cons, List.map_nil, hs, hx, hr]
  exact hK _ _ (h v' w' h2 h3 hnew)

/-- a row of expressions -/
def IsExs (S : Nat → Prop) (w : World) (l : List Ex) (v : Value) : Prop := ∃ vs : List Value, IsRow S w 96 1 v l.length vs ∧ All2 (IsEx S w) l vs
theorem IsExs.same {S : Nat → Prop} {w w' : World} {l : List Ex} {v : Value} (h : IsExs S w l v) (hb : ∀ b, S b → b < w.heap.size → w'.heap[b]? = w.heap[b]?) : IsExs S w' l v := by
  obtain ⟨vs, h1, h2⟩ := h
  exact ⟨vs, h1.same hb, h2.imp fun _ _ h => h.same hb⟩
theorem IsExs.imp {S S' : Nat → Prop} {w : World} {l : List Ex} {v : Value} (h : IsExs S w l v) (hl : ∀ b, b < w.heap.size → S b → S' b) : IsExs S' w l v := by
  obtain ⟨vs, h1, h2⟩ := h
  exact ⟨vs, h1.imp hl, h2.imp fun _ _ h => h.imp hl⟩
theorem IsExs.nil (S : Nat → Prop) (w : World) : IsExs S w [] (.slice none 0 0) := ⟨[], IsRow.nil .., trivial⟩

/-- one more at the end of a row: all else is as it was -/
theorem grown_kept {R N : Nat} {w w1 : World} {v : Value} (hg : w.grownBy w1 v.ownBlock) (hv : ∀ b, v.ownBlock = some b → N ≤ b) {w0 : World} (hk : Kept R w0 w) (h0 : w0.heap.size ≤ N) : Kept R w0 w1 :=
  ⟨hg.os.trans hk.os, hg.tape.trans hk.tape, hg.output.trans hk.output, Nat.le_trans hk.size hg.size, fun b h1 h2 => (hg.block b (Nat.lt_of_lt_of_le h1 hk.size) (fun e => by have := hv b e.symm; omega)).trans (hk.block b h1 h2)⟩
theorem wrap_small {n : Int} (h0 : -1000000000 ≤ n) (h1 : n ≤ 1000000000) : IntKind.i64.wrap n = n := by
  rw [IntKind.wrap_i64]; omega
end Go.Proofs.YtgncgbngjdcpgaaGreatDoor
