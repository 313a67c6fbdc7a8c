/-
  CONTRACT of tokens: the tokens of a text, and its end behind them.
-/
import Derived.Deep.RegionHeld3
import Derived.Test.YtgncgbngjdcpgaaGreatDoorTokP
import Derived.Test.YtgncgbngjdcpgaaGreatDoorDecls
namespace Go.Proofs.YtgncgbngjdcpgaaGreatDoor
open Go.RowKit

abbrev BLL : List UInt8 := [32, 9, 10]
abbrev tokCells (t : Tok) : List Value := [.int .i64 t.kind, .string t.text, .int .i64 t.pos]
theorem info_tok : ∃ i, Tryz.prog.info? 102 = some i ∧ i.zero = some (.agg #[.int .i64 0, .string ⟨#[]⟩, .int .i64 0]) ∧ i.size = 3 ∧ i.bytes = 32 := info_parts (by kernel_rfl)

/-- what a call comes to that throws or gives tokens -/
def Toks (w : World) (r : Res (List Tok)) (e : Ending) (w' : World) : Prop :=
  Below w.heap.size w w' ∧ match r with
  | .out => False
  | .bad er p => Thrown er p e w'
  | .ok ts _ => Fit ts ∧ 0 < ts.length ∧ ∃ T cap : Nat, e = .returned (.slice (some ⟨T, 0, none⟩) ts.length cap) ∧ w.heap.size ≤ T ∧ TokRow w' T ts

theorem blk_new2 (w : World) (a b : Obj) : ((w.alloc a).alloc b).heap[w.heap.size + 1]? = some b := by
  have h := blk_new (w.alloc a) b
  simp only [World.size_alloc] at h
  exact h
theorem below_two {w w3 : World} (h : Below w.heap.size w w3) (a b : Obj) : Below w.heap.size w ((w3.alloc a).alloc b) := Below.step (Below.step h (below_alloc w3 a)) (below_alloc _ b)
theorem row_toks {w : World} {T cap n : Nat} {ts : List Tok} (hn : n = ts.length) (h : w.ownsRow 0 102 3 (.slice (some ⟨T, 0, none⟩) n cap) n (ts.flatMap tokCells)) : TokRow w T ts := by
  intro i hi
  have hlen : ∀ (l : List Tok) (j : Nat) (hj : j < l.length) (q : Nat) (hq : q < 3), (l.flatMap tokCells)[j * 3 + q]? = (tokCells l[j])[q]? := by
    intro l
    induction l with
    | nil => intro j hj; simp at hj
    | cons a t ih =>
      intro j hj q hq
      cases j with
      | zero => simp only [List.flatMap_cons, Nat.zero_mul, Nat.zero_add, List.getElem_cons_zero]; rw [List.getElem?_append_left (by simpa using hq)]
      | succ j =>
        simp only [List.flatMap_cons, List.getElem_cons_succ]
        rw [List.getElem?_append_right (by simp; omega)]
        have := ih j (by simpa using hj) q hq
        rw [← this]
        congr 1
        simp; omega
  have hc : ∀ q, q < 3 → w.cell? ⟨T, i * 3 + q, none⟩ = (tokCells ts[i])[q]? := fun q hq => by
    rw [h.cellAt (i * 3 + q) (by omega), hlen ts i hi q hq]
  have e : tk ts i = ts[i] := by unfold tk; rw [List.getElem?_eq_getElem hi, Option.getD_some]
  rw [e]
  exact ⟨hc 0 (by omega), hc 1 (by omega), hc 2 (by omega)⟩

set_option maxRecDepth 100000 in
set_option maxHeartbeats 6400000 in
theorem tokens_at (s : ByteArray) (w : World) (hs : s.size ≤ 1000000) (hv : Vars w) :
    Calls Tryz.prog 80 #[.string s] w (Toks w (tokens s)) := by
  obtain ⟨i0, hi, hz0, hz1, hz2⟩ := info_tok
  have HNO : Hid (tokens s ≠ .out) := by
    have hp := past_le isBl s.data.toList 0 (Nat.zero_le _)
    rw [Array.length_toList] at hp
    exact toks_out s hs _ _ _ hp.2 (by omega)
  have HPB : Hid (∀ i, i ≤ s.size → i ≤ past isBl s.data.toList i ∧ past isBl s.data.toList i ≤ s.size) := fun i h => by
    have := past_le isBl s.data.toList i (by rw [Array.length_toList]; exact h)
    rw [Array.length_toList] at this
    exact this
  have HC : Hid (∀ (i B : Nat) (w : World), i ≤ s.size → w.cell? ⟨B, 0, none⟩ = some (.string ⟨BLL.toArray⟩) → Calls Tryz.prog 85 #[.string s, .int .i64 i, .func (.func 123) #[] #[.pointer (some ⟨B, 0, none⟩)]] w fun e w' => e = .returned (.int .i64 (past isBl s.data.toList i)) ∧ w' = w) := fun i B w h hB => past_at BLL B s i w h hs hB
  have HV := hide hv
  have HTG := hide fun i h => tokenAt_good s i h hs
  have HTA := hide fun i w h hv => tokenAt_at s i w h hs hv
  have HTD : Hid (tokens s = toks s (s.size + 1) (past isBl s.data.toList 0) []) := rfl
  clear hv
  go_enter Tryz.func80, Tryz.ntmps80
  go_wp2_with fail
  refine (oneOf_at BLL w).mono ?_
  rintro e w1 ⟨rfl, rfl⟩
  go_wp2_with fail
  refine Calls.mono (HC.out 0 w.heap.size _ (Nat.zero_le _) (by simp)) ?_
  rintro e w1 ⟨rfl, rfl⟩
  have hp0 := (HPB.out 0 (Nat.zero_le _)).2
  generalize past isBl s.data.toList 0 = p0 at *
  go_wp2_with fail
  go_loopw [3, 4] (fun v a wr => ∃ (g i : Nat) (acc : List Tok), a = .int .i64 i ∧ i ≤ s.size ∧ Hid (IsRow (From w.heap.size) wr 102 3 v acc.length (acc.flatMap tokCells)) ∧ Hid (Below w.heap.size w wr) ∧ Hid (tokens s = toks s g i acc) ∧ Hid (∀ t ∈ acc, Good t) ∧ Hid (acc.length ≤ 800)) (fun _ a _ => s.size - (intOf a).toNat)
  case atStart => exact ⟨_, p0, [], rfl, hp0, IsRow.nil .., below_alloc w _, HTD.out, (by simp : ∀ t ∈ ([] : List Tok), Good t), Nat.zero_le 800⟩
  case round =>
    obtain ⟨g, i, acc, rfl, hi2, hy, hb, he2, hgd, hac⟩ := hrel
    have hac' : acc.length ≤ 800 := hac.out
    obtain ⟨va, vc, hvv⟩ := hy.out.val
    subst hvv
    cases g with
    | zero => exact absurd (he2.out.trans (by simp only [toks])) HNO.out
    | succ g =>
    by_cases hlt : i < s.size
    · have hlti : (i : Int) < (s.size : Int) := by omega
      have HLT := hide hlt
      have HG0 := hide (HTG.out i hi2)
      have HTW := hide (HTA.out i wr hi2 (HV.out.below hb.out))
      have HU : Hid (toks s (g + 1) i acc = if (tokenAt s i).kind = 0 then .bad 3 i else if acc.length = 800 then .bad 4 i else toks s g (past isBl s.data.toList (i + (tokenAt s i).text.size)) (acc ++ [tokenAt s i])) := by
        show _ = _
        rw [toks, if_pos hlt]
      generalize tokenAt s i = t at *
      go_wp2_with fail
      refine HTW.out.mono ?_
      rintro e w3 ⟨rfl, hb3⟩
      have HB3 := hide (Below.step hb.out hb3)
      have HY3 := hide (hy.out.same fun b _ h2 => hb3.block b h2)
      clear hb3
      have HN4 := hide (blk_new w3 (.cells #[.int .i64 t.kind, .string t.text, .int .i64 t.pos] 102))
      have HB4 := hide (below_alloc w3 (.cells #[.int .i64 t.kind, .string t.text, .int .i64 t.pos] 102))
      by_cases hk : t.kind = 0
      · have HK := hide hk
        have hki : (t.kind : Int) = 0 := by omega
        go_wp2_with fail
        refine ⟨rfl, below_two HB3.out _ _, ?_⟩
        rw [he2.out, HU.out, if_pos HK.out]
        exact ⟨_, rfl, blk_new2 _ _ _⟩
      · have HK := hide hk
        have hki : ((t.kind : Int) == 0) = false := by simp; omega
        by_cases h8 : acc.length = 800
        · have H8 := hide h8
          have h8i : (acc.length : Int) = 800 := by omega
          go_wp2_with fail
          refine ⟨rfl, below_two HB3.out _ _, ?_⟩
          rw [he2.out, HU.out, if_neg HK.out, if_pos H8.out]
          exact ⟨_, rfl, blk_new2 _ _ _⟩
        · have H8 := hide h8
          have h8i : ((acc.length : Int) == 800) = false := by simp; omega
          have HGT := hide (HG0.out hk)
          have hle : i + t.text.size ≤ s.size := HGT.out.2.2
          have hpos : 0 < t.text.size := HGT.out.2.1
          have HPI := hide (HPB.out (i + t.text.size) hle)
          have HCQ : Hid (∀ (B : Nat) (w : World), w.cell? ⟨B, 0, none⟩ = some (.string ⟨BLL.toArray⟩) → Calls Tryz.prog 85 #[.string s, .int .i64 ((i : Int) + (t.text.size : Int)), .func (.func 123) #[] #[.pointer (some ⟨B, 0, none⟩)]] w fun e w' => e = .returned (.int .i64 (past isBl s.data.toList (i + t.text.size))) ∧ w' = w) := fun B w hB => by
            have := HC.out (i + t.text.size) B w hle hB
            rw [Int.natCast_add] at this
            exact this
          generalize past isBl s.data.toList (i + t.text.size) = p at *
          have HY4 := hide (HY3.out.same fun b _ h2 => HB4.out.block b h2)
          have HOWN := hide ((HY4.out.1).alloc (.cells #[.int .i64 t.kind, .string t.text, .int .i64 t.pos] 102))
          clear hk h8
          go_wp2_with (at_builtin; (refine append_new rfl (.tmp 30) (.tmp 32) 142 rfl 102 i0 (.agg #[.int .i64 0, .string ⟨#[]⟩, .int .i64 0]) 3 32 Tryz.underlying142 hi hz0 hz1 hz2 rfl (by decide) _ acc.length (acc.flatMap tokCells) rfl HOWN.out ⟨w3.heap.size + 1, 0, none⟩ 1 [.int .i64 t.kind, .string t.text, .int .i64 t.pos] rfl rfl ?c1 ?c2 ?c3 (by decide) ?_))
          case c1 => exact (by have := row_new (w3.alloc (.cells #[.int .i64 t.kind, .string t.text, .int .i64 t.pos] 102)) 102 [.int .i64 t.kind, .string t.text, .int .i64 t.pos]; simpa using this)
          case c2 => simp [Value.oneCell']
          case c3 => omega
          · intro v9 w9 hown9 hg9 hb9
            have HRW : Hid (w9.heap[w3.heap.size]? = some (.cells #[.int .i64 t.kind, .string t.text, .int .i64 t.pos] 102 (0, 0))) := by
              show _ = _
              rw [hg9.block w3.heap.size (by simp; omega) (fun e => by have := (HY3.out.1.lt _ e.symm).2; omega), Below.heap_alloc _ _ _ (by simp)]
              exact HN4.out
            have HB9 : Hid (Below w.heap.size w w9) := (below_two HB3.out _ _).grown hg9 (by have := HB3.out.size; simp; omega) (fun b hb => HY3.out.2 b hb)
            have HY9 : Hid (IsRow (From w.heap.size) w9 102 3 v9 (acc ++ [t]).length ((acc ++ [t]).flatMap tokCells)) := ⟨by simpa using hown9, fun b hb => by
              rcases hb9 with e | e
              · exact HY3.out.2 b (by rw [← e]; exact hb)
              · rw [e] at hb
                simp only [Option.some.injEq] at hb
                have := HB3.out.size
                try simp at hb
                show w.heap.size ≤ b
                omega⟩
            obtain ⟨va9, vc9, hv9⟩ : ∃ (a : Option Addr) (c : Nat), v9 = .slice a (acc.length + 1) c := by have := HY9.out.val; simpa using this
            subst hv9
            have x1 : w9.cell? ⟨w3.heap.size, 1, none⟩ = some (.string t.text) := by rw [blk_cell HRW.out]; rfl
            have hwr : IntKind.i64.wrap ((i : Int) + (t.text.size : Int)) = (i : Int) + (t.text.size : Int) := wrap_small (by omega) (by omega)
            clear hown9 hg9 hb9
            go_wp2_with fail
            go_region_held3 (fun w' => w'.cell? ⟨w3.heap.size, 1, none⟩ = some (.string t.text)) (first | go_keep) ((first | (go_at_call 86; refine (oneOf_at BLL _).mono ?_; rintro e w10 ⟨rfl, rfl⟩) | (go_at_call 85; refine Calls.mono (HCQ.out _ _ (by simp)) ?_; rintro e w11 ⟨rfl, rfl⟩)))
            go_wp2_with fail
            refine ⟨⟨g, p, acc ++ [t], rfl, HPI.out.2, (HY9.out.same (w' := (w9.alloc (.cells #[.string ⟨BLL.toArray⟩] 9)).drew) fun b _ h2 => (below_alloc w9 _).block b h2 : IsRow _ _ _ _ _ _ _), (Below.step HB9.out (below_alloc w9 _)).drew, ?_, ?_, ?_⟩, ?_⟩
            · show _ = _
              rw [he2.out, HU.out, if_neg HK.out, if_neg H8.out]
            · show ∀ q ∈ acc ++ [t], Good q
              intro q hq
              rcases List.mem_append.1 hq with h | h
              · exact hgd.out q h
              · simp at h; subst h; exact HGT.out.1
            · show _ ≤ _
              have := H8.out
              simp; omega
            · have := HPI.out.1
              simp [intOf]; omega
    · have hlti : ¬ (i : Int) < (s.size : Int) := by omega
      have HU : Hid (toks s (g + 1) i acc = .ok (acc ++ [⟨0, ⟨#[]⟩, s.size⟩]) 0) := by
        show _ = _
        rw [toks, if_neg hlt]
      have HOWN := hide ((hy.out.1).alloc (.cells #[.int .i64 0, .string ⟨#[]⟩, .int .i64 s.size] 102))
      go_wp2_with (at_builtin; (refine append_new rfl (.tmp 42) (.tmp 46) 142 rfl 102 i0 (.agg #[.int .i64 0, .string ⟨#[]⟩, .int .i64 0]) 3 32 Tryz.underlying142 hi hz0 hz1 hz2 rfl (by decide) _ acc.length (acc.flatMap tokCells) rfl HOWN.out ⟨wr.heap.size, 0, none⟩ 1 [.int .i64 0, .string ⟨#[]⟩, .int .i64 s.size] rfl rfl ?c1 ?c2 ?c3 (by decide) ?_))
      case c2 => simp [Value.oneCell']
      case c3 => omega
      · intro v9 w9 hown9 hg9 hb9
        have HB9 : Hid (Below w.heap.size w w9) := (Below.step hb.out (below_alloc wr _)).grown hg9 (by have := hb.out.size; simp; omega) (fun b hb => hy.out.2 b hb)
        have HROW : Hid (w9.ownsRow 0 102 3 v9 (acc.length + 1) ((acc ++ [(⟨0, ⟨#[]⟩, s.size⟩ : Tok)]).flatMap tokCells)) := by
          show World.ownsRow _ _ _ _ _ _ _
          rw [List.flatMap_append]
          exact hown9
        have HGE : Hid (∀ b, v9.ownBlock = some b → w.heap.size ≤ b) := fun b hb' => by
          rcases hb9 with e | e
          · exact hy.out.2 b (by rw [← e]; exact hb')
          · rw [e] at hb'
            simp only [Option.some.injEq] at hb'
            have := hb.out.size
            try simp at hb'
            omega
        obtain ⟨T, cap, hv9⟩ : ∃ T cap : Nat, v9 = .slice (some ⟨T, 0, none⟩) (acc.length + 1) cap := by
          rcases HROW.out.2 with ⟨_, h0⟩ | ⟨g, cap, cur, rfl, _⟩
          · omega
          · exact ⟨g, cap, rfl⟩
        subst hv9
        clear hown9 hg9 hb9
        go_wp2_with fail
        go_ret
        refine ⟨HB9.out, ?_⟩
        rw [he2.out, HU.out]
        refine ⟨fit_of acc s.size hgd.out hac.out, by simp, T, cap, by simp, HGE.out T rfl, row_toks (by simp) HROW.out⟩
end Go.Proofs.YtgncgbngjdcpgaaGreatDoor
