/-
  CONTRACT of byte: a number of at most 255.
  CONTRACTS of first and decl: a declaration.
  PLAIN: what is read goes forward, and there is always an answer.
-/
import Derived.Laws.IdiomStrings
import Derived.Test.YtiimnnancblbkaaDoorJWords
import Derived.Test.YtiimnnancblbkaaDoorShelf
import Derived.Test.YtiimnnancblbkaaDoorSyn
namespace Go.Proofs.YtiimnnancblbkaaDoor
open Go.RowKit

theorem valOf_snoc (l : List UInt8) (c : UInt8) : valOf (l ++ [c]) = valOf l * 10 + (c.toNat - 48) := by simp [valOf]
theorem valOf_trim : ∀ l : List UInt8, valOf (Lib.trimLeftB l 48) = valOf l := by
  have h : ∀ (l : List UInt8), l.foldl (fun n c => n * 10 + (c.toNat - 48)) 0 = (l.dropWhile (· == 48)).foldl (fun n c => n * 10 + (c.toNat - 48)) 0 := by
    intro l
    induction l with
    | nil => rfl
    | cons a t ih =>
      by_cases ha : a = 48
      · subst ha; simpa using ih
      · have hb : (a == 48) = false := by simp [ha]
        simp [List.dropWhile, hb]
  intro l
  exact (h l).symm
theorem fold_ge (l : List UInt8) : ∀ n, n ≤ l.foldl (fun n c => n * 10 + (c.toNat - 48)) n := by
  induction l with
  | nil => intro n; simp
  | cons a t ih =>
    intro n
    simp only [List.foldl_cons]
    exact Nat.le_trans (by omega) (ih _)
theorem valOf_take_le (l : List UInt8) (j : Nat) : valOf (l.take j) ≤ valOf l := by
  conv => rhs; rw [← List.take_append_drop j l]
  unfold valOf
  rw [List.foldl_append]
  exact fold_ge _ _
theorem take_snoc (l : List UInt8) (j : Nat) (h : j < l.length) : l.take (j + 1) = l.take j ++ [l[j]] := by rw [List.take_add_one]; simp [h]

theorem conv_bytes (l : List UInt8) : ∃ (conv : World → World) (capf : World → Nat), (∀ w, (convert 9 134 (.string ⟨l.toArray⟩)).run Tryd.prog w = .ok (.slice (some ⟨w.heap.size, 0, none⟩) l.length (capf w)) (conv w)) ∧
    (∀ w, Below w.heap.size w (conv w)) ∧ ∀ w j (h : j < l.length), (conv w).cell? ⟨w.heap.size, j, none⟩ = some (.int .u8 (l[j].toNat)) := by
  refine ⟨_, _, fun w => run_bytes_of_string (P := Tryd.prog) w 9 134 5 ⟨l.toArray⟩ Tryd.underlying9 Tryd.underlying134 Tryd.underlying5, fun w => ?_, fun w j h => ?_⟩
  · exact (Below.refl _ _).drew.alloc (Nat.le_refl _) _
  · refine (blk_cell (blk_new w.drew _) j).trans ?_
    rw [bytesRow_at _ _ j (by simpa using h)]
    simp

theorem trim_mem {l : List UInt8} {c : UInt8} (h : c ∈ Lib.trimLeftB l 48) : c ∈ l := (List.dropWhile_sublist _).subset h

set_option maxRecDepth 100000 in
set_option maxHeartbeats 3200000 in
theorem byte_at {w : World} {R T cap : Nat} {ts : List Tok} {k : Nat} (h : Rd w R T cap ts k) :
    Calls Tryd.prog 80 #[.pointer (some ⟨R, 0, none⟩)] w (Rds w R T cap ts (fun _ v (n : Nat) => v = .int .i64 n) (byteP ts k)) := by
  have q0 := fld0
  have q1 := fld1
  have HR := hide h
  have HDG := hide (h.fit.digits k h.lt)
  have HNX := hide (h.fit.next k h.lt)
  have hl8 := h.fit.len
  have hlk := h.lt
  have hk8 : k < 801 := by omega
  clear h hl8 hlk
  by_cases hn : (tk ts k).kind = 2
  · have HN := hide hn
    have hL : ((tk ts k).kind : Int) = 2 := by omega
    have HDG := hide (HDG.out hn)
    have HNX := hide (HNX.out (by omega))
    have hll : (Lib.trimLeftB (tk ts k).text.data.toList 48).length ≤ 1000000 := Nat.le_trans (List.dropWhile_sublist _).length_le (by have := HR.out.fit.small k HR.out.lt; simpa using this)
    have HV := hide (valOf_trim (tk ts k).text.data.toList)
    have HM : Hid (∀ c ∈ Lib.trimLeftB (tk ts k).text.data.toList 48, 48 ≤ c.toNat ∧ c.toNat ≤ 57) := fun c hc => HDG.out c (trim_mem hc)
    have HTR := hide (Tryd.strings_TrimLeft_one (tk ts k).text 48 (by decide))
    have HTX : Hid (tx ts k = (tk ts k).text.data.toList) := ByteArray.toList_eq ..
    generalize Lib.trimLeftB (tk ts k).text.data.toList 48 = l at *
    obtain ⟨conv, capf, hcv, hcb, hcc⟩ := conv_bytes l
    have HCB := hide hcb
    have HCC := hide hcc
    clear hcb hcc
    clear hn
    go_enter Tryd.func80, Tryd.ntmps80
    go_wp2_with fail
    refine (now_at HR.out).mono ?_
    rintro e w1 ⟨rfl, hb1⟩
    rw [hL]
    have HB1 := hide hb1
    clear hb1
    go_wp2_with fail
    refine (now_at (HR.out.below HB1.out)).mono ?_
    rintro e w2 ⟨rfl, hb2⟩
    have HB2 := hide (Below.step HB1.out hb2)
    clear hb2
    go_wp2_with fail
    refine (HTR.out w2).mono ?_
    rintro e w3 ⟨rfl, rfl⟩
    go_wp2_with fail
    have HB3 := hide (Below.step HB2.out (HCB.out w3))
    have r1 : (conv w3).cell? ⟨R, 1, none⟩ = some (.int .i64 k) := by rw [blk_cell (HR.out.below HB3.out).me]; rfl
    have r2 : (conv w3).frozen? ⟨R, 1, none⟩ = false := blk_frozen (HR.out.below HB3.out).me 1
    go_loop [3, 5, 19] (fun n _ i => ∃ j : Nat, j ≤ l.length ∧ i = .int .i64 j ∧ ∃ v : Nat, n = .int .i64 v ∧ v ≤ 255 ∧ Hid (valOf (l.take j) = v)) (fun _ _ i => l.length - (intOf i).toNat)
    case atStart => exact ⟨0, Nat.zero_le _, rfl, 0, rfl, by decide, (rfl : valOf (l.take 0) = 0)⟩
    case round =>
      obtain ⟨j, hj, rfl, v, rfl, hv, hvv⟩ := hrel
      by_cases hlt : j < l.length
      · have hcj := HCC.out w3 j hlt
        have hm := HM.out l[j] (List.getElem_mem hlt)
        have HTK := hide (take_snoc l j hlt)
        have hj1 : (j : Int) < (l.length : Int) := by omega
        have HCJ : Hid (l[j].toNat = l[j].toNat) := rfl
        generalize hcn : l[j].toNat = cn at *
        have HCN : Hid (l[j].toNat = cn) := hcn
        have hm1 : (48 : Int) ≤ (cn : Int) := by omega
        have hm2 : (cn : Int) ≤ 57 := by omega
        clear hcn hm
        by_cases hbig : v * 10 + (cn - 48) ≤ 255
        · have hb1 : (v : Int) * 10 + ((cn : Int) - 48) ≤ 255 := by omega
          go_wp2_with fail
          refine ⟨⟨j + 1, by omega, by go_num, v * 10 + (cn - 48), by congr 1; omega, hbig, (by rw [HTK.out, valOf_snoc, hvv.out, HCN.out] : valOf (l.take (j + 1)) = _)⟩, by simp [intOf]; omega⟩
        · have hb1 : 255 < (v : Int) * 10 + ((cn : Int) - 48) := by omega
          have HBG : Hid (¬ valOf (tx ts k) ≤ 255) := by
            show ¬ valOf (tx ts k) ≤ 255
            rw [HTX.out, ← HV.out]
            intro hle
            have := valOf_take_le l (j + 1)
            rw [HTK.out, valOf_snoc, hvv.out, HCN.out] at this
            omega
          go_wp2_with fail
          refine (wrong_at 4 (HR.out.below HB3.out)).mono ?_
          rintro e w4 ⟨A, rfl, hA, hb4⟩
          have HA := hide hA
          have HB4 := hide (Below.step HB3.out hb4)
          clear hA hb4
          go_wp2_with fail
          exact ⟨rfl, Rds.bad (by unfold byteP; rw [if_pos HN.out, if_neg HBG.out]) (Kept.of HB4.out) HA.out⟩
      · have HJ : Hid (j = l.length) := (by omega : j = l.length)
        have HVE : Hid (valOf (tx ts k) = v) := by
          show valOf (tx ts k) = v
          rw [HTX.out, ← HV.out, ← hvv.out, HJ.out, List.take_length]
        go_wp2_with fail
        go_ret
        refine Rds.ok (a := v) (k' := k + 1) ?_ ((Kept.of HB3.out).step 1 _) ((HR.out.below HB3.out).step HNX.out) rfl
        unfold byteP; rw [if_pos HN.out, HVE.out, if_pos hv]
  · have HN := hide hn
    have hL : (((tk ts k).kind : Int) != 2) = true := by simp; omega
    clear hn
    go_enter Tryd.func80, Tryd.ntmps80
    go_wp2_with fail
    refine (now_at HR.out).mono ?_
    rintro e w1 ⟨rfl, hb1⟩
    have HB1 := hide hb1
    clear hb1
    go_wp2_with fail
    refine (wrong_at 3 (HR.out.below HB1.out)).mono ?_
    rintro e w2 ⟨A, rfl, hA, hb2⟩
    have HA := hide hA
    have HB2 := hide (Below.step HB1.out hb2)
    clear hA hb2
    go_wp2_with fail
    exact ⟨rfl, Rds.bad (by unfold byteP; rw [if_neg HN.out]) (Kept.of HB2.out) HA.out⟩
end Go.Proofs.YtiimnnancblbkaaDoor
namespace Go.Proofs.YtiimnnancblbkaaDoor
open Go.RowKit

set_option maxRecDepth 100000 in
set_option maxHeartbeats 3200000 in
theorem first_at {w : World} {R T cap : Nat} {ts : List Tok} {k : Nat} (ty : Nat) (h : Rd w R T cap ts k) :
    Calls Tryd.prog 72 #[.pointer (some ⟨R, 0, none⟩), .int .i64 ty] w (Rds w R T cap ts (fun _ v (n : Nat) => v = .int .i64 n) (firstP ts ty k)) := by
  have hnot : ∀ (x : Bool) (w : World), (Op.unary .not (.bool x)).run Tryd.prog w = .ok (.bool (!x)) w := fun _ _ => rfl
  have HR := hide h
  clear h
  cases hn : (tx ts k == [61]) with
  | false =>
    have HN := hide hn
    clear hn
    go_enter Tryd.func72, Tryd.ntmps72
    go_wp2_with fail
    refine (no_at [61] HR.out HN.out).mono ?_
    rintro e w1 ⟨rfl, hd1, hk1⟩
    have HD1 := hide hd1
    have HK1 := hide hk1
    clear hd1 hk1
    go_wp2_with fail
    go_ret
    exact Rds.ok (a := 0) (by simp only [firstP, HN.out, Bool.false_eq_true, if_false]) HK1.out HD1.out rfl
  | true =>
    have HN := hide hn
    clear hn
    by_cases hty : ty = 2
    · have HT := hide hty
      have hti : (ty : Int) = 2 := by omega
      clear hty
      rw [hti]
      go_enter Tryd.func72, Tryd.ntmps72
      go_wp2_with fail
      refine (yes_at [61] (by decide) HR.out HN.out).mono ?_
      rintro e w1 ⟨rfl, hd1, hk1⟩
      have HD1 := hide hd1
      have HK1 := hide hk1
      clear hd1 hk1
      go_wp2_with fail
      refine (byte_at HD1.out).mono ?_
      rintro e w2 h2
      rcases h2.cases with ⟨er2, p2, A2, hr2, rfl, hA2, hk2⟩ | ⟨a2, k2, v2, hr2, rfl, hv2, hd2, hk2⟩
      · have Hr2 := hide hr2
        have HA2 := hide hA2
        have HK2 := hide (HK1.out.trans hk2)
        clear h2 hr2 hA2 hk2
        go_wp2_with fail
        exact ⟨rfl, Rds.bad (by simp only [firstP, HN.out, if_true, HT.out, Hr2.out, Res.bind]) HK2.out HA2.out⟩
      · have Hr2 := hide hr2
        have HD2 := hide hd2
        have HK2 := hide (HK1.out.trans hk2)
        subst hv2
        clear h2 hr2 hd2 hk2
        go_wp2_with fail
        go_ret
        exact Rds.ok (by simp only [firstP, HN.out, if_true, HT.out, Hr2.out]) HK2.out HD2.out rfl
    · have HT := hide hty
      have hti : ((ty : Int) == 2) = false := by simp; omega
      clear hty
      cases hm : (tx ts (k + 1) == [116, 114, 117, 101]) with
      | true =>
        have HM := hide hm
        clear hm
        go_enter Tryd.func72, Tryd.ntmps72
        go_wp2_with fail
        refine (yes_at [61] (by decide) HR.out HN.out).mono ?_
        rintro e w1 ⟨rfl, hd1, hk1⟩
        have HD1 := hide hd1
        have HK1 := hide hk1
        clear hd1 hk1
        go_wp2_with fail
        refine (yes_at [116, 114, 117, 101] (by decide) HD1.out HM.out).mono ?_
        rintro e w2 ⟨rfl, hd2, hk2⟩
        have HD2 := hide hd2
        have HK2 := hide (HK1.out.trans hk2)
        clear hd2 hk2
        go_wp2_with fail
        go_ret
        exact Rds.ok (a := 1) (by simp only [firstP, HN.out, if_true, if_neg HT.out, HM.out]) HK2.out HD2.out rfl
      | false =>
        have HM := hide hm
        clear hm
        go_enter Tryd.func72, Tryd.ntmps72
        go_wp2_with fail
        refine (yes_at [61] (by decide) HR.out HN.out).mono ?_
        rintro e w1 ⟨rfl, hd1, hk1⟩
        have HD1 := hide hd1
        have HK1 := hide hk1
        clear hd1 hk1
        go_wp2_with fail
        refine (no_at [116, 114, 117, 101] HD1.out HM.out).mono ?_
        rintro e w2 ⟨rfl, hd2, hk2⟩
        have HD2 := hide hd2
        have HK2 := hide (HK1.out.trans hk2)
        clear hd2 hk2
        go_wp2_with fail
        refine (need_at [102, 97, 108, 115, 101] (by decide) HD2.out).mono ?_
        rintro e w3 h3
        rcases h3.cases with ⟨er3, p3, A3, hr3, rfl, hA3, hk3⟩ | ⟨a3, k3, v3, hr3, rfl, hv3, hd3, hk3⟩
        · have Hr3 := hide hr3
          have HA3 := hide hA3
          have HK3 := hide (HK2.out.trans hk3)
          clear h3 hr3 hA3 hk3
          go_wp2_with fail
          exact ⟨rfl, Rds.bad (by simp only [firstP, HN.out, if_true, if_neg HT.out, HM.out, Bool.false_eq_true, if_false, Hr3.out, Res.bind]) HK3.out HA3.out⟩
        · have Hr3 := hide hr3
          have HD3 := hide hd3
          have HK3 := hide (HK2.out.trans hk3)
          subst hv3
          clear h3 hr3 hd3 hk3
          go_wp2_with fail
          go_ret
          exact Rds.ok (a := 0) (by simp only [firstP, HN.out, if_true, if_neg HT.out, HM.out, Bool.false_eq_true, if_false, Hr3.out, Res.bind]) HK3.out HD3.out rfl
end Go.Proofs.YtiimnnancblbkaaDoor
namespace Go.Proofs.YtiimnnancblbkaaDoor

theorem bind_ok {α β : Type} {r : Res α} {f : α → Nat → Res β} {b : β} {k' : Nat} (h : r.bind f = .ok b k') : ∃ a k, r = .ok a k ∧ f a k = .ok b k' := by
  cases r with
  | out => cases h
  | bad e p => cases h
  | ok a k => exact ⟨a, k, rfl, h⟩
theorem bind_out {α β : Type} {r : Res α} {f : α → Nat → Res β} (h : r.bind f = .out) : r = .out ∨ ∃ a k, r = .ok a k ∧ f a k = .out := by
  cases r with
  | out => exact .inl rfl
  | bad e p => cases h
  | ok a k => exact .inr ⟨a, k, rfl, h⟩

section
variable {ts : List Tok}

theorem nameP_ok {k k' : Nat} {s : ByteArray} (h : nameP ts k = .ok s k') : k' = k + 1 := by
  unfold nameP at h
  split at h
  · split at h
    · cases h; rfl
    · cases h
  · cases h
theorem byteP_ok {k k' n : Nat} (h : byteP ts k = .ok n k') : k' = k + 1 := by
  unfold byteP at h
  split at h
  · split at h
    · cases h; rfl
    · cases h
  · cases h
theorem wantP_ok {s : List UInt8} {k k' : Nat} {u : Unit} (h : wantP ts s k = .ok u k') : k' = k + 1 := by
  unfold wantP at h
  split at h
  · cases h; rfl
  · cases h
theorem nameP_out {k : Nat} : nameP ts k ≠ .out := by
  unfold nameP; split
  · split <;> intro h <;> cases h
  · intro h; cases h
theorem byteP_out {k : Nat} : byteP ts k ≠ .out := by
  unfold byteP; split
  · split <;> intro h <;> cases h
  · intro h; cases h
theorem wantP_out {s : List UInt8} {k : Nat} : wantP ts s k ≠ .out := by
  unfold wantP; split <;> intro h <;> cases h

theorem ex_mono (f : Nat) : (∀ lv deep k x k', twoP ts f lv deep k = .ok x k' → k < k') ∧ (∀ lv deep p y k x k', loopP ts f lv deep p y k = .ok x k' → k ≤ k') ∧ (∀ deep k x k', oneP ts f deep k = .ok x k' → k < k') := by
  induction f with
  | zero => exact ⟨fun _ _ _ _ _ h => by simp [twoP] at h, fun _ _ _ _ _ _ _ h => by simp [loopP] at h, fun _ _ _ _ h => by simp [oneP] at h⟩
  | succ f ih =>
    obtain ⟨h2, hl, h1⟩ := ih
    refine ⟨fun lv deep k x k' h => ?_, fun lv deep p y k x k' h => ?_, fun deep k x k' h => ?_⟩
    · unfold twoP at h
      split at h
      · exact h1 _ _ _ _ h
      · obtain ⟨a, k1, e1, e2⟩ := bind_ok h
        exact Nat.lt_of_lt_of_le (h2 _ _ _ _ _ e1) (hl _ _ _ _ _ _ _ e2)
    · unfold loopP at h
      split at h
      · obtain ⟨a, k1, e1, e2⟩ := bind_ok h
        have := h2 _ _ _ _ _ e1
        have := hl _ _ _ _ _ _ _ e2
        omega
      · cases h; exact Nat.le_refl _
    · unfold oneP at h
      split at h
      · cases h
      split at h
      · obtain ⟨a, k1, e1, e2⟩ := bind_ok h
        have := h1 _ _ _ _ e1
        cases e2; omega
      split at h
      · obtain ⟨a, k1, e1, e2⟩ := bind_ok h
        obtain ⟨b, k2, e3, e4⟩ := bind_ok e2
        have := h2 _ _ _ _ _ e1
        have := wantP_ok e3
        cases e4; omega
      split at h
      · cases h; omega
      split at h
      · cases h; omega
      split at h
      · obtain ⟨a, k1, e1, e2⟩ := bind_ok h
        have := byteP_ok e1
        cases e2; omega
      · obtain ⟨a, k1, e1, e2⟩ := bind_ok h
        have := nameP_ok e1
        split at e2
        · obtain ⟨b, k2, e3, e4⟩ := bind_ok e2
          have := nameP_ok e3
          cases e4; omega
        · cases e2; omega

theorem two_lt {f lv deep k : Nat} {x : Ex} {k' : Nat} (h : twoP ts f lv deep k = .ok x k') : k < k' := (ex_mono f).1 _ _ _ _ _ h

theorem tk_past {k : Nat} (h : ts.length ≤ k) : tk ts k = ⟨0, ⟨#[]⟩, 0⟩ := by simp [tk, h]
theorem tx_past {k : Nat} (h : ts.length ≤ k) : tx ts k = [] := by unfold tx; rw [tk_past h, ByteArray.toList_eq]

theorem ex_out (f : Nat) : (∀ lv deep k, 1 ≤ lv → lv ≤ 6 → 10 * (ts.length - k) + (6 - lv) + 12 < f → twoP ts f lv deep k ≠ .out) ∧ (∀ lv deep p y k, 1 ≤ lv → lv ≤ 5 → 10 * (ts.length - k) + 9 < f → loopP ts f lv deep p y k ≠ .out) ∧ (∀ deep k, 10 * (ts.length - k) + 11 < f → oneP ts f deep k ≠ .out) := by
  induction f with
  | zero => exact ⟨fun _ _ _ _ _ h => by omega, fun _ _ _ _ _ _ _ h => by omega, fun _ _ h => by omega⟩
  | succ f ih =>
    obtain ⟨h2, hl, h1⟩ := ih
    refine ⟨fun lv deep k hl1 hl6 hf h => ?_, fun lv deep p y k hl1 hl5 hf h => ?_, fun deep k hf h => ?_⟩
    · unfold twoP at h
      split at h
      · exact h1 _ _ (by omega) h
      · rcases bind_out h with e | ⟨a, k1, e1, e2⟩
        · exact h2 _ _ _ (by omega) (by omega) (by omega) e
        · have := two_lt e1
          exact hl _ _ _ _ _ hl1 (by omega) (by omega) e2
    · unfold loopP at h
      split at h
      · rename_i hlv
        have hk : k < ts.length := by
          by_cases hk : ts.length ≤ k
          · rw [tx_past hk] at hlv; simp [levelN] at hlv; omega
          · omega
        rcases bind_out h with e | ⟨a, k1, e1, e2⟩
        · exact h2 _ _ _ (by omega) (by omega) (by omega) e
        · have := two_lt e1
          exact hl _ _ _ _ _ hl1 hl5 (by omega) e2
      · cases h
    · unfold oneP at h
      split at h
      · cases h
      have hlt : ∀ s : List UInt8, s ≠ [] → (tx ts k == s) = true → k < ts.length := fun s hs he => by
        by_cases hk : ts.length ≤ k
        · rw [tx_past hk, beq_iff_eq] at he; exact absurd he.symm hs
        · omega
      split at h
      · rename_i he
        have := hlt _ (by decide) he
        rcases bind_out h with e | ⟨a, k1, e1, e2⟩
        · exact h1 _ _ (by omega) e
        · cases e2
      split at h
      · rename_i he
        have := hlt _ (by decide) he
        rcases bind_out h with e | ⟨a, k1, e1, e2⟩
        · exact h2 _ _ _ (by omega) (by omega) (by omega) e
        · rcases bind_out e2 with e | ⟨b, k2, e3, e4⟩
          · exact wantP_out e
          · cases e4
      split at h
      · cases h
      split at h
      · cases h
      split at h
      · rcases bind_out h with e | ⟨a, k1, e1, e2⟩
        · exact byteP_out e
        · cases e2
      · rcases bind_out h with e | ⟨a, k1, e1, e2⟩
        · exact nameP_out e
        · split at e2
          · rcases bind_out e2 with e | ⟨b, k2, e3, e4⟩
            · exact nameP_out e
            · cases e4
          · cases e2
end
end Go.Proofs.YtiimnnancblbkaaDoor
