/-
  PLAIN: the tokens of a text, a reader of programs and of declarations, and their writer, without the program: what the contracts speak of.
-/
import Derived.WalkKit
namespace Go.Proofs.YtiimnnancblbkaaDoor

/-- a token: kinds 0 the end, 1 a word, 2 a number, 3 a mark -/
structure Tok where
  kind : Nat
  text : ByteArray
  pos : Nat

inductive Res (α : Type) where
  | out
  | bad (e : Int) (p : Nat)
  | ok (a : α) (k : Nat)

def Res.bind {α β : Type} (r : Res α) (f : α → Nat → Res β) : Res β :=
  match r with
  | .out => .out
  | .bad e p => .bad e p
  | .ok a k => f a k

theorem Res.bind_out {α β : Type} (f : α → Nat → Res β) : Res.bind (Res.out (α := α)) f = .out := rfl
theorem Res.bind_bad {α β : Type} (e : Int) (p : Nat) (f : α → Nat → Res β) : Res.bind (Res.bad (α := α) e p) f = .bad e p := rfl
theorem Res.bind_ok {α β : Type} (a : α) (k : Nat) (f : α → Nat → Res β) : Res.bind (Res.ok a k) f = f a k := rfl

def isBl (c : UInt8) : Bool := [32, 9, 10].contains c
def isDg (c : UInt8) : Bool := [48, 49, 50, 51, 52, 53, 54, 55, 56, 57].contains c
def isLd (c : UInt8) : Bool := [97, 98, 99, 100, 101, 102, 103, 104, 105, 106, 107, 108, 109, 110, 111, 112, 113, 114, 115, 116, 117, 118, 119, 120, 121, 122, 95, 48, 49, 50, 51, 52, 53, 54, 55, 56, 57].contains c
def marksL : List (List UInt8) := [[58, 61], [60, 62], [60, 61], [62, 61], [60], [62], [61], [43], [45], [40], [41], [44], [59], [58], [46]]
def keptL : List (List UInt8) := [[105, 110], [111, 117, 116], [118, 97, 114], [98, 111, 111, 108], [98, 121, 116, 101], [116, 105, 109, 101, 114], [99, 111, 117, 110, 116, 101, 114], [101, 100, 103, 101], [98, 101, 103, 105, 110], [101, 110, 100], [105, 102], [116, 104, 101, 110], [101, 108, 115, 105, 102], [101, 108, 115, 101], [97, 110, 100], [111, 114], [120, 111, 114], [110, 111, 116], [116, 114, 117, 101], [102, 97, 108, 115, 101]]

/-- the first place, from i on, whose letter is not such -/
def past (p : UInt8 → Bool) (l : List UInt8) (i : Nat) : Nat := i + ((l.drop i).takeWhile p).length

def tokenAt (s : ByteArray) (i : Nat) : Tok :=
  if i < past isDg s.data.toList i then ⟨2, s.extract i (past isDg s.data.toList i), i⟩
  else if i < past isLd s.data.toList i then ⟨1, s.extract i (past isLd s.data.toList i), i⟩
  else match marksL.find? (fun m => m.isPrefixOf (s.data.toList.drop i)) with
    | some m => ⟨3, ⟨m.toArray⟩, i⟩
    | none => ⟨0, ⟨#[]⟩, i⟩

/-- the tokens from a place on, behind those that are read; its last one is the end -/
def toks (s : ByteArray) : Nat → Nat → List Tok → Res (List Tok)
  | 0, _, _ => .out
  | f + 1, i, acc =>
    if i < s.size then
      if (tokenAt s i).kind = 0 then .bad 3 i
      else if acc.length = 800 then .bad 4 i
      else toks s f (past isBl s.data.toList (i + (tokenAt s i).text.size)) (acc ++ [tokenAt s i])
    else .ok (acc ++ [⟨0, ⟨#[]⟩, s.size⟩]) 0

def tokens (s : ByteArray) : Res (List Tok) := toks s (s.size + 1) (past isBl s.data.toList 0) []

def tk (ts : List Tok) (k : Nat) : Tok := ts[k]?.getD ⟨0, ⟨#[]⟩, 0⟩
abbrev tx (ts : List Tok) (k : Nat) : List UInt8 := (tk ts k).text.toList

def isNm (t : Tok) : Bool := t.kind == 1 && !keptL.contains t.text.toList

def nameP (ts : List Tok) (k : Nat) : Res ByteArray :=
  if isNm (tk ts k) then
    if (tk ts k).text.size ≤ 12 then .ok (tk ts k).text (k + 1) else .bad 4 (tk ts k).pos
  else .bad 3 (tk ts k).pos

def valOf (l : List UInt8) : Nat := l.foldl (fun n c => n * 10 + (c.toNat - 48)) 0

def byteP (ts : List Tok) (k : Nat) : Res Nat :=
  if (tk ts k).kind = 2 then
    if valOf (tx ts k) ≤ 255 then .ok (valOf (tx ts k)) (k + 1) else .bad 4 (tk ts k).pos
  else .bad 3 (tk ts k).pos

def wantP (ts : List Tok) (s : List UInt8) (k : Nat) : Res Unit :=
  if tx ts k == s then .ok () (k + 1) else .bad 3 (tk ts k).pos

def wayN (s : List UInt8) : Nat := if s == [105, 110] then 1 else if s == [111, 117, 116] then 2 else if s == [118, 97, 114] then 3 else 0
def blkN (s : List UInt8) : Nat := if s == [116, 105, 109, 101, 114] then 3 else if s == [99, 111, 117, 110, 116, 101, 114] then 4 else if s == [101, 100, 103, 101] then 5 else 0

structure De where
  name : ByteArray
  way : Nat
  ty : Nat
  init : Nat

def kindP (ts : List Tok) (k : Nat) : Res Nat :=
  if tx ts k == [98, 111, 111, 108] then .ok 1 (k + 1) else (wantP ts [98, 121, 116, 101] k).bind fun _ k => .ok 2 k

def firstP (ts : List Tok) (ty k : Nat) : Res Nat :=
  if tx ts k == [61] then
    if ty = 2 then byteP ts (k + 1)
    else if tx ts (k + 1) == [116, 114, 117, 101] then .ok 1 (k + 2)
    else (wantP ts [102, 97, 108, 115, 101] (k + 1)).bind fun _ k => .ok 0 k
  else .ok 0 k

def declP (ts : List Tok) (k : Nat) : Res De :=
  (nameP ts (k + 1)).bind fun s k1 =>
  if blkN (tx ts k) ≠ 0 then (wantP ts [59] k1).bind fun _ k2 => .ok ⟨s, 3, blkN (tx ts k), 0⟩ k2
  else (wantP ts [58] k1).bind fun _ k2 => (kindP ts k2).bind fun ty k3 =>
    if wayN (tx ts k) ≠ 1 then (firstP ts ty k3).bind fun n k4 => (wantP ts [59] k4).bind fun _ k5 => .ok ⟨s, wayN (tx ts k), ty, n⟩ k5
    else (wantP ts [59] k3).bind fun _ k5 => .ok ⟨s, wayN (tx ts k), ty, 0⟩ k5

def declsP (ts : List Tok) : Nat → Nat → List De → Res (List De)
  | 0, _, _ => .out
  | f + 1, k, acc =>
    if wayN (tx ts k) ≠ 0 ∨ blkN (tx ts k) ≠ 0 then
      (declP ts k).bind fun d k' => if acc.length = 20 then .bad 4 (tk ts k).pos else declsP ts f k' (acc ++ [d])
    else .ok acc k

inductive Ex where
  | num (pos n ty : Nat)
  | name (pos : Nat) (s : ByteArray)
  | field (pos : Nat) (s f : ByteArray)
  | not (pos : Nat) (x : Ex)
  | bin (pos : Nat) (op : ByteArray) (x y : Ex)

def levelN (s : List UInt8) : Nat :=
  if s == [111, 114] then 1 else if s == [120, 111, 114] then 2 else if s == [97, 110, 100] then 3
  else if s == [61] || s == [60, 62] || s == [60] || s == [60, 61] || s == [62] || s == [62, 61] then 4
  else if s == [43] || s == [45] then 5 else 0

mutual
def twoP (ts : List Tok) : Nat → Nat → Nat → Nat → Res Ex
  | 0, _, _, _ => .out
  | f + 1, lv, deep, k =>
    if lv = 6 then oneP ts f deep k
    else (twoP ts f (lv + 1) deep k).bind fun x k' => loopP ts f lv deep (tk ts k).pos x k'
def loopP (ts : List Tok) : Nat → Nat → Nat → Nat → Ex → Nat → Res Ex
  | 0, _, _, _, _, _ => .out
  | f + 1, lv, deep, pos, x, k =>
    if levelN (tx ts k) = lv then (twoP ts f (lv + 1) deep (k + 1)).bind fun y k' => loopP ts f lv deep pos (.bin pos (tk ts k).text x y) k'
    else .ok x k
def oneP (ts : List Tok) : Nat → Nat → Nat → Res Ex
  | 0, _, _ => .out
  | f + 1, deep, k =>
    if 8 < deep then .bad 4 (tk ts k).pos
    else if tx ts k == [110, 111, 116] then (oneP ts f (deep + 1) (k + 1)).bind fun x k' => .ok (.not (tk ts k).pos x) k'
    else if tx ts k == [40] then (twoP ts f 1 (deep + 1) (k + 1)).bind fun x k' => (wantP ts [41] k').bind fun _ k'' => .ok x k''
    else if tx ts k == [116, 114, 117, 101] then .ok (.num (tk ts k).pos 1 1) (k + 1)
    else if tx ts k == [102, 97, 108, 115, 101] then .ok (.num (tk ts k).pos 0 1) (k + 1)
    else if (tk ts k).kind = 2 then (byteP ts k).bind fun n k' => .ok (.num (tk ts k).pos n 2) k'
    else (nameP ts k).bind fun s k' =>
      if tx ts k' == [46] then (nameP ts (k' + 1)).bind fun g k'' => .ok (.field (tk ts k).pos s g) k''
      else .ok (.name (tk ts k).pos s) k'
end

inductive St where
  | set (pos : Nat) (s : ByteArray) (x : Ex)
  | call (pos : Nat) (s : ByteArray) (l : List Ex) (n : Nat)
  | cond (pos : Nat) (x : Ex) (th el : List St)

def argsP (ts : List Tok) : Nat → Nat → List Ex → Res (List Ex × Nat)
  | 0, _, _ => .out
  | f + 1, k, acc =>
    if (tk ts k).kind = 2 ∧ (tx ts (k + 1) == [41]) = true then (byteP ts k).bind fun n k' => .ok (acc, n) k'
    else (twoP ts f 1 0 k).bind fun x k' => if tx ts k' == [44] then argsP ts f (k' + 1) (acc ++ [x]) else .ok (acc ++ [x], 0) k'

def actP (ts : List Tok) (f k : Nat) : Res St :=
  (nameP ts k).bind fun s k1 =>
  if tx ts k1 == [58, 61] then (twoP ts f 1 0 (k1 + 1)).bind fun x k2 => (wantP ts [59] k2).bind fun _ k3 => .ok (.set (tk ts k).pos s x) k3
  else (wantP ts [40] k1).bind fun _ k2 => (argsP ts f k2 []).bind fun l k3 => (wantP ts [41] k3).bind fun _ k4 => (wantP ts [59] k4).bind fun _ k5 => .ok (.call (tk ts k).pos s l.1 l.2) k5

mutual
def stmtsP (ts : List Tok) : Nat → Nat → Nat → List St → Res (List St)
  | 0, _, _, _ => .out
  | f + 1, deep, k, acc =>
    if tx ts k == [105, 102] then (branchP ts f deep k).bind fun s k' => stmtsP ts f deep k' (acc ++ [s])
    else if isNm (tk ts k) then (actP ts f k).bind fun s k' => stmtsP ts f deep k' (acc ++ [s])
    else .ok acc k
def branchP (ts : List Tok) : Nat → Nat → Nat → Res St
  | 0, _, _ => .out
  | f + 1, deep, k =>
    if 8 ≤ deep then .bad 4 (tk ts (k + 1)).pos
    else (twoP ts f 1 0 (k + 1)).bind fun x k1 => (wantP ts [116, 104, 101, 110] k1).bind fun _ k2 => (stmtsP ts f (deep + 1) k2 []).bind fun th k3 =>
      if tx ts k3 == [101, 108, 115, 105, 102] then (branchP ts f (deep + 1) k3).bind fun s k4 => .ok (.cond (tk ts k).pos x th [s]) k4
      else (if tx ts k3 == [101, 108, 115, 101] then stmtsP ts f (deep + 1) (k3 + 1) [] else .ok [] k3).bind fun el k4 =>
        (wantP ts [101, 110, 100] k4).bind fun _ k5 => (wantP ts [59] k5).bind fun _ k6 => .ok (.cond (tk ts k).pos x th el) k6
end

def progP (ts : List Tok) (f : Nat) : Res (List De × List St) :=
  (declsP ts f 0 []).bind fun ds k1 => (wantP ts [98, 101, 103, 105, 110] k1).bind fun _ k2 => (stmtsP ts f 0 k2 []).bind fun b k3 => (wantP ts [101, 110, 100] k3).bind fun _ k4 => .ok (ds, b) k4

/-- all of it is read: the end stands behind -/
def wholeP {α : Type} (ts : List Tok) (r : Res α) : Res α :=
  r.bind fun a k => if (tk ts k).kind = 0 then .ok a k else .bad 3 (tk ts k).pos

def fuel (ts : List Tok) : Nat := 20 * ts.length + 20
def parseP (s : ByteArray) : Res (List De × List St) := (tokens s).bind fun ts _ => wholeP ts (progP ts (fuel ts))
def declsAllP (s : ByteArray) : Res (List De) := (tokens s).bind fun ts _ => wholeP ts (declsP ts (fuel ts) 0 [])

end Go.Proofs.YtiimnnancblbkaaDoor
