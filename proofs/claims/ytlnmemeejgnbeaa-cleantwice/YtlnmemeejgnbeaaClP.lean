/-
  FEWER GATES, plain: what is known of each node, what a maker makes, what is needed, what is laid.
-/
import Derived.Test.YtlnmemeejgnbeaaGPlain
set_option linter.unusedSimpArgs false
set_option linter.unusedVariables false
namespace Go.Proofs.Ytlnmemeejgnbeaa

def kAt (l : List Int) (i : Int) : Int := outAt l i.toNat
def turnK (k : Int) : Int := if k = 2 then 2 else 1 - k
def leastK (a b : Int) : Int := if a = 0 then 0 else if b = 0 then 0 else max a b
def xorK (a b : Int) : Int := if a = 2 then 2 else if b = 2 then 2 else if a = b then 0 else 1
/-- what is known of a node by what is known of those that it reads -/
def nowK (x : Nd) (is : List Int) : Int :=
  if x.op = 1 then 0 else if x.op = 2 then 1 else
  if x.op = 4 then (if kAt is x.next = x.a then x.a else 2) else
  if x.op = 8 then turnK (kAt is x.a) else
  if x.op = 5 then leastK (kAt is x.a) (kAt is x.b) else
  if x.op = 6 then turnK (leastK (turnK (kAt is x.a)) (turnK (kAt is x.b))) else
  if x.op = 7 then xorK (kAt is x.a) (kAt is x.b) else 2
def firstK (x : Nd) (is : List Int) : Int := if x.op = 4 then x.a else nowK x is
def initTo (ns : List Nd) : Nat → List Int
  | 0 => []
  | k + 1 => initTo ns k ++ [firstK (ndAt ns k) (initTo ns k)]
def rdAt (rd : List (List Int)) (j : Nat) : List Int := rd[j]?.getD []
def rdAdd (rd : List (List Int)) (j : Int) (i : Nat) : List (List Int) := rd.set j.toNat (rdAt rd j.toNat ++ [(i : Int)])
def rdStep (rd : List (List Int)) (x : Nd) (i : Nat) : List (List Int) :=
  if x.op = 4 then rdAdd rd x.next i else if x.op = 8 then rdAdd rd x.a i else
  if x.op = 5 then rdAdd (rdAdd rd x.a i) x.b i else if x.op = 6 then rdAdd (rdAdd rd x.a i) x.b i else if x.op = 7 then rdAdd (rdAdd rd x.a i) x.b i else rd
def rdTo (ns : List Nd) : Nat → List (List Int)
  | 0 => List.replicate ns.length []
  | k + 1 => rdStep (rdTo ns k) (ndAt ns k) k
def rdP (ns : List Nd) : List (List Int) := rdTo ns ns.length
/-- doubt, with fuel -/
def doubtF (ns : List Nd) (rd : List (List Int)) : Nat → Int → List Int → List Int
  | 0, _, is => is
  | f + 1, i, is => if kAt is i = 2 then is else if nowK (ndAt ns i.toNat) is = 2 then (rdAt rd i.toNat).foldl (fun s r => doubtF ns rd f r s) (is.set i.toNat 2) else is
def doubtTo (ns : List Nd) (rd : List (List Int)) (is : List Int) : Nat → List Int
  | 0 => is
  | k + 1 => doubtF ns rd ns.length k (doubtTo ns rd is k)
def knownP (ns : List Nd) : List Int := doubtTo ns (rdP ns) (initTo ns ns.length) ns.length

def eqN (x y : Nd) : Bool := decide (x.op = y.op) && (decide (x.a = y.a) && (decide (x.b = y.b) && decide (x.next = y.next)))
theorem eqN_iff {x y : Nd} : eqN x y = true ↔ x = y := by
  obtain ⟨a, b, c, d⟩ := x
  obtain ⟨a', b', c', d'⟩ := y
  simp [eqN]
/-- where a node is, from number k on -/
def findN : List Nd → Nd → Nat → Option Nat
  | [], _, _ => none
  | y :: l, x, k => if eqN y x then some k else findN l x (k + 1)
def nodeM (ms : List Nd) (x : Nd) : Int × List Nd := match findN ms x 0 with
  | some k => (k, ms)
  | none => (ms.length, ms ++ [x])
def mAt (ms : List Nd) (i : Int) : Nd := ndAt ms i.toNat
def idle (op : Int) : Int := if op = 5 then 1 else 0
def oppM (ms : List Nd) (a b : Int) : Bool := ((mAt ms a).op == 8 && (mAt ms a).a == b) || ((mAt ms b).op == 8 && (mAt ms b).a == a)
def otherM (ms : List Nd) (a : Int) : Int × Bool := if a ≤ 1 then (turnK a, true) else ((mAt ms a).a, (mAt ms a).op == 8)
def freeX (ms : List Nd) (a b : Int) : Int × Bool := if a = b then (0, true) else if a = 1 then otherM ms b else if b = 1 then otherM ms a else (0, false)
def freeM (ms : List Nd) (op a b : Int) : Int × Bool :=
  if a = idle op then (b, true) else if b = idle op then (a, true) else
  if oppM ms a b then (turnK (idle op), true) else
  if op = 7 then freeX ms a b else
  if a = turnK (idle op) then (turnK (idle op), true) else if b = turnK (idle op) then (turnK (idle op), true) else (a, a == b)
def seenM (r : Int × Bool) (node : Int) : Int := if r.2 then r.1 else node
def isTwo (op : Int) : Bool := op == 5 || (op == 6 || op == 7)
def whereM (ms : List Nd) : Nat → Int → Int → Int → Int
  | 0, node, that, is => if node = that then is else if oppM ms node that then turnK is else node
  | f + 1, node, that, is => if node = that then is else if oppM ms node that then turnK is else
      if (mAt ms node).op = 8 then seenM (otherM ms (whereM ms f (mAt ms node).a that is)) node else
      if isTwo (mAt ms node).op then seenM (freeM ms (mAt ms node).op (whereM ms f (mAt ms node).a that is) (whereM ms f (mAt ms node).b that is)) node else node
/-- a number that is there, or a node that is asked for -/
inductive Rq where
  | num (k : Int)
  | req (x : Nd)
def twoR (op a b : Int) : Rq := .req ⟨op, min a b, max a b, 0⟩
def notR (ms : List Nd) (a : Int) : Rq := if (otherM ms a).2 then .num (otherM ms a).1 else .req ⟨8, a, 0, 0⟩
def joinR (ms : List Nd) : Nat → Int → Int → Int → Rq
  | 0, op, a, b => .num 0
  | f + 1, op, a, b => if (freeM ms op a b).2 then .num (freeM ms op a b).1 else
      if whereM ms 3 b a (idle op) = b then (if whereM ms 3 a b (idle op) = a then twoR op a b else joinR ms f op (whereM ms 3 a b (idle op)) b) else joinR ms f op a (whereM ms 3 b a (idle op))
def xorR (ms : List Nd) : Nat → Int → Int → Rq
  | 0, a, b => .num 0
  | f + 1, a, b => if (freeM ms 7 a b).2 then .num (freeM ms 7 a b).1 else
      if a = 1 then notR ms b else if b = 1 then notR ms a else
      if (mAt ms a).op = 8 ∧ (mAt ms b).op = 8 then xorR ms f (mAt ms a).a (mAt ms b).a else twoR 7 a b
def joinFuel (a b : Int) : Nat := a.toNat + b.toNat + 1
def anewR (ms : List Nd) (st : List Int) (x : Nd) : Rq :=
  if x.op = 3 then .req ⟨3, x.a, 0, 0⟩ else if x.op = 4 then .req ⟨4, x.a, 0, x.next⟩ else
  if x.op = 5 then joinR ms (joinFuel (kAt st x.a) (kAt st x.b)) 5 (kAt st x.a) (kAt st x.b) else
  if x.op = 6 then joinR ms (joinFuel (kAt st x.a) (kAt st x.b)) 6 (kAt st x.a) (kAt st x.b) else
  if x.op = 7 then xorR ms (joinFuel (kAt st x.a) (kAt st x.b)) (kAt st x.a) (kAt st x.b) else notR ms (kAt st x.a)
def doneR (ms : List Nd) (r : Rq) : Int × List Nd := match r with
  | .num k => (k, ms)
  | .req x => nodeM ms x
structure Mk where
  st : List Int
  ms : List Nd
def ms0 : List Nd := [⟨1, 0, 0, 0⟩, ⟨2, 0, 0, 0⟩]
def mkStep (m : Mk) (k : Int) (x : Nd) : Mk :=
  if k = 2 then ⟨m.st ++ [(doneR m.ms (anewR m.ms m.st x)).1], (doneR m.ms (anewR m.ms m.st x)).2⟩ else ⟨m.st ++ [k], m.ms⟩
def mkTo (is : List Int) (ns : List Nd) : Nat → Mk
  | 0 => ⟨[], ms0⟩
  | k + 1 => mkStep (mkTo is ns k) (outAt is k) (ndAt ns k)
def mkAll (ns : List Nd) : Mk := mkTo (knownP ns) ns ns.length

/-- what is needed, with fuel -/
def noteF (m : Mk) : Nat → Int → List Bool → List Bool
  | 0, _, nd => nd
  | f + 1, v, nd => if bit nd v.toNat then nd else
      if (mAt m.ms v).op = 4 then noteF m f (kAt m.st (mAt m.ms v).next) (nd.set v.toNat true) else
      if (mAt m.ms v).op = 8 then noteF m f (mAt m.ms v).a (nd.set v.toNat true) else
      if isTwo (mAt m.ms v).op then noteF m f (mAt m.ms v).b (noteF m f (mAt m.ms v).a (nd.set v.toNat true)) else nd.set v.toNat true
def noteTo (m : Mk) (os : List Int) : Nat → List Bool
  | 0 => List.replicate m.ms.length false
  | k + 1 => noteF m m.ms.length (kAt m.st (outAt os k)) (noteTo m os k)
def needP (m : Mk) (os : List Int) : List Bool := noteTo m os os.length
def cntTo (nd : List Bool) : Nat → Nat
  | 0 => 0
  | k + 1 => cntTo nd k + (if bit nd k then 1 else 0)
def numP (nd : List Bool) (i : Int) : Int := cntTo nd i.toNat
def reN (nd : List Bool) (st : List Int) (x : Nd) : Nd :=
  if x.op = 4 then ⟨4, x.a, x.b, numP nd (kAt st x.next)⟩ else if x.op = 8 then ⟨8, numP nd x.a, x.b, x.next⟩ else
  if x.op = 5 then ⟨5, numP nd x.a, numP nd x.b, x.next⟩ else if x.op = 6 then ⟨6, numP nd x.a, numP nd x.b, x.next⟩ else if x.op = 7 then ⟨7, numP nd x.a, numP nd x.b, x.next⟩ else x
def newTo (m : Mk) (nd : List Bool) : Nat → List Nd
  | 0 => []
  | k + 1 => newTo m nd k ++ (if bit nd k then [reN nd m.st (ndAt m.ms k)] else [])
def newNs (m : Mk) (os : List Int) : List Nd := newTo m (needP m os) m.ms.length
def newOs (m : Mk) (os : List Int) : List Int := os.map fun o => numP (needP m os) (kAt m.st o)
def cleanNs (ns : List Nd) (os : List Int) : List Nd := newNs (mkAll ns) os
def cleanOs (ns : List Nd) (os : List Int) : List Int := newOs (mkAll ns) os
end Go.Proofs.Ytlnmemeejgnbeaa
