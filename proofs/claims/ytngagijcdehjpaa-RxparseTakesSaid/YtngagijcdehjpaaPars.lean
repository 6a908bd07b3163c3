/-
  TEXTS OF EXPRESSIONS, READ: what a parser that goes along a text from the left answers, as plain functions: a tree and the place behind it, or a place and an error. Of no program. No condition.
-/
import Derived.Test.YtngagijcdehjpaaMake
import Derived.Test.YtngagijcdehjpaaMayt
import Derived.Test.YtngagijcdehjpaaDig
namespace Go.Proofs.Ytngagijcdehjpaa
open Go.RowKit

/-- byte i of s -/
def bt (s : ByteArray) (i : Nat) : Nat := if h : i < s.size then (s[i]'h).toNat else 0
theorem bt_lt (s : ByteArray) (i : Nat) : bt s i < 256 := by
  unfold bt; split
  · exact UInt8.toNat_lt _
  · decide
/-- what a byte may say -/
def sgn (b : Nat) : Nat :=
  if b < 32 ∨ 126 < b then 0 else
  if b = 124 then 2 else if b = 42 then 3 else if b = 43 then 4 else if b = 63 then 5 else if b = 123 then 6 else if b = 125 then 7 else if b = 40 then 8 else if b = 41 then 9 else
  if b = 91 then 10 else if b = 93 then 11 else if b = 46 then 12 else if b = 60 then 13 else if b = 62 then 14 else if b = 47 then 15 else if b = 92 then 16 else if b = 94 then 17 else if b = 45 then 18 else 1
def sgnAt (s : ByteArray) (i : Nat) : Nat := if i < s.size then sgn (bt s i) else 0
def isAt (s : ByteArray) (i b : Nat) : Bool := decide (i < s.size) && decide (bt s i = b)

abbrev Res (α : Type) := Except (Nat × Nat) (α × Nat)
def bad {α : Type} (i e : Nat) : Res α := .error (i, e)
def Res.then {α β : Type} (r : Res α) (f : α → Nat → Res β) : Res β := match r with | .error e => .error e | .ok (a, i) => f a i

/-- a digit -/
def digP (s : ByteArray) (b i : Nat) : Res Nat := if i < s.size ∧ 0 ≤ dig (bt s i) b then .ok ((dig (bt s i) b).toNat, i + 1) else bad i 2
/-- one or two digits, behind a 0 none -/
def numP (s : ByteArray) (i : Nat) : Res Nat :=
  (digP s 10 i).then fun n j => if 0 < n ∧ (j < s.size ∧ 0 ≤ dig (bt s j) 10) then (digP s 10 j).then fun m k => .ok (10 * n + m, k) else .ok (n, j)
/-- from { to } -/
def shutP (s : ByteArray) (first : Nat) (lo : Nat) (hi : Int) (i : Nat) : Res (Int × Int) :=
  if isAt s i 125 = true then (if 64 < lo ∨ 64 < hi ∨ (hi ≠ -1 ∧ hi < (lo : Int)) then bad first 2 else .ok (((lo : Int), hi), i + 1)) else bad i 2
def boundsP (s : ByteArray) (i : Nat) : Res (Int × Int) :=
  (numP s (i + 1)).then fun lo j =>
    if isAt s j 44 = true then (if sgnAt s (j + 1) = 7 then shutP s i lo (-1) (j + 1) else (numP s (j + 1)).then fun hi k => shutP s i lo (hi : Int) k)
    else shutP s i lo (lo : Int) j
/-- behind a \ -/
def letterP (s : ByteArray) (i : Nat) : Res Nat :=
  if isAt s i 110 = true then .ok (10, i + 1) else if isAt s i 114 = true then .ok (13, i + 1) else if isAt s i 116 = true then .ok (9, i + 1) else
  if isAt s i 120 = true then (digP s 16 (i + 1)).then fun h j => (digP s 16 j).then fun l k => .ok (16 * h + l, k) else bad i 2
def escP (s : ByteArray) (i : Nat) : Res Nat :=
  if sgnAt s (i + 1) = 0 then bad (i + 1) 2 else if sgnAt s (i + 1) = 1 then letterP s (i + 1) else .ok (bt s (i + 1), i + 2)
/-- a byte of a class -/
def memP (s : ByteArray) (i : Nat) : Res Nat :=
  if sgnAt s i = 0 ∨ sgnAt s i = 10 ∨ sgnAt s i = 11 ∨ sgnAt s i = 17 ∨ sgnAt s i = 18 ∨ sgnAt s i = 15 then bad i 2 else if sgnAt s i = 16 then escP s i else .ok (bt s i, i + 1)
/-- one, or two with a - between -/
def spanP (s : ByteArray) (i : Nat) : Res (Nat → Bool) :=
  (memP s i).then fun lo j => if isAt s j 45 = true then (memP s (j + 1)).then fun hi k => (if hi < lo then bad (j + 1) 2 else .ok (sRange lo hi, k)) else .ok (sOf [lo], j)
def classF (s : ByteArray) : Nat → (Nat → Bool) → Nat → Res (Nat → Bool)
  | 0, _, i => bad i 2
  | k + 1, m, i => if isAt s i 93 = true then .ok (m, i + 1) else (spanP s i).then fun n j => classF s k (sOr m n) j
/-- a class, from its [ on -/
def classP (s : ByteArray) (i : Nat) : Res (Nat → Bool) :=
  if isAt s (i + 1) 94 = true then (classF s (s.size + 1 - (i + 2)) (fun _ => false) (i + 2)).then fun m j => .ok (sNot m, j)
  else classF s (s.size + 1 - (i + 1)) (fun _ => false) (i + 1)

def letB (b : Nat) : Bool := decide (97 ≤ b) && decide (b ≤ 122)
def numB (b : Nat) : Bool := decide (48 ≤ b) && decide (b ≤ 57)
/-- is it a name? -/
def nameB (l : List UInt8) : Bool := decide (l ≠ []) && (decide (l.length ≤ 24) && (letB ((l.headD 0).toNat) && l.all fun c => letB c.toNat || numB c.toNat))
def cutL (s : ByteArray) (a b : Nat) : List UInt8 := (s.data.toList.drop a).take (b - a)
/-- how far a name goes -/
def nameF (s : ByteArray) (first : Nat) : Nat → Nat → Nat
  | 0, i => i
  | k + 1, i => if i < s.size ∧ nameB (cutL s first (i + 1)) = true then nameF s first k (i + 1) else i
abbrev Frs := List (List UInt8 × Tree)
/-- a name: its end, twice -/
def nameP (s : ByteArray) (i : Nat) : Res Nat := if nameF s i (s.size - i) i = i then bad i 2 else .ok (nameF s i (s.size - i) i, nameF s i (s.size - i) i)
/-- the fragment of that name -/
def findF (fr : Frs) (l : List UInt8) (i j : Nat) : Res Tree :=
  match fr.find? fun f => decide (f.1 = l) with
  | some f => .ok (f.2, j)
  | none => bad i 5
def fragP (s : ByteArray) (fr : Frs) (i : Nat) : Res Tree :=
  (nameP s (i + 1)).then fun j _ => if isAt s j 62 = true then findF fr (cutL s (i + 1) j) i (j + 1) else bad j 2

def byteT (m : Nat → Bool) : Tree := .node 1 m [] 0 0
def emptyT : Tree := .node 0 (fun _ => false) [] 0 0
def repT (t : Tree) (lo hi : Int) : Tree := .node 4 (fun _ => false) [t] lo hi

section
variable (grp : Nat → Res Tree) (s : ByteArray) (fr : Frs)
def atomP (i : Nat) : Res Tree :=
  if sgnAt s i = 1 ∨ sgnAt s i = 17 ∨ sgnAt s i = 18 then .ok (byteT (sOf [bt s i]), i + 1) else
  if sgnAt s i = 16 then (escP s i).then fun b j => .ok (byteT (sOf [b]), j) else
  if sgnAt s i = 12 then .ok (byteT (sNot fun _ => false), i + 1) else
  if sgnAt s i = 10 then (classP s i).then fun m j => .ok (byteT m, j) else
  if sgnAt s i = 8 then grp i else
  if sgnAt s i = 13 then fragP s fr i else bad i 2
def itemP (i : Nat) : Res Tree :=
  (atomP grp s fr i).then fun t j =>
    if sgnAt s j = 3 then .ok (repT t 0 (-1), j + 1) else if sgnAt s j = 4 then .ok (repT t 1 (-1), j + 1) else if sgnAt s j = 5 then .ok (repT t 0 1, j + 1) else
    if sgnAt s j = 6 then (boundsP s j).then fun b k => .ok (repT t b.1 b.2, k) else .ok (t, j)
def endsP (i : Nat) : Bool := decide (sgnAt s i = 2) || (decide (sgnAt s i = 9) || decide (i = s.size))
def rowF : Nat → List Tree → Nat → Res (List Tree)
  | 0, _, i => bad i 2
  | k + 1, l, i => if endsP s i = true then .ok (l, i) else (itemP grp s fr i).then fun t j => rowF k (l ++ [t]) j
def rowP (i : Nat) : Res Tree := (rowF grp s fr (s.size + 1 - i) [] i).then fun l j => .ok (rowT 2 emptyT l, j)
def altF : Nat → List Tree → Nat → Res (List Tree)
  | 0, _, i => bad i 2
  | k + 1, l, i => if isAt s i 124 = true then (rowP grp s fr (i + 1)).then fun t j => altF k (l ++ [t]) j else .ok (l, i)
def altP (i : Nat) : Res Tree := (rowP grp s fr i).then fun t j => (altF grp s fr (s.size + 1 - j) [t] j).then fun l k => .ok (rowT 3 emptyT l, k)
end
/-- alternatives, within 30 - d groups -/
def altsP (s : ByteArray) (fr : Frs) : Nat → Nat → Res Tree
  | 0, i => altP (fun j => bad j 3) s fr i
  | d + 1, i => altP (fun j => (altsP s fr d (j + 1)).then fun t k => if isAt s k 41 = true then .ok (t, k + 1) else bad k 2) s fr i
/-- what stands between ( and ) -/
def grpP (s : ByteArray) (fr : Frs) : Nat → Nat → Res Tree
  | 0, j => bad j 3
  | d + 1, j => (altsP s fr d (j + 1)).then fun t k => if isAt s k 41 = true then .ok (t, k + 1) else bad k 2
theorem altsP_is (s : ByteArray) (fr : Frs) (d i : Nat) : altsP s fr d i = altP (grpP s fr d) s fr i := by
  cases d <;> (simp only [altsP]; rfl)
def wholeP (s : ByteArray) (fr : Frs) : Res Tree := (altsP s fr 30 0).then fun t j => if j < s.size then bad j 2 else .ok (t, j)
/-- the tree, or the place and the error -/
def parseP (s : ByteArray) (fr : Frs) : Except (Nat × Nat) Tree :=
  if 400 < s.size then .error (0, 4) else
  match wholeP s fr with
  | .error e => .error e
  | .ok (t, _) => if 300 < t.nodes then .error (0, 4) else if 30 < t.deepN then .error (0, 3) else if t.mayN = true then .ok t else .error (0, 2)
end Go.Proofs.Ytngagijcdehjpaa

