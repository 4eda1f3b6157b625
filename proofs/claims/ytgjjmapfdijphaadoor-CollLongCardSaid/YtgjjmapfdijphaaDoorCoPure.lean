/- The plain model of package coll: descriptions, collations, keys, and how bytes are compared. No program in this text. -/
import Derived.Test.YtgjjmapfdijphaaDoorCharsPlain2
namespace Go.Proofs.YtgjjmapfdijphaaDoor
open Go.Lib

/-- The three weights of a character. -/
abbrev Wt := Nat × Nat × Nat
def wtNext (w : Wt) (lv : Nat) : Wt := if lv = 0 then (w.1 + 1, 1, 1) else if lv = 1 then (w.1, w.2.1 + 1, 1) else (w.1, w.2.1, w.2.2 + 1)
def wtAt (w : Wt) (lv : Nat) : Nat := if lv = 0 then w.1 else if lv = 1 then w.2.1 else w.2.2

/-- The parts of a list of bytes between bytes b; cur is what the first part begins with. -/
def splitB (b : UInt8) : List UInt8 → List UInt8 → List (List UInt8)
  | cur, [] => [cur]
  | cur, x :: t => if x = b then cur :: splitB b [] t else splitB b (cur ++ [x]) t
def linesL (l : List UInt8) : List (List UInt8) := splitB 10 [] l
def wordsL (l : List UInt8) : List (List UInt8) := (splitB 32 [] l).filter fun w => !w.isEmpty

/-- The level of a sign. -/
def signL (w : List UInt8) : Option Nat := if w = [60] then some 0 else if w = [44] then some 1 else if w = [59] then some 2 else none
def hexV (b : UInt8) : Option Nat :=
  if 48 ≤ b.toNat ∧ b.toNat ≤ 57 then some (b.toNat - 48) else if 65 ≤ b.toNat ∧ b.toNat ≤ 70 then some (b.toNat - 55) else if 97 ≤ b.toNat ∧ b.toNat ≤ 102 then some (b.toNat - 87) else none
def hexN : Nat → List UInt8 → Option Nat
  | n, [] => some n
  | n, b :: t => match hexV b with
    | some d => hexN (16 * n + d) t
    | none => none
/-- The character with a code point in hexadecimal digits. -/
def numL (d : List UInt8) : Option Nat :=
  if d = [] ∨ 6 < d.length then none
  else match hexN 0 d with
    | some n => if chr n = true then some n else none
    | none => none
def lenL (w : List UInt8) : Nat := if text w = true then (codes w).length else 0
/-- The character that a word writes. -/
def charL (w : List UInt8) : Option Nat :=
  if w.take 2 = [85, 43] then numL (w.drop 2)
  else if (signL w).isSome = true ∨ lenL w ≠ 1 then none
  else (codes w).head?

/-- What the lines of a description say that have been read; the newest character first. -/
structure Ds where
  tab : List (Nat × Wt)
  last : Wt
  str : Nat
def lookL : List (Nat × Wt) → Nat → Option Wt
  | [], _ => none
  | x :: r, c => if x.1 = c then some x.2 else lookL r c
def keepL : List (Nat × Wt) → List (Nat × Wt) → Option (List (Nat × Wt))
  | [], tab => some tab
  | x :: r, tab => if (lookL tab x.1).isSome = true then none else keepL r (x :: tab)
/-- The characters of a line are added. -/
def keepD (es : List (Nat × Wt)) (d : Ds) : Except Nat Ds :=
  match keepL es d.tab with
  | none => .error 4
  | some tab => if 4096 < tab.length then .error 2 else .ok { d with tab := tab }
def charsL : List (List UInt8) → Option (List Nat)
  | [] => some []
  | w :: r => match charL w with
    | none => none
    | some c => match charsL r with
      | none => none
      | some l => some (c :: l)
/-- Signs and characters in turn. -/
def listGo : Wt → List (Nat × Wt) → List (List UInt8) → Option (Wt × List (Nat × Wt))
  | last, acc, [] => some (last, acc)
  | _, _, [_] => none
  | last, acc, s :: c :: t =>
    match signL s, charL c with
    | some lv, some ch => listGo (wtNext last lv) (acc ++ [(ch, wtNext last lv)]) t
    | _, _ => none
def strengthW : List UInt8 := [115, 116, 114, 101, 110, 103, 116, 104]
def ignoreW : List UInt8 := [105, 103, 110, 111, 114, 101]
def strOf (x : List UInt8) : Nat := if x = [49] then 1 else if x = [50] then 2 else if x = [51] then 3 else 0
def setStr (ws : List (List UInt8)) (d : Ds) : Except Nat Ds :=
  match ws with
  | [x] => if strOf x = 0 then .error 5 else if d.str ≠ 0 then .error 4 else .ok { d with str := strOf x }
  | _ => .error 5
def ignoreD (ws : List (List UInt8)) (d : Ds) : Except Nat Ds :=
  if ws = [] then .error 5
  else match charsL ws with
    | none => .error 5
    | some cs => keepD (cs.map fun c => (c, (0, 0, 0))) d
def listD (ws : List (List UInt8)) (d : Ds) : Except Nat Ds :=
  match listGo d.last [] ([60] :: ws) with
  | none => .error 5
  | some (last, es) => keepD es { d with last := last }
/-- A line is read. -/
def addL (line : List UInt8) (d : Ds) : Except Nat Ds :=
  match wordsL line with
  | [] => .ok d
  | w :: ws =>
    if w.head? = some 35 then .ok d
    else if w = strengthW then setStr ws d
    else if w = ignoreW then ignoreD ws d
    else listD (w :: ws) d
def linesGo : Nat → Ds → List (List UInt8) → Except (Nat × Nat) Ds
  | _, d, [] => .ok d
  | n, d, l :: t => match addL l d with
    | .error e => .error (n + 1, e)
    | .ok d' => linesGo (n + 1) d' t
/-- A collation. -/
structure Tb where
  tab : List (Nat × Wt)
  last : Nat
  str : Nat
def tbOf (d : Ds) : Tb := ⟨d.tab, d.last.1, if d.str = 0 then 3 else d.str⟩
def parseL (l : List UInt8) : Except (Nat × Nat) Tb :=
  if 1048576 < l.length then .error (0, 2)
  else if text l = false then .error (0, 10)
  else match linesGo 0 ⟨[], (0, 0, 0), 0⟩ (linesL l) with
    | .error x => .error x
    | .ok d => .ok (tbOf d)

def wtOf (T : Tb) (c : Nat) : Wt := match lookL T.tab c with
  | some w => w
  | none => (c + T.last + 1, 1, 1)
def three (n : Nat) : List UInt8 := [(n / 65536).toUInt8, (n / 256).toUInt8, n.toUInt8]
def levelL (T : Tb) (lv : Nat) (cs : List Nat) : List UInt8 := cs.flatMap fun c => if wtOf T c = (0, 0, 0) then [] else three (wtAt (wtOf T c) lv)
/-- The levels behind the first one, up to the strength. -/
def restL (T : Tb) (cs : List Nat) (lv : Nat) : List UInt8 := three 0 ++ levelL T lv cs
def keyC (T : Tb) (cs : List Nat) : List UInt8 := levelL T 0 cs ++ ((if 2 ≤ T.str then restL T cs 1 else []) ++ (if 3 ≤ T.str then restL T cs 2 else []))
def keyL (T : Tb) (s : List UInt8) : List UInt8 := if text s = true then keyC T (codes s) else []
/-- How bytes are compared. -/
def cmpL : List UInt8 → List UInt8 → Int
  | [], [] => 0
  | [], _ :: _ => -1
  | _ :: _, [] => 1
  | a :: s, b :: t => if a < b then -1 else if b < a then 1 else cmpL s t

/-- The description of the examples. -/
def chapterL : List UInt8 := [105, 103, 110, 111, 114, 101, 32, 45, 10, 97, 32, 44, 32, 65, 32, 60, 32, 98, 32, 60, 32, 99, 32, 59, 32, 85, 43, 69, 55, 32, 44, 32, 67]
def chapterT : Tb := ⟨[(67, (3, 2, 1)), (231, (3, 1, 2)), (99, (3, 1, 1)), (98, (2, 1, 1)), (65, (1, 2, 1)), (97, (1, 1, 1)), (45, (0, 0, 0))], 3, 3⟩
theorem chapter_parse : parseL chapterL = .ok chapterT := by rfl
end Go.Proofs.YtgjjmapfdijphaaDoor
