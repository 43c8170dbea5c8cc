/- Items as plain data: their bytes, which may be, what bytes are read as. Nothing of the program; no condition. -/
import Derived.Test.YtghdcgokndmkjaaDoorRows
import Derived.Lib.Hide
namespace Go.Proofs.YtghdcgokndmkjaaDoor

/-- an item: its kind, its number, its text, its elements -/
inductive It where
  | mk (kind num : Int) (text : List UInt8) (list : List It)
def It.kind : It → Int | .mk k _ _ _ => k
def It.num : It → Int | .mk _ n _ _ => n
def It.text : It → List UInt8 | .mk _ _ t _ => t
def It.list : It → List It | .mk _ _ _ l => l
def It.none : It := .mk 0 0 [] []

/-- the lowest byte of n -/
def b8 (n : Nat) : UInt8 := UInt8.ofNat n
theorem b8_toNat (n : Nat) : ((b8 n).toNat : Int) = (n : Int) % 256 := by
  show ((UInt8.ofNat n).toNat : Int) = _
  rw [UInt8.toNat_ofNat']; omega
/-- n as m bytes, the highest first -/
def be (m n : Nat) : List UInt8 := (List.range m).map fun i => b8 (n / 256 ^ (m - 1 - i))
/-- the head of a kind's number and n -/
def headL (k n : Nat) : List UInt8 :=
  if n < 24 then [b8 (32 * k + n)]
  else if n < 256 then b8 (32 * k + 24) :: be 1 n
  else if n < 65536 then b8 (32 * k + 25) :: be 2 n
  else if n < 4294967296 then b8 (32 * k + 26) :: be 4 n
  else b8 (32 * k + 27) :: be 8 n
def headOf (t : It) : List UInt8 :=
  if t.kind = 0 then (if t.num < 0 then headL 1 (-1 - t.num).toNat else headL 0 t.num.toNat)
  else if t.kind = 1 then headL 2 t.text.length
  else if t.kind = 2 then headL 3 t.text.length
  else if t.kind = 3 then headL 4 t.list.length
  else headL 5 (t.list.length / 2)
/-- the bytes of an item, whose lists lie at most d deep -/
def enc : Nat → It → List UInt8
  | 0, t => headOf t ++ t.text
  | d + 1, t => headOf t ++ t.text ++ t.list.flatMap (enc d)

def isKey (t : It) : Bool := decide (t.kind = 0) || decide (t.kind = 2)
/-- does a key's bytes stand ahead of those of the next one? -/
def risesB (a b : It) : Bool :=
  if headOf a = headOf b then decide (a.kind = 2) && decide (a.text < b.text) else decide (headOf a < headOf b)
def pairsB : Option It → List It → Bool
  | _, [] => true
  | _, [_] => false
  | last, k :: _ :: l => isKey k && (match last with | Option.none => true | some p => risesB p k) && pairsB (some k) l
/-- may an item's own kind and fields be? V: which texts are UTF-8 -/
def formed (V : List UInt8 → Bool) (t : It) : Bool :=
  if t.kind = 0 then decide (t.text = []) && decide (t.list.length = 0)
  else if t.kind = 1 then decide (t.num = 0) && decide (t.list.length = 0)
  else if t.kind = 2 then decide (t.num = 0) && decide (t.list.length = 0) && V t.text
  else if t.kind = 3 then decide (t.num = 0) && decide (t.text = [])
  else if t.kind = 4 then decide (t.num = 0) && decide (t.text = []) && pairsB Option.none t.list
  else false
def firstErr (f : It → Int) : List It → Int
  | [] => 0
  | x :: l => if f x = 0 then firstErr f l else f x
/-- what is wrong first with an item that may have d lists within one another -/
def chk (V : List UInt8 → Bool) : Nat → It → Int
  | 0, t => if t.kind = 3 ∨ t.kind = 4 then 31 else if formed V t then 0 else 33
  | d + 1, t => if formed V t then firstErr (chk V d) t.list else 33

def beVal (l : List UInt8) : Nat := l.foldl (fun a c => a * 256 + c.toNat) 0
/-- the head with which bytes begin: its kind's number, its n, its length -/
def hd : List UInt8 → Option (Nat × Nat × Nat)
  | [] => Option.none
  | c :: r =>
    if c.toNat % 32 < 24 then some (c.toNat / 32, c.toNat % 32, 1)
    else if c.toNat % 32 ≤ 27 then
      if 2 ^ (c.toNat % 32 - 24) ≤ r.length ∧ beVal (r.take (2 ^ (c.toNat % 32 - 24))) < 9223372036854775808 ∧ headL (c.toNat / 32) (beVal (r.take (2 ^ (c.toNat % 32 - 24)))) = c :: r.take (2 ^ (c.toNat % 32 - 24))
      then some (c.toNat / 32, beVal (r.take (2 ^ (c.toNat % 32 - 24))), 1 + 2 ^ (c.toNat % 32 - 24))
      else Option.none
    else Option.none

/-- what is read and what is left, or whether it was too deep -/
abbrev Res (α : Type) := Except Bool (α × List UInt8)
def decN (f : List UInt8 → Res It) : Nat → List UInt8 → Res (List It)
  | 0, s => .ok ([], s)
  | n + 1, s => match f s with
    | .error e => .error e
    | .ok (t, r) => match decN f n r with
      | .error e => .error e
      | .ok (l, r') => .ok (t :: l, r')
def decP (f : List UInt8 → Res It) : Nat → List UInt8 → List UInt8 → Res (List It)
  | 0, _, s => .ok ([], s)
  | n + 1, last, s => match f s with
    | .error e => .error e
    | .ok (key, r) =>
      if isKey key && decide (last < s.take (s.length - r.length)) then match f r with
        | .error e => .error e
        | .ok (x, r') => match decP f n (s.take (s.length - r.length)) r' with
          | .error e => .error e
          | .ok (l, r'') => .ok (key :: x :: l, r'')
      else .error false
/-- an item behind its head of k and n, the bytes r next; sub: what reads elements, where there may be any -/
def body (V : List UInt8 → Bool) (sub : Option (List UInt8 → Res It)) (k n : Nat) (r : List UInt8) : Res It :=
  if k = 0 then .ok (.mk 0 n [] [], r)
  else if k = 1 then .ok (.mk 0 (-1 - n) [] [], r)
  else if k = 2 then if n ≤ r.length then .ok (.mk 1 0 (r.take n) [], r.drop n) else .error false
  else if k = 3 then if n ≤ r.length then if V (r.take n) then .ok (.mk 2 0 (r.take n) [], r.drop n) else .error false else .error false
  else if k = 4 then match sub with
    | Option.none => .error true
    | some f => match decN f n r with
      | .error e => .error e
      | .ok (l, r') => .ok (.mk 3 0 [] l, r')
  else if k = 5 then match sub with
    | Option.none => .error true
    | some f => match decP f n [] r with
      | .error e => .error e
      | .ok (l, r') => .ok (.mk 4 0 [] l, r')
  else .error false
def item (V : List UInt8 → Bool) (sub : Option (List UInt8 → Res It)) (s : List UInt8) : Res It :=
  match hd s with
  | Option.none => .error false
  | some (k, n, m) => body V sub k n (s.drop m)
/-- the item with which bytes begin, at most d lists within one another -/
def dec (V : List UInt8 → Bool) : Nat → List UInt8 → Res It
  | 0, s => item V Option.none s
  | d + 1, s => item V (some (dec V d)) s
end Go.Proofs.YtghdcgokndmkjaaDoor
