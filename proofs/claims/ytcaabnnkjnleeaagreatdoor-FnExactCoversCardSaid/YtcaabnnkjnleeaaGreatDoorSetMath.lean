/- Plain facts on parsed headers: what one is, when it is valid. No program is named here but by the functions of bytes. No condition. -/
import Derived.Test.YtcaabnnkjnleeaaGreatDoorDecimal
import Derived.Test.YtcaabnnkjnleeaaGreatDoorFold
import Derived.Test.YtcaabnnkjnleeaaGreatDoorTrim
namespace Go.Proofs.YtcaabnnkjnleeaaGreatDoor
open Go.WideShapes

structure Ps where
  (n v d p : ByteArray)
  (he ha hp : Bool)
  (x a s : Int)
  (sc ho : Bool)
def noneB (c : UInt8) (b : UInt8) : Bool := !(b == c)
/-- A text that a header gives back as it is. -/
def plainS (s : ByteArray) : Bool := !controlOK s && allB s (noneB 59) && ((trimB s).toList == s.toList)
def pairOKB (n v : ByteArray) : Bool := decide (0 < n.size + v.size) && (decide (n.size + v.size ≤ 100) && (plainS n && (plainS v && allB n (noneB 61))))
def dotB (d : ByteArray) : Bool := d.data.toList.head? == some 46
def slashB (d : ByteArray) : Bool := d.data.toList.head? == some 47
def domOKB (d : ByteArray) : Bool := decide ((d.size : Int) ≤ (if dotB d then 59 else 60)) && (plainS d && ((foldB d).toList == d.toList))
def pathOKB (p : ByteArray) (hp : Bool) : Bool := if hp then decide (p.size ≤ 60) && (slashB p && plainS p) else decide (p.size = 0)
def ageOKB (a : Int) (ha : Bool) : Bool := decide (-1000000000000 ≤ a) && (decide (a ≤ 1000000000000) && (ha || decide (a = 0)))
def expOKB (x : Int) (he : Bool) : Bool := decide (-11644473600 ≤ x ∧ x ≤ 253402300799) && (he || decide (x = 0))
def siteOKB (s : Int) : Bool := decide (1 ≤ s) && decide (s ≤ 4)
def psOK (q : Ps) : Bool := pairOKB q.n q.v && (domOKB q.d && (pathOKB q.p q.hp && (ageOKB q.a q.ha && (expOKB q.x q.he && siteOKB q.s))))
end Go.Proofs.YtcaabnnkjnleeaaGreatDoor
