/- Plain facts on cookies: what one is, when it is valid, how two stand. No condition. -/
import Derived.Test.YtcaabnnkjnleeaaGreatDoorSetMath
import Derived.Test.YtcaabnnkjnleeaaGreatDoorHostSpec
import Derived.Test.YtcaabnnkjnleeaaGreatDoorPathMatch
namespace Go.Proofs.YtcaabnnkjnleeaaGreatDoor
open Go.WideShapes

structure Ck where
  (i : Int)
  (n v d p : ByteArray)
  (ho sc ht : Bool)
  (s x m u : Int)
/-- What it weighs. -/
def wtC (q : Ck) : Nat := q.n.size + q.v.size + q.d.size + q.p.size
def cpathB (p : ByteArray) : Bool := decide (p.size ≤ 60) && (slashB p && !controlOK p)
def ckOK (q : Ck) : Bool := inRange q.i 1 1000000000000 && (pairOKB q.n q.v && (hostB q.d && (cpathB q.p && (inRange q.s 1 4 && (inRange q.x 1 2000000000000 && (inRange q.m 0 1000000000000 && inRange q.u q.m 1000000000000))))))
def keyB (a b : Ck) : Bool := (a.n.toList == b.n.toList) && ((a.d.toList == b.d.toList) && ((a.p.toList == b.p.toList) && (a.ho == b.ho)))
/-- Longer paths first, then what was made earlier, then by number. -/
def firstB (a b : Ck) : Bool := if a.p.size ≠ b.p.size then decide (b.p.size < a.p.size) else if a.m ≠ b.m then decide (a.m < b.m) else decide (a.i < b.i)
def goesB (a b : Ck) (now : Int) : Bool :=
  if decide (a.x ≤ now) ≠ decide (b.x ≤ now) then decide (a.x ≤ now) else if a.sc ≠ b.sc then b.sc else if a.u ≠ b.u then decide (a.u < b.u) else decide (a.i < b.i)
end Go.Proofs.YtcaabnnkjnleeaaGreatDoor
