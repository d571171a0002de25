/- What a header tells: its pair, then what each of its parts does to it. No program is named here but by the functions of bytes and dates. No condition. -/
import Derived.Test.YtihlflhgbnfkkaaGreatDoorSetMath
import Derived.Test.YtihlflhgbnfkkaaGreatDoorPairs
import Derived.Test.YtihlflhgbnfkkaaGreatDoorReadDate
import Derived.Test.YtihlflhgbnfkkaaGreatDoorSite
import Derived.Test.YtihlflhgbnfkkaaGreatDoorSeconds
namespace Go.Proofs.YtihlflhgbnfkkaaGreatDoor
open Go.WideShapes

/-- A part's name and value. -/
def pN (x : ByteArray) : ByteArray := foldB (trimB (leftB x 61))
def pV (x : ByteArray) : ByteArray := trimB (rightB x 61)
def kExpires : ByteArray := ⟨#[101, 120, 112, 105, 114, 101, 115]⟩
def kMaxAge : ByteArray := ⟨#[109, 97, 120, 45, 97, 103, 101]⟩
def kDomain : ByteArray := ⟨#[100, 111, 109, 97, 105, 110]⟩
def kPath : ByteArray := ⟨#[112, 97, 116, 104]⟩
def kSecure : ByteArray := ⟨#[115, 101, 99, 117, 114, 101]⟩
def kHttpOnly : ByteArray := ⟨#[104, 116, 116, 112, 111, 110, 108, 121]⟩
def kSameSite : ByteArray := ⟨#[115, 97, 109, 101, 115, 105, 116, 101]⟩
/-- Which attribute a name is. -/
def atN (u : ByteArray) : Nat := if u = kExpires then 1 else if u = kMaxAge then 2 else if u = kDomain then 3 else if u = kPath then 4 else if u = kSecure then 5 else if u = kHttpOnly then 6 else if u = kSameSite then 7 else 0
def undotB (v : ByteArray) : ByteArray := if dotB v then v.extract 1 v.size else v
/-- What an attribute does. -/
def doA (q : Ps) (k : Nat) (v : ByteArray) : Ps :=
  if k = 1 then (match dateR (readL v.data.toList) with | some d => { q with he := true, x := secsN d } | none => q)
  else if k = 2 then (if decOK v then { q with ha := true, a := decN v } else q)
  else if k = 3 then { q with d := trimB (foldB (undotB v)) }
  else if k = 4 then { q with hp := slashB v, p := if slashB v then v else ⟨#[]⟩ }
  else if k = 5 then { q with sc := true }
  else if k = 6 then { q with ho := true }
  else if k = 7 then { q with s := siteN (foldB v) }
  else q
def attrP (q : Ps) (x : ByteArray) : Ps := if (pV x).size ≤ 60 then doA q (atN (pN x)) (pV x) else q
def ps0 (n v : ByteArray) : Ps := ⟨n, v, ⟨#[]⟩, ⟨#[]⟩, false, false, false, 0, 0, 4, false, false⟩
def psZ : Ps := ⟨⟨#[]⟩, ⟨#[]⟩, ⟨#[]⟩, ⟨#[]⟩, false, false, false, 0, 0, 0, false, false⟩
def partsL (t : ByteArray) : List (List UInt8) := cutL 59 t.data.toList
def headT (t : ByteArray) : ByteArray := ⟨((partsL t).headD []).toArray⟩
def hN (t : ByteArray) : ByteArray := trimB (nB (headT t))
def hV (t : ByteArray) : ByteArray := trimB (vB (headT t))
/-- What the first k parts tell. -/
def foldP (q : Ps) (l : List (List UInt8)) : Ps := l.foldl (fun q x => attrP q ⟨x.toArray⟩) q
/-- What ParseSet answers. -/
def parC (t : ByteArray) : Int := if 65536 < t.size then 2 else if controlOK t then 1 else if (hN t).size + (hV t).size = 0 then 5 else if 100 < (hN t).size + (hV t).size then 8 else 0
def parP (t : ByteArray) : Ps := if parC t = 0 then foldP (ps0 (hN t) (hV t)) ((partsL t).drop 1) else psZ
end Go.Proofs.YtihlflhgbnfkkaaGreatDoor
