/- What a parsed header's text is. No program is named here but by the functions of bytes and dates. No condition. -/
import Derived.Test.YtihlflhgbnfkkaaDoorSetMath
import Derived.Test.YtihlflhgbnfkkaaDoorDateText
import Derived.Test.YtihlflhgbnfkkaaDoorDateOf
namespace Go.Proofs.YtihlflhgbnfkkaaDoor
open Go.WideShapes

def tExp : ByteArray := ⟨#[59, 32, 69, 120, 112, 105, 114, 101, 115, 61]⟩
def tAge : ByteArray := ⟨#[59, 32, 77, 97, 120, 45, 65, 103, 101, 61]⟩
def tDom : ByteArray := ⟨#[59, 32, 68, 111, 109, 97, 105, 110, 61]⟩
def tDot : ByteArray := ⟨#[59, 32, 68, 111, 109, 97, 105, 110, 61, 46]⟩
def tPath : ByteArray := ⟨#[59, 32, 80, 97, 116, 104, 61]⟩
def tSecu : ByteArray := ⟨#[59, 32, 83, 101, 99, 117, 114, 101]⟩
def tHttp : ByteArray := ⟨#[59, 32, 72, 116, 116, 112, 79, 110, 108, 121]⟩
def tSame : ByteArray := ⟨#[59, 32, 83, 97, 109, 101, 83, 105, 116, 101, 61]⟩
/-- The date of a number of seconds. -/
noncomputable def dateN (x : Int) : Dt := @Classical.epsilon Dt ⟨⟨0, 0, 0, 0, 0, 0⟩⟩ fun a => IsDate (x + 11644473600) a
theorem dateN_is {x : Int} {a : Dt} (h : IsDate (x + 11644473600) a) : dateN x = a := (Classical.epsilon_spec_aux ⟨⟨0, 0, 0, 0, 0, 0⟩⟩ _ ⟨a, h⟩).uniq h
def siteW (s : Int) : ByteArray := if s = 1 then ⟨#[78, 111, 110, 101]⟩ else if s = 2 then ⟨#[76, 97, 120]⟩ else ⟨#[83, 116, 114, 105, 99, 116]⟩
def domT (d : ByteArray) : ByteArray := if dotB d then ⟨#[46]⟩ ++ d else d
def cat0 (n v : ByteArray) : ByteArray := n ++ ⟨#[61]⟩ ++ v
def addE (t : ByteArray) (he : Bool) (E : ByteArray) : ByteArray := if he then t ++ (tExp ++ E) else t
def addA (t : ByteArray) (ha : Bool) (A : ByteArray) : ByteArray := if ha then t ++ (tAge ++ A) else t
def addD (t d : ByteArray) : ByteArray := if d.size = 0 then t else t ++ (tDom ++ domT d)
def addP (t : ByteArray) (hp : Bool) (p : ByteArray) : ByteArray := if hp then t ++ (tPath ++ p) else t
def addS (t : ByteArray) (sc : Bool) : ByteArray := if sc then t ++ tSecu else t
def addH (t : ByteArray) (ho : Bool) : ByteArray := if ho then t ++ tHttp else t
def addT (t : ByteArray) (s : Int) : ByteArray := if s = 4 then t else t ++ (tSame ++ siteW s)
end Go.Proofs.YtihlflhgbnfkkaaDoor
