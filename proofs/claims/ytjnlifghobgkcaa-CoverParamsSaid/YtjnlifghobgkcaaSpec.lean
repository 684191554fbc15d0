/-
  Chapter 5 as plain functions of trees: targets, patterns, parameters, names.
-/
import Derived.Test.YtjnlifghobgkcaaTr
namespace Go.Proofs.Ytjnlifghobgkcaa
open Go.RowKit

def memB (t : Tr) : Bool := t.op == 51 || t.op == 52
def tgtB (t : Tr) : Bool := t.op == 34 || (memB t && t.n == 0)
def patB (t : Tr) : Bool := tgtB t || t.op == 60 || t.op == 61
abbrev Res := Except Int Tr
abbrev Part := Tr → Nat → Bool → Res
def eqS : ByteArray := ⟨#[61]⟩
def noS : ByteArray := ⟨#[]⟩

def withinV (P : Part) : Part := fun t d l => if 200 < d then .error 10 else P t d l
def onlyV (h : Tr → Bool) : Part := fun t _ _ => if h t then .ok t else .error 24
def keepV : Part := fun t _ _ => .ok t
def pairV (f g : Part) : Part := fun t d l => if l then g t d l else f t d l
/-- the children one after the other, at depth d; the last one is told -/
def madeL (P : Part) (d : Nat) : List Tr → Except Int (List Tr)
  | [] => .ok []
  | t :: r => match P t d r.isEmpty with
    | .error e => .error e
    | .ok x => match madeL P d r with
      | .error e => .error e
      | .ok l => .ok (x :: l)
/-- .. as the children of a node -/
def madeV (op a m : Int) (l : List Tr) (d : Nat) (P : Part) : Res := match madeL P (d + 1) l with
  | .error e => .error e
  | .ok r => .ok (.mk op a 0 m noS r)
def eleG (P : Part) : Part := fun t d l => if t.op ≠ 46 then P t d l else if t.s = eqS ∧ t.ks.length = 2 then madeV 63 t.a 0 t.ks d (pairV (withinV (onlyV patB)) keepV) else .error 24
def lisG (P : Part) : Part := fun t d l => if t.op ≠ 41 then eleG P t d l else if l = true ∧ t.ks.length = 1 then madeV 64 t.a 0 t.ks d (withinV P) else .error 24
def itemG (P : Part) : Part := fun t d l => if t.op = 40 then .ok t else withinV (lisG P) t d l
def writtenV : List Tr → List Tr
  | [x] => [x, .mk 34 x.a 0 0 x.s []]
  | [x, y] => [x, .mk 46 x.a 0 0 eqS [.mk 34 x.a 0 0 x.s [], y]]
  | l => l
def txtB (t : Tr) : Bool := t.op == 31
def propG (P : Part) : Part := fun t d l =>
  if t.op ≠ 39 then .error 24
  else if t.n = 0 ∧ t.ks.length = 2 then madeV 62 t.a t.m t.ks d (pairV keepV (withinV (eleG P)))
  else if t.n = 3 ∧ (t.ks.length = 1 ∨ t.ks.length = 2) then madeV 62 t.a t.m (writtenV t.ks) d (pairV (onlyV txtB) (withinV (eleG P)))
  else if t.n = 4 ∧ t.ks.length = 1 ∧ l = true then madeV 64 t.a 0 t.ks d (withinV (onlyV tgtB))
  else .error 24
def patF : Nat → Part
  | 0 => fun _ _ _ => .error 24
  | f + 1 => fun t d _ => if patB t then .ok t else if t.op = 37 then madeV 60 t.a 0 t.ks d (itemG (patF f)) else if t.op = 38 then madeV 61 t.a 0 t.ks d (withinV (propG (patF f))) else .error 24
/-- names that a pattern binds -/
def namesF : Nat → Tr → List ByteArray
  | 0, _ => []
  | f + 1, t => if t.op = 34 then [t.s] else if t.op = 5 ∨ t.op = 60 ∨ t.op = 61 then t.ks.flatMap (namesF f) else if t.op = 63 ∨ t.op = 64 then (t.ks.take 1).flatMap (namesF f) else if t.op = 62 ∧ 1 < t.ks.length then ((t.ks.drop 1).take 1).flatMap (namesF f) else []
/-- a member of an object stands in the place of a target -/
def hasF : Nat → Tr → Bool
  | 0, _ => false
  | f + 1, t => if memB t then true else if t.op = 60 ∨ t.op = 61 then t.ks.any (hasF f) else if t.op = 63 ∨ t.op = 64 then (t.ks.take 1).any (hasF f) else if t.op = 62 ∧ 1 < t.ks.length then ((t.ks.drop 1).take 1).any (hasF f) else false
def parG (f : Nat) : Part := fun t d l => match withinV (lisG (patF f)) t d l with
  | .error e => .error e
  | .ok p => if hasF p.cnt p then .error 24 else .ok p
def paramsV (f : Nat) (t : Tr) : Res := madeV 5 t.a 0 (if t.op = 7 then [] else if t.op = 48 then t.ks else [t]) 1 (parG f)
def simpleB (t : Tr) : Bool := t.op == 5 && t.ks.all (fun x => x.op == 34)
end Go.Proofs.Ytjnlifghobgkcaa
