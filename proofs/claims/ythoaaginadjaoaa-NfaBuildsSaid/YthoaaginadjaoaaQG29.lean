/-
 WITH WHICH BYTES A TREE's TEXTS BEGIN AND END: what is said of no program: the places of Ends against whether a tree has the empty text, no text, and its first and last bytes. Condition: each node of the tree may be.
-/
import Derived.Test.YthoaaginadjaoaaQG28
namespace Go.Proofs.Ythoaaginadjaoaa
mutual
def Tree.empty:Tree->Bool
 | .node k _ l lo _=>if k=0 then true else if k=1 then false else if k=2 then allEmpty l else if k=3 then anyEmpty l else(decide (lo<=0)||headEmpty l)
def allEmpty:List Tree->Bool
 |[]=>true
 |t::r=>t.empty&&allEmpty r
def anyEmpty:List Tree->Bool
 |[]=>false
 |t::r=>t.empty||anyEmpty r
def headEmpty:List Tree->Bool
 |[]=>false
 |t::_=>t.empty
end
mutual
def Tree.first (b:Nat):Tree->Bool
 | .node k m l _ hi=>if k=0 then false else if k=1 then m b else if k=2 then(!anyVoid l&&firstCat b l)else if k=3 then firstAlt b l else(decide (hi≠0)&&headFirst b l)
def firstCat (b:Nat):List Tree->Bool
 |[]=>false
 |t::r=>t.first b||(t.empty&&firstCat b r)
def firstAlt (b:Nat):List Tree->Bool
 |[]=>false
 |t::r=>t.first b||firstAlt b r
def headFirst (b:Nat):List Tree->Bool
 |[]=>false
 |t::_=>t.first b
end
mutual
def Tree.last (b:Nat):Tree->Bool
 | .node k m l _ hi=>if k=0 then false else if k=1 then m b else if k=2 then(!anyVoid l&&lastCat b l)else if k=3 then lastAlt b l else(decide (hi≠0)&&headLast b l)
def lastCat (b:Nat):List Tree->Bool
 |[]=>false
 |t::r=>lastCat b r||(allEmpty r&&t.last b)
def lastAlt (b:Nat):List Tree->Bool
 |[]=>false
 |t::r=>t.last b||lastAlt b r
def headLast (b:Nat):List Tree->Bool
 |[]=>false
 |t::_=>t.last b
end
section
variable (b : Nat) (m : Nat → Bool) (l : List Tree) (lo hi : Int)
end
def byteAt (s:List UInt8)(i:Nat):Nat:=(s.getD i 0).toNat
def beginsRep (B:(Nat->Bool)->Bool)(E:(Nat->Bool)->Nat->Bool)(n:Nat):Nat->(Nat->Bool)->Bool
 |0,f=>f n
 |q+1,f=>B f||beginsRep B E n q (E f)
mutual
def Tree.begins (s:List UInt8):Tree->(Nat->Bool)->Bool
 | .node k m l lo hi=>fun f=>if k=0 then f s.length else if k=1 then(if setEq m (fun _=>false)then false else f s.length||(decide (0<s.length)&&(f (s.length - 1)&&m (byteAt s (s.length - 1)))))
  else if k=2 then(if anyVoid l then false else beginsCat s l f)else if k=3 then beginsAlt s l f
  else(if(decide (0<lo)&&headVoid l)=true then false else if f s.length then true else beginsRep (headBegins s l) (headEnds s l) s.length (mostOf s lo hi) f)
def beginsCat (s:List UInt8):List Tree->(Nat->Bool)->Bool
 |[]=>fun f=>f s.length
 |t::r=>fun f=>t.begins s f||beginsCat s r (t.ends s f)
def beginsAlt (s:List UInt8):List Tree->(Nat->Bool)->Bool
 |[]=>fun _=>false
 |t::r=>fun f=>t.begins s f||beginsAlt s r f
def headBegins (s:List UInt8):List Tree->(Nat->Bool)->Bool
 |[]=>fun _=>false
 |t::_=>t.begins s
end
section
variable (m : Nat → Bool) (l : List Tree) (lo hi : Int)
end
end Go.Proofs.Ythoaaginadjaoaa
