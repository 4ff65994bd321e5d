/- PLAIN: rows, changes and records as numbers. No program stands in it. -/
namespace Go.Proofs.Ytaapggeaoacikaa
structure V3 where
  a : Int
  b : Int
  c : Int
deriving DecidableEq
def V3.zero : V3 := ⟨0, 0, 0⟩
structure MRow where
  t : Int
  k : Int
  v : V3
deriving DecidableEq
structure MCh where
  t : Int
  k : Int
  had : Bool
  o : V3
  has : Bool
  n : V3
deriving DecidableEq
structure MRec where
  pos : Int
  chs : List MCh
deriving DecidableEq
end Go.Proofs.Ytaapggeaoacikaa
