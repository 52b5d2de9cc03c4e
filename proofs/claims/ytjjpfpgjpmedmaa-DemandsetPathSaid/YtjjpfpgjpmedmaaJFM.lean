/- MathF, MathFT, MathFV, MathFC, joined: no claim of its own. -/
import Derived.Test.YtjjpfpgjpmedmaaJVM
import Derived.Test.YtjjpfpgjpmedmaaMathVD
namespace Go.Proofs.Ytjjpfpgjpmedmaa.MF
/-- An offer. -/
structure Of where
  bidder : Int
  b0 : Int
  b1 : Int
  b2 : Int
  b3 : Int
  b4 : Int
  b5 : Int
  value : Int
  deriving DecidableEq
def Of.want (p : Of) : List Int := [p.b0, p.b1, p.b2, p.b3, p.b4, p.b5]
/-- The offers as steps. -/
def stp (L : List Of) : VV.St := L.map fun p => (p.want, p.value)
theorem stp_at {L : List Of} {k : Nat} {p : Of} (h : L[k]? = some p) : (stp L)[k]? = some (p.want, p.value) := by unfold stp; rw [List.getElem?_map, h]; rfl
/-- An offer is as good as another one: of the same bidder, at least as much for no other units. -/
def good (a b : Of) : Bool := decide (a.bidder = b.bidder) && decide (b.value ≤ a.value) && VV.leB a.want b.want
end Go.Proofs.Ytjjpfpgjpmedmaa.MF
namespace Go.Proofs.Ytjjpfpgjpmedmaa.VV
open MB (at_)
/-- The greatest value of what is within a bundle; of what is within it and another one. -/
def upT (f : List Int → Int) (b : List Int) : Int := supL ((all b).map f)
end Go.Proofs.Ytjjpfpgjpmedmaa.VV
namespace Go.Proofs.Ytjjpfpgjpmedmaa.VV
open MB (at_)
end Go.Proofs.Ytjjpfpgjpmedmaa.VV
namespace Go.Proofs.Ytjjpfpgjpmedmaa.MF
end Go.Proofs.Ytjjpfpgjpmedmaa.MF
