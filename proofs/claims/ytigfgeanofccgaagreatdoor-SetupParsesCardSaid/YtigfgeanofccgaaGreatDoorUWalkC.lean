/- The walk of SetupChecks: no claim of its own. -/
import Derived.Test.YtigfgeanofccgaaGreatDoorUAwake
import Derived.Test.YtigfgeanofccgaaGreatDoorJRk
import Derived.Test.YtigfgeanofccgaaGreatDoorJUb
namespace Go.Proofs.YtigfgeanofccgaaGreatDoor
open Go.RowKit
open MU (Su Cp As)
/-- A setup that came in. -/
structure SuIn (w : World) (A1 : Option Addr) (n1 c1 : Nat) (A2 : Option Addr) (n2 c2 : Nat) (A3 : Option Addr) (n3 c3 : Nat) (A4 : Option Addr) (n4 c4 : Nat) (s : Su) : Prop where
  ps : PrsIn w A1 n1 c1 s.ps
  bs : LstIn bdE w A2 n2 c2 s.bs
  cs : LstIn cpE w A3 n3 c3 s.cs
  as_ : LstIn asdE w A4 n4 c4 s.as_
theorem SuIn.at {w : World} {A1 : Option Addr} {n1 c1 : Nat} {A2 : Option Addr} {n2 c2 : Nat} {A3 : Option Addr} {n3 c3 : Nat} {A4 : Option Addr} {n4 c4 : Nat} {s : Su} (h : SuIn w A1 n1 c1 A2 n2 c2 A3 n3 c3 A4 n4 c4 s) (hn : n1 ≤ 5000) : SuAt w A1 n1 c1 A2 n2 c2 A3 n3 c3 A4 n4 c4 s := ⟨h.ps.prs hn, h.bs.lst, h.cs.lst, h.as_.lst⟩
end Go.Proofs.YtigfgeanofccgaaGreatDoor
