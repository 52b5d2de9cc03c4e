/- Rank: no claim of its own. -/
import Derived.Test.YtjjpfpgjpmedmaaJB
namespace Go.Proofs.Ytjjpfpgjpmedmaa
open Go.RowKit
/-- Whether b has a rank within s; the rank, the error. -/
def rankOk (s b : List Int) : Bool := MB.okB s && decide (MB.P s 6 ≤ 1024) && MB.okB b && MB.withinB b s 6
def rankB (s b : List Int) : Int := if rankOk s b then (MB.R s b 6 : Int) else 0
def rankE (s b : List Int) : Int := if rankOk s b then 0 else 4
theorem P_pos' (s : List Int) (k : Nat) : (0 : Int) < (MB.P s k : Int) := by have := MB.P_pos s k; omega
theorem cnt_yes {s : List Int} (h1 : MB.okB s = true) (h2 : MB.P s 6 ≤ 1024) : cntB s = (MB.P s 6 : Int) := by unfold cntB; rw [if_pos h1, if_pos h2]
theorem cnt_no {s : List Int} (h : ¬ (MB.okB s = true ∧ MB.P s 6 ≤ 1024)) : cntB s = 0 := by
  unfold cntB
  split
  · next h1 => rw [if_neg (fun h2 => h ⟨h1, h2⟩)]
  · rfl
theorem rank_no {s b : List Int} (h : rankOk s b = false) : rankB s b = 0 ∧ rankE s b = 4 := by
  unfold rankB rankE
  rw [h]
  exact ⟨rfl, rfl⟩
/-- Eats one way out of Rank. -/
def RankGives (s b : List Int) (w : World) : Ending → World → Prop := Gives (.tuple #[.int .i64 (rankB s b), .int .i64 (rankE s b)]) w
theorem RankGives.no {s b : List Int} {w w' : World} (h : rankOk s b = false) (hb : Below w.heap.size w w') : RankGives s b w (.returned (.tuple #[.int .i64 0, .int .i64 4])) w' := by
  unfold RankGives
  rw [(rank_no h).1, (rank_no h).2]
  exact ⟨rfl, hb⟩
end Go.Proofs.Ytjjpfpgjpmedmaa
