/- CRPar, CSum, CTwo, Sale12, joined: no claim of its own. -/
import Derived.Test.YtcokplikmjegcaaGreatDoorCRTok
import Derived.Test.YtcokplikmjegcaaGreatDoorJG
import Derived.Test.YtcokplikmjegcaaGreatDoorJH
import Derived.Test.YtcokplikmjegcaaGreatDoorJI
namespace Go.Proofs.YtcokplikmjegcaaGreatDoor
open Go.RowKit
open MC (Pr)
end Go.Proofs.YtcokplikmjegcaaGreatDoor
namespace Go.Proofs.YtcokplikmjegcaaGreatDoor
open Go.RowKit
open MC (Pr)
end Go.Proofs.YtcokplikmjegcaaGreatDoor
namespace Go.Proofs.YtcokplikmjegcaaGreatDoor
open Go.RowKit
open MC (Pr)
/-- A call hands back the products L, in new memory. -/
def GivesPrs (L : List Pr) (w : World) (e : Ending) (w' : World) : Prop := ∃ A n c, e = .returned (.slice A n c) ∧ Prs w' A n c L ∧ Below w.heap.size w w'
theorem Prs.lit {w : World} {b : Nat} {T : TypeId} {cs : Array Value} (L : List Pr) (n : Nat) (h : w.heap[b]? = some (.cells cs T (0, 0))) (hc : cs.toList = cellsPs L) (hn : L.length = n) (hf : n ≤ 100) (hfi : ∀ p ∈ L, p.name.length ≤ 9223372036854775807) : Prs w (some ⟨b, 0, none⟩) n n L := by
  refine ⟨⟨by rw [cellsPs_length, hn], fun _ => ⟨_, rfl, (Array.getElem?_eq_some_iff.1 h).1, fun j u hu => ?_⟩⟩, hn, Nat.le_refl _, hf, hfi⟩
  rw [addr_add, Nat.zero_add, cell_of_row w b j _ _ _ h]
  rw [← hc] at hu
  simpa using hu
end Go.Proofs.YtcokplikmjegcaaGreatDoor
namespace Go.Proofs.YtcokplikmjegcaaGreatDoor
open Go.RowKit
open MC (Pr)
def saleL : List Pr := [⟨[97], 2, 0, 0, 0⟩, ⟨[98], 2, 0, 0, 0⟩]
set_option maxRecDepth 100000 in
set_option maxHeartbeats 1000000 in
theorem sale_any (w : World) : Calls Tryz.prog 14 #[] w (GivesPrs saleL w) := by
  have G : Hid (GivesPrs saleL w (.returned (.slice (some ⟨w.heap.size, 0, none⟩) 2 2)) (w.alloc (.cells #[.string ⟨#[97]⟩, .int .i64 2, .int .i64 0, .int .i64 0, .int .i64 0, .string ⟨#[98]⟩, .int .i64 2, .int .i64 0, .int .i64 0, .int .i64 0] 71))) :=
    Lib.hid ⟨_, _, _, rfl, Prs.lit saleL 2 (heap_new _ _) rfl rfl (by decide) (by decide), below_new _ _⟩
  go_enter Tryz.func14, Tryz.ntmps14
  go_wp2
  go_ret
  exact G.out
theorem sale_chk : MC.chkL saleL = 0 := by decide +kernel
end Go.Proofs.YtcokplikmjegcaaGreatDoor
