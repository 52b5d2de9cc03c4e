/- CRPar, CSum, CTwo, Law12, joined: no claim of its own. -/
import Derived.Test.YtcokplikmjegcaaDoorCRTok
import Derived.Test.YtcokplikmjegcaaDoorJG
import Derived.Test.YtcokplikmjegcaaDoorJH
import Derived.Test.YtcokplikmjegcaaDoorJI
import Derived.Test.YtcokplikmjegcaaDoorRText12
namespace Go.Proofs.YtcokplikmjegcaaDoor
open Go.RowKit
open MC (Pr)
theorem parse_err {L : List Pr} {s : List UInt8} (h : MC.chkL L = 0) (h1 : (toks s).2 = 0) (h2 : (MC.scanL L (toks s).1).2.2 ≠ 0) : MC.parseL L s = (MC.Z6, (MC.scanL L (toks s).1).2.2) := by
  unfold MC.parseL; rw [if_pos h, if_pos h1, if_neg h2]
theorem parse_long {L : List Pr} {s : List UInt8} (h : MC.chkL L = 0) (h1 : (toks s).2 = 0) (h2 : (MC.scanL L (toks s).1).2.2 = 0) (h3 : used (toks s).1 (MC.scanL L (toks s).1) < (toks s).1.length) : MC.parseL L s = (MC.Z6, 3) := by
  unfold MC.parseL
  rw [if_pos h, if_pos h1, if_pos h2, if_neg]
  intro e
  unfold used at h3
  rw [if_pos h2, e] at h3
  simp at h3
theorem parse_done {L : List Pr} {s : List UInt8} (h : MC.chkL L = 0) (h1 : (toks s).2 = 0) (h2 : (MC.scanL L (toks s).1).2.2 = 0) (h3 : ¬ used (toks s).1 (MC.scanL L (toks s).1) < (toks s).1.length) : MC.parseL L s = ((MC.scanL L (toks s).1).1, 0) := by
  unfold MC.parseL
  rw [if_pos h, if_pos h1, if_pos h2, if_pos]
  unfold used at h3
  rw [if_pos h2] at h3
  obtain ⟨n, a, b, c⟩ := MC.scan_rest h2
  rw [c] at h3 ⊢
  rw [List.length_drop] at h3
  exact List.drop_of_length_le (by omega)
end Go.Proofs.YtcokplikmjegcaaDoor
namespace Go.Proofs.YtcokplikmjegcaaDoor
open Go.RowKit
open MC (Pr)
end Go.Proofs.YtcokplikmjegcaaDoor
namespace Go.Proofs.YtcokplikmjegcaaDoor
open Go.RowKit
open MC (Pr)
def two2 : List Pr := [⟨[97], 2, 0, 2, 0⟩, ⟨[98], 2, 5, 3, 1⟩]
/-- A call hands back the products L, in new memory. -/
def GivesPrs (L : List Pr) (w : World) (e : Ending) (w' : World) : Prop := ∃ A n c, e = .returned (.slice A n c) ∧ Prs w' A n c L ∧ Below w.heap.size w w'
theorem cells_two : cellsPs two2 = [.string ⟨#[97]⟩, .int .i64 2, .int .i64 0, .int .i64 2, .int .i64 0, .string ⟨#[98]⟩, .int .i64 2, .int .i64 5, .int .i64 3, .int .i64 1] := rfl
theorem Prs.lit {w : World} {b : Nat} {T : TypeId} {cs : Array Value} (L : List Pr) (n : Nat) (h : w.heap[b]? = some (.cells cs T (0, 0))) (hc : cs.toList = cellsPs L) (hn : L.length = n) (hf : n ≤ 100) (hfi : ∀ p ∈ L, p.name.length ≤ 9223372036854775807) : Prs w (some ⟨b, 0, none⟩) n n L := by
  refine ⟨⟨by rw [cellsPs_length, hn], fun _ => ⟨_, rfl, (Array.getElem?_eq_some_iff.1 h).1, fun j u hu => ?_⟩⟩, hn, Nat.le_refl _, hf, hfi⟩
  rw [addr_add, Nat.zero_add, cell_of_row w b j _ _ _ h]
  rw [← hc] at hu
  simpa using hu
theorem two_chk : MC.chkL two2 = 0 := by decide +kernel
theorem two_find : MC.findL two2 [98] = some 1 := by decide +kernel
theorem two_p1 : MC.parseL two2 [123, 32, 98, 32, 58, 32, 50, 32, 44, 32, 97, 32, 58, 32, 49, 32, 125] = ([1, 2, 0, 0, 0, 0], 0) := by rfl
theorem two_p2 : MC.parseL two2 [123, 97, 58, 48, 125] = (MC.Z6, 4) := by rfl
theorem two_p3 : MC.parseL two2 [123, 97, 58, 49, 44, 97, 58, 49, 125] = (MC.Z6, 7) := by rfl
theorem two_p4 : MC.parseL two2 [123, 97, 58, 49] = (MC.Z6, 1) := by rfl
theorem two_points : MC.sumG fP two2 [1, 2, 0, 0, 0, 0] = 8 := by decide +kernel
theorem two_reserve : MC.sumG fR two2 [1, 2, 0, 0, 0, 0] = 10 := by decide +kernel
theorem two_units : MC.sumG (fU 1) two2 [1, 2, 0, 0, 0, 0] = 2 := by decide +kernel
theorem two_fits : MC.Fits two2 [1, 2, 0, 0, 0, 0] := (fits_iff rfl).2 (by decide +kernel)
theorem two_text : MC.fmtL two2 [1, 2, 0, 0, 0, 0] = [123, 97, 58, 49, 44, 98, 58, 50, 125] := by rw [fmt_yes two_fits]; decide +kernel
theorem two_sup : MC.supB two2 = [2, 2, 0, 0, 0, 0] := by decide +kernel
end Go.Proofs.YtcokplikmjegcaaDoor
namespace Go.Proofs.YtcokplikmjegcaaDoor
open Go.RowKit
open MC (Pr)
def saleL : List Pr := [⟨[97], 2, 0, 0, 0⟩, ⟨[98], 2, 0, 0, 0⟩]
set_option maxRecDepth 100000 in
set_option maxHeartbeats 1000000 in
theorem sale_any (w : World) : Calls Tryd.prog 11 #[] w (GivesPrs saleL w) := by
  have G : Hid (GivesPrs saleL w (.returned (.slice (some ⟨w.heap.size, 0, none⟩) 2 2)) (w.alloc (.cells #[.string ⟨#[97]⟩, .int .i64 2, .int .i64 0, .int .i64 0, .int .i64 0, .string ⟨#[98]⟩, .int .i64 2, .int .i64 0, .int .i64 0, .int .i64 0] 62))) :=
    Lib.hid ⟨_, _, _, rfl, Prs.lit saleL 2 (heap_new _ _) rfl rfl (by decide) (by decide), below_new _ _⟩
  go_enter Tryd.func11, Tryd.ntmps11
  go_wp2
  go_ret
  exact G.out
theorem partN_spec (n : Nat) : partN n = true ↔ (97 ≤ n ∧ n ≤ 122) ∨ (48 ≤ n ∧ n ≤ 57) ∨ n = 95 := by
  unfold partN
  rw [Bool.or_eq_true, Bool.or_eq_true, letterN_yes, digitN_yes, decide_eq_true_eq]
theorem partN_is {n : Nat} (h : (97 ≤ n ∧ n ≤ 122) ∨ (48 ≤ n ∧ n ≤ 57) ∨ n = 95) : partN n = true := (partN_spec n).2 h
theorem partN_not {n : Nat} (h : ¬ ((97 ≤ n ∧ n ≤ 122) ∨ (48 ≤ n ∧ n ≤ 57) ∨ n = 95)) : partN n = false := Bool.eq_false_iff.2 (fun e => h ((partN_spec n).1 e))
theorem sale_chk : MC.chkL saleL = 0 := by decide +kernel
end Go.Proofs.YtcokplikmjegcaaDoor
