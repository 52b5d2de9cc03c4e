/- The comparison of two indices by their remainders: no claim of its own. -/
import Derived.Test.YtbllnkhbahenkaaDoorAF
import Derived.Test.YtbllnkhbahenkaaDoorSortL
import Derived.Deep.RegionHeld3
import Derived.BigQuiet
namespace Go.Proofs.YtbllnkhbahenkaaDoor
open Go.RowKit Go.Shelf Go.Lib Go.Sort MA
/-- What the closures have captured. -/
structure Cx (w : World) (B : Nat) (A : Option Addr) (n c : Nat) (ws : List Int) (t W : Nat) : Prop where
  bt : Blk w B [.int .i64 t] 2
  bw : Blk w (B + 1) [.slice A n c] 22
  bs : Blk w (B + 2) [.int .i64 W] 2
  reads : Reads w B 1 A n (ws.map (Value.int .i64))
  len : ws.length = n
  ok : ws.all okW = true
section
variable {w w' : World} {B : Nat} {A : Option Addr} {n c : Nat} {ws : List Int} {t W : Nat}
theorem Cx.keep (h : Cx w B A n c ws t W) (hb : Below w.heap.size w w') : Cx w' B A n c ws t W :=
  ⟨h.bt.keep hb, h.bw.keep hb, h.bs.keep hb, h.reads.below (hb.mono (Nat.le_of_lt h.bt.lt)), h.len, h.ok⟩
theorem Cx.drewN (h : Cx w B A n c ws t W) (q : Nat) : Cx (w.drewN q) B A n c ws t W := ⟨h.bt, h.bw, h.bs, h.reads, h.len, h.ok⟩
theorem Cx.keepG (h : Cx w B A n c ws t W) {g : Nat} (hg : w.grownBy w' (some g)) (hB : B + 3 ≤ g) : Cx w' B A n c ws t W :=
  ⟨h.bt.keepG hg (by omega), h.bw.keepG hg (by omega), h.bs.keepG hg (by omega), h.reads.grown hg (Nat.le_of_lt h.bt.lt) (fun k e => by injection e with e; omega), h.len, h.ok⟩
end
set_option maxRecDepth 100000 in
set_option maxHeartbeats 1000000 in
theorem rem_any (i : Nat) (w : World) (B : Nat) (A : Option Addr) (n c : Nat) (ws : List Int) (t W : Nat) (h : Cx w B A n c ws t W) (hi : i < n) (_hn : n ≤ 40) (_hc : n ≤ c) (ht : t ≤ 1000000) (hW : 0 < W) (hW2 : W ≤ 40000000) :
    Calls Tryd.prog 29 #[.int .i64 i, .pointer (some ⟨B, 0, none⟩), .pointer (some ⟨B + 1, 0, none⟩), .pointer (some ⟨B + 2, 0, none⟩)] w fun e w' => e = .returned (.int .i64 (rem t (wN ws) W i : Nat)) ∧ ∃ q, w' = w.drewN q := by
  obtain ⟨ad, u, rfl, hb, hx, hcell⟩ := h.reads.at_ hi
  have hl : i < ws.length := by rw [h.len]; exact hi
  have hwc := wN_cast h.ok hl
  have hwl := wN_le h.ok i
  rw [List.getElem?_map, List.getElem?_eq_getElem hl] at hx
  injection hx with hx
  rw [getD_at hl] at hwc
  rw [← hx, ← hwc] at hcell
  have c0 : w.cell? ⟨B, 0, none⟩ = some (.int .i64 t) := h.bt.cell rfl
  have c1 : w.cell? ⟨B + 1, 0, none⟩ = some (.slice (some ad) n c) := h.bw.cell rfl
  have c2 : w.cell? ⟨B + 2, 0, none⟩ = some (.int .i64 W) := h.bs.cell rfl
  have R : rem t (wN ws) W i = (t * wN ws i) % W := rfl
  rw [R]
  clear hx hwc hb h R u hl
  generalize wN ws i = x at *
  have hp : t * x ≤ 1000000 * 1000000 := Nat.mul_le_mul ht hwl
  have e1 : IntKind.i64.wrap ((t : Int) * (x : Int)) = ((t * x : Nat) : Int) := by rw [show ((t : Int) * (x : Int)) = ((t * x : Nat) : Int) by push_cast; rfl]; exact IntWalk.i64_in _ (by omega)
  generalize t * x = p at *
  have e2 : ((p : Nat) : Int).tmod (W : Int) = ((p % W : Nat) : Int) := by rw [Int.tmod_eq_emod_of_nonneg (by omega)]; rfl
  have e2' : ((p : Nat) : Int) % (W : Int) = ((p % W : Nat) : Int) := rfl
  have hm : p % W < W := Nat.mod_lt _ hW
  have hz : ((W : Int) == 0) = false := beq_eq_false_iff_ne.2 (by omega)
  generalize p % W = m at *
  go_enter Tryd.func29, Tryd.ntmps29
  go_wp2
  go_quiet (fail)
  go_wp2
  go_ret
  exact ⟨rfl, _, rfl⟩
/-- The comparison's answer. -/
def cfo (r : Nat → Nat) (i j : Nat) : Int := or2 (cmp3 (r j) (r i)) (cmp3 i j)
theorem cfo_lt (r : Nat → Nat) (i j : Nat) : decide (cfo r i j < 0) = before r i j := by
  rw [Bool.eq_iff_iff, before_iff, decide_eq_true_eq]
  unfold cfo or2 cmp3
  by_cases h1 : (r j : Int) < r i
  · simp [h1]; omega
  · by_cases h2 : (r i : Int) < r j
    · simp [h1, h2]; omega
    · by_cases h3 : (i : Int) < j
      · simp [h1, h2, h3]; omega
      · by_cases h4 : (j : Int) < i
        · simp [h1, h2, h3, h4]; omega
        · simp [h1, h2, h3, h4]; omega
theorem or_at (W : World) (a b : Int) (g : Nat) (hg : g = W.heap.size) : Calls Tryd.prog 32 #[.slice (some ⟨g, 0, none⟩) 2 2] (W.alloc (.cells #[.int .i64 a, .int .i64 b] 3)) fun e w' => e = .returned (.int .i64 (or2 a b)) ∧ W.alloc (.cells #[.int .i64 a, .int .i64 b] 3) = w' := by
  subst hg
  have H := Blk.new W #[.int .i64 a, .int .i64 b] 3
  exact or_any _ a b _ (H.cell rfl) (H.cell rfl)
end Go.Proofs.YtbllnkhbahenkaaDoor
