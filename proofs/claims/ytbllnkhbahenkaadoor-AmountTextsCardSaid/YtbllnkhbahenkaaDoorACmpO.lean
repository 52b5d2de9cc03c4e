/- The comparison of two indices: no claim of its own. -/
import Derived.Test.YtbllnkhbahenkaaDoorACmp
namespace Go.Proofs.YtbllnkhbahenkaaDoor
open Go.RowKit Go.Shelf Go.Lib Go.Sort MA
/-- The captured variables and the closure that the comparison calls. -/
structure Cf (w : World) (B bf : Nat) (A : Option Addr) (n c : Nat) (ws : List Int) (t W : Nat) : Prop where
  cx : Cx w B A n c ws t W
  fn : Blk w bf [.func (.func 29) #[] #[.pointer (some ⟨B, 0, none⟩), .pointer (some ⟨B + 1, 0, none⟩), .pointer (some ⟨B + 2, 0, none⟩)]] 55
section
variable {w : World} {B bf : Nat} {A : Option Addr} {n c : Nat} {ws : List Int} {t W : Nat}
theorem Cf.drewN (h : Cf w B bf A n c ws t W) (q : Nat) : Cf (w.drewN q) B bf A n c ws t W := ⟨h.cx.drewN q, h.fn⟩
theorem Cf.drew (h : Cf w B bf A n c ws t W) : Cf w.drew B bf A n c ws t W := h.drewN 1
theorem Cf.alloc (h : Cf w B bf A n c ws t W) (o : Obj) : Cf (w.alloc o) B bf A n c ws t W := ⟨h.cx.keep (below_new _ _), h.fn.alloc o⟩
theorem Cf.cell (h : Cf w B bf A n c ws t W) : w.cell? ⟨bf, 0, none⟩ = some (.func (.func 29) #[] #[.pointer (some ⟨B, 0, none⟩), .pointer (some ⟨B + 1, 0, none⟩), .pointer (some ⟨B + 2, 0, none⟩)]) := h.fn.cell rfl
end
set_option maxRecDepth 100000 in
set_option maxHeartbeats 1000000 in
theorem cmpO_any (i j : Nat) (w : World) (B bf : Nat) (A : Option Addr) (n c : Nat) (ws : List Int) (t W : Nat) (h : Cf w B bf A n c ws t W)
    (hi : i < n) (hj : j < n) (hn : n ≤ 40) (hc : n ≤ c) (ht : t ≤ 1000000) (hW : 0 < W) (hW2 : W ≤ 40000000) :
    Calls Tryd.prog 31 #[.int .i64 i, .int .i64 j, .pointer (some ⟨bf, 0, none⟩)] w fun e w' => e = .returned (.int .i64 (cfo (rem t (wN ws) W) i j)) ∧ ∃ q os', w' = grow (w.drewN q) os' := by
  have RI := Lib.hid (fun (W' : World) (k : Cf W' B bf A n c ws t W) => rem_any i W' B A n c ws t W k.cx hi hn hc ht hW hW2)
  have RJ := Lib.hid (fun (W' : World) (k : Cf W' B bf A n c ws t W) => rem_any j W' B A n c ws t W k.cx hj hn hc ht hW hW2)
  have FC := h.drew.cell
  have I := Lib.hid h
  have EQ : Hid (cfo (rem t (wN ws) W) i j = or2 (cmp3 (rem t (wN ws) W j) (rem t (wN ws) W i)) (cmp3 i j)) := Lib.hid rfl
  generalize cfo (rem t (wN ws) W) i j = cf at *
  generalize rem t (wN ws) W i = x at *
  generalize rem t (wN ws) W j = y at *
  clear h
  go_enter Tryd.func31, Tryd.ntmps31
  go_wp2_with fail
  go_region_held3 (fun w' => w'.cell? ⟨bf, 0, none⟩ = some (.func (.func 29) #[] #[.pointer (some ⟨B, 0, none⟩), .pointer (some ⟨B + 1, 0, none⟩), .pointer (some ⟨B + 2, 0, none⟩)])) (first | (with_reducible exact FC) | (with_reducible exact (I.out.drewN _).cell) | (with_reducible exact ((I.out.drewN _).alloc _).cell)) (first | (go_at_call 29; (first | (with_reducible refine (RJ.out _ I.out.drew).mono ?_) | (with_reducible refine (RJ.out _ (I.out.drewN _)).mono ?_) | (with_reducible refine (RI.out _ I.out.drew).mono ?_) | (with_reducible refine (RI.out _ (I.out.drewN _)).mono ?_)); rintro e w1 ⟨rfl, q1, rfl⟩) | (go_at_call 33; refine (cmp64_any _ _ _).mono ?_; rintro e w1 ⟨rfl, rfl⟩) | (go_at_call 34; refine (cmpInt_any _ _ _).mono ?_; rintro e w1 ⟨rfl, rfl⟩) | (go_at_call 32; refine (or_at _ _ _ _ rfl).mono ?_; rintro e w1 ⟨rfl, rfl⟩))
  go_wp2
  go_ret
  exact ⟨by rw [EQ.out]; rfl, _, _, alloc_eq_grow _ _⟩
end Go.Proofs.YtbllnkhbahenkaaDoor
