/- The contract of the reference's small: no claim of its own. -/
import Derived.Test.YtbllnkhbahenkaaGreatDoorRMul
import Derived.Test.YtbllnkhbahenkaaGreatDoorDivS
import Derived.Test.YtbllnkhbahenkaaGreatDoorMaths
import Derived.Test.YtbllnkhbahenkaaGreatDoorMul
namespace Go.Proofs.YtbllnkhbahenkaaGreatDoor
open Go.RowKit
/-- A call hands back a number and an integer. -/
def GivesRest (q r : Nat) (w : World) (e : Ending) (w' : World) : Prop :=
  ∃ A n c xs, e = .returned (.tuple #[.slice A n c, .int .u64 (r : Int)]) ∧ Num w' A n c xs q ∧ Below w.heap.size w w'
def RSmallInv (g n y : Nat) (xs : List Nat) (w : World) (k r : Nat) (wr : World) : Prop :=
  ∃ row, Win wr g [] row [] ∧ row.length = n ∧ dval (xs.drop k) = y * dval (row.drop k) + r ∧ Below w.heap.size w wr
theorem small_lt (r x y : Nat) (hr : r < y) (hx : x < 4294967296) : (r * 4294967296 + x) / y < 4294967296 := by
  rw [Nat.div_lt_iff_lt_mul (by omega)]
  have : (r + 1) * 4294967296 ≤ y * 4294967296 := Nat.mul_le_mul_right _ hr
  rw [Nat.mul_comm 4294967296]
  omega
theorem RSmallInv.step {g n y : Nat} {xs : List Nat} {w wr : World} {k r x : Nat} (h : RSmallInv g n y xs w (k + 1) r wr) (hk : k < n) (hg : w.heap.size ≤ g) (hl : xs.length = n) (hx : xs.getD k 0 = x) (hxl : x < 4294967296) (hr : r < y) (u : Int) (hu : u = (((r * 4294967296 + x) / y : Nat) : Int)) :
    RSmallInv g n y xs w k ((r * 4294967296 + x) % y) (wr.setCell ⟨g, k, none⟩ (.int .u32 u)) := by
  subst hu
  obtain ⟨row, h1, h2, h3, h4⟩ := h
  have hw := h1.set (off := 0) rfl (k := k) (by omega) ((r * 4294967296 + x) / y) (small_lt r x y hr hxl)
  rw [Nat.zero_add] at hw
  refine ⟨_, hw, by simpa using h2, ?_, h4.setCell (by simpa using hg) _⟩
  rw [dval_drop xs k (by omega), hx, h3, dval_drop (row.set k _) k (by simp; omega), getD_set _ _ _ _ (by omega), if_pos rfl, List.drop_set_of_lt (by omega)]
  have h6 := Nat.div_add_mod (r * 4294967296 + x) y
  generalize (r * 4294967296 + x) / y = q at *
  generalize (r * 4294967296 + x) % y = s at *
  generalize dval (row.drop (k + 1)) = D at *
  grind
set_option maxRecDepth 100000 in
set_option maxHeartbeats 1000000 in
theorem rsmall_any (A : Option Addr) (n c a : Nat) (xs : List Nat) (w : World) (h : Num w A n c xs a) (hn : n ≤ 1000000) :
    Calls Tryz.prog 64 #[.slice A n c, .int .u64 10] w (GivesRest (a / 10) (a % 10) w) := by
  obtain ⟨i0, hi0, hz0, hz1, hz2⟩ := info_parts infoU32
  have HX := Lib.hid h
  clear h
  go_enter Tryz.func64, Tryz.ntmps64
  go_wp2_with (at_make; refine wpList_make_full _ rfl _ _ 23 rfl w.heap.size 52 i0 (.int .u32 0) 1 Tryz.underlying23 hi0 hz0 hz1 _ _ _ _ n rfl rfl (by omega) (by omega) ?b2 ?b3 (Nat.le_refl _) ?_)
  case b2 => rw [hz2]; omega
  case b3 => unfold maxLen; omega
  intro w1 hown hgrow
  have hw1 := made_win hown
  have I0 : Hid (RSmallInv w.heap.size n 10 xs w n 0 w1) := Lib.hid ⟨_, hw1, by simp, by rw [List.drop_eq_nil_of_le (by have := HX.out.len; omega), List.drop_eq_nil_of_le (by simp)]; rfl, (Below.refl _ _).grown hgrow (Nat.le_refl _) (by intro k hk; cases hk)⟩
  clear hown hgrow hw1
  go_wp2
  go_loopw [7, 8] (fun rv i wr => ∃ k r : Nat, k ≤ n ∧ r < 10 ∧ rv = .int .u64 r ∧ i = .int .i64 ((k : Int) - 1) ∧ Hid (RSmallInv w.heap.size n 10 xs w k r wr)) (fun _ i _ => (intOf i + 1).toNat)
  case atStart => exact ⟨n, 0, Nat.le_refl _, by omega, rfl, by go_num, I0⟩
  case round =>
    obtain ⟨k, r, hk, hr, rfl, rfl, hi⟩ := hrel
    rcases k with _ | k
    · obtain ⟨row, h1, h2, h3, h4⟩ := hi.out
      simp only [List.drop_zero] at h3
      have L : Hid (Lst wr (some ⟨w.heap.size, 0, none⟩) n n row) := Lib.hid (by
        have := h1.lst (off := 0) (c := n) rfl (by omega) (by omega)
        rwa [h2] at this)
      rw [HX.out.val] at h3
      have V : Hid (dval row = a / 10) := Lib.hid (by omega)
      have R : Hid (r = a % 10) := Lib.hid (by omega)
      have BB := Lib.hid h4
      clear h1 h2 h3 h4 hi I0
      go_wp2_with fail
      refine (rtrim_any _ _ _ _ _ L.out).mono ?_
      rintro e w' hg
      have G := Lib.hid ((hg.from_ BB.out rfl).eq V.out)
      obtain ⟨A1, n1, c1, xs1, rfl, _, _⟩ := hg
      have GG : Hid (GivesRest (a / 10) (a % 10) w (.returned (.tuple #[.slice A1 n1 c1, .int .u64 (r : Int)])) w') := Lib.hid (by
        obtain ⟨A2, n2, c2, xs2, e, h1, h2⟩ := G.out
        injection e with e
        injection e with e1 e2 e3
        subst e1 e2 e3
        exact ⟨_, _, _, _, by rw [← R.out], h1, h2⟩)
      go_wp2
      go_ret2
      exact GG.out
    · obtain ⟨x, hxe⟩ : ∃ x, xs.getD k 0 = x := ⟨_, rfl⟩
      obtain ⟨row, h1, h2, h3, h4⟩ := hi.out
      obtain ⟨ad, rfl, _, hcell⟩ := (HX.out.keep h4).toLst.at_ (k := k) (by omega)
      have hxl := HX.out.toLst.getD_lt k
      rw [hxe] at hcell hxl
      have hc2 := h1.cell (off := 0) rfl (k := k) (by omega)
      rw [Nat.zero_add] at hc2
      have hf2 := h1.frozen k
      have S := fun u hu => Lib.hid (hi.out.step (by omega) (Nat.le_refl _) HX.out.len hxe hxl hr u hu)
      obtain ⟨T, hT⟩ : ∃ T, r * 4294967296 + x = T := ⟨_, rfl⟩
      have hTi : (r : Int) * 4294967296 + (x : Int) = (T : Int) := by omega
      have hTl : T < 42949672960 := by omega
      rw [hT] at S
      have hm : T % 10 < 10 := Nat.mod_lt _ (by decide)
      have HM := Lib.hid hm
      clear h1 h2 h3 h4 hi hT hxe I0 hm
      go_wp2
      go_roundw
      case rel => exact ⟨k, T % 10, by omega, HM.out, by go_num, by go_num, S _ (by omega)⟩
      case measure => simp [intOf]; try omega
end Go.Proofs.YtbllnkhbahenkaaGreatDoor
