/- The contract of natural.Mul: no claim of its own. -/
import Derived.Test.YtgmjpkkpkdcncaaDoorAddProduct
import Derived.Test.YtgmjpkkpkdcncaaDoorBase
namespace Go.Proofs.YtgmjpkkpkdcncaaDoor
open Go.RowKit
/-- What holds after i digits of the first number. -/
def MulInv (g n m : Nat) (xs ys : List Nat) (w : World) (i : Nat) (wr : World) : Prop :=
  ∃ row, Win wr g [] row [] ∧ row.length = n + m ∧ dval row = dval (xs.take i) * dval ys ∧ (∀ j, i + m ≤ j → row.getD j 0 = 0) ∧ Below w.heap.size w wr
theorem MulInv.step {g n m : Nat} {xs ys : List Nat} {w wr w' : World} {i : Nat} {e : Ending} {row : List Nat} (hx : xs.length = n) (hi : i < n) (hg : w.heap.size ≤ g)
    (h1 : Win wr g [] row []) (h2 : row.length = n + m) (h3 : dval row = dval (xs.take i) * dval ys) (h4 : ∀ j, i + m ≤ j → row.getD j 0 = 0) (h5 : Below w.heap.size w wr)
    (h : AddsProduct g (row.take i) ((row.drop i).take (m + 1)) (row.drop (i + (m + 1))) ys (xs.getD i 0) wr e w') : e = .returned (.tuple #[]) ∧ MulInv g n m xs ys w (i + 1) w' := by
  obtain ⟨win', rfl, hw, hl, hv, hgr⟩ := h
  have hlen : ((row.drop i).take (m + 1)).length = m + 1 := by simp; omega
  refine ⟨rfl, row.take i ++ win' ++ row.drop (i + (m + 1)), h1.join hw, ?_, ?_, ?_, ?_⟩
  · simp; omega
  · have p := dval_part row win' i (m + 1) (by omega) (by omega)
    rw [dval_take_succ xs i (by omega), Nat.add_mul, ← h3]
    rw [hv] at p
    generalize dval (List.take (m + 1) (List.drop i row)) = a at *
    generalize 4294967296 ^ i = P at *
    grind
  · intro j hj
    rw [List.append_assoc, List.getD_eq_getElem?_getD, List.getElem?_append_right (by simp; omega), List.getElem?_append_right (by simp; omega), List.getElem?_drop]
    have e : i + (m + 1) + (j - (List.take i row).length - win'.length) = j := by simp; omega
    rw [e]
    exact h4 j (by omega)
  · exact h5.trans (grown_below hgr hg h5.size)
set_option maxRecDepth 100000 in
set_option maxHeartbeats 1000000 in
theorem mul_any (A B : Option Addr) (n c m d a b : Nat) (xs ys : List Nat) (w : World) (hx : Num w A n c xs a) (hy : Num w B m d ys b) (hn : n ≤ 1000000) (hm : m ≤ 1000000) :
    Calls Tryd.prog 16 #[.slice A n c, .slice B m d] w (GivesNum (a * b) w) := by
  obtain ⟨i0, hi0, hz0, hz1, hz2⟩ := info_parts infoU32
  have HX := Lib.hid hx.caps
  have HY := Lib.hid hy.caps
  have T1 := fun w' => trim_num A n c xs a w'
  have HX0 := Lib.hid hx
  have HY0 := Lib.hid hy
  clear hx hy T1
  go_enter Tryd.func16, Tryd.ntmps16
  go_wp2_with fail
  refine (trim_num _ _ _ _ _ _ HX0.out).mono ?_
  rintro e w' ⟨rfl, rfl⟩
  go_wp2_with fail
  refine (trim_num _ _ _ _ _ _ HY0.out).mono ?_
  rintro e w' ⟨rfl, rfl⟩
  go_wp2_with (at_make; refine wpList_make_full _ rfl _ _ 23 rfl w.heap.size 43 i0 (.int .u32 0) 1 Tryd.underlying23 hi0 hz0 hz1 _ _ _ _ (n + m) rfl rfl (by omega) (by omega) ?b2 ?b3 (Nat.le_refl _) ?_)
  case b2 => rw [hz2]; omega
  case b3 => unfold maxLen; omega
  intro w1 hown hgrow
  have hw1 := made_win hown
  have I0 : Hid (MulInv w.heap.size n m xs ys w 0 w1) := Lib.hid ⟨_, hw1, by simp, by simp [dval_replicate, dval], fun j _ => getD_replicate _ _, (Below.refl _ _).grown hgrow (Nat.le_refl _) (by intro k hk; cases hk)⟩
  clear hown hgrow hw1 HX0 HY0
  go_wp2
  go_loopw [20] (fun i wr => ∃ k : Nat, k ≤ n ∧ i = .int .i64 k ∧ Hid (MulInv w.heap.size n m xs ys w k wr)) (fun i _ => n - (intOf i).toNat)
  case atStart => exact ⟨0, by omega, rfl, I0⟩
  case round =>
    obtain ⟨k, hk, rfl, hi⟩ := hrel
    by_cases hlt : k < n
    · obtain ⟨row, h1, h2, h3, h4, h5⟩ := hi.out
      obtain ⟨ad, rfl, hb, hcell⟩ := (HX.out.toLst.keep h5).at_ hlt
      clear hb
      have C := fun w' => addProduct_any w.heap.size k (m + 1) (m + 1) m m (xs.getD k 0) B (row.take k) ((row.drop k).take (m + 1)) (row.drop (k + (m + 1))) ys w'
      have F := fun (e : Ending) w' h => MulInv.step (e := e) (w' := w') HX.out.len hlt (Nat.le_refl _) h1.drew h2 h3 h4 h5.drew h
      have hf := HX.out.toLst.getD_lt k
      have hyl := (HY.out.toLst.keep h5)
      have hne := HY.out.toLst.ne (Nat.le_refl _)
      have CC := Lib.hid C
      have FF := Lib.hid F
      have P1 := Lib.hid (h1.drew.part k (m + 1))
      have P2 := Lib.hid hyl.drew
      have P3 := Lib.hid hne
      have P4 : Hid ((row.take k).length = k ∧ ((row.drop k).take (m + 1)).length = m + 1 ∧ ((row.drop k).take (m + 1)).getD m 0 = 0) := Lib.hid ⟨by simp; omega, by simp; omega, by
        rw [List.getD_eq_getElem?_getD, List.getElem?_take_of_lt (by omega), List.getElem?_drop, ← List.getD_eq_getElem?_getD]; exact h4 _ (by omega)⟩
      clear C F hyl hne h1 h2 h3 h4 hi I0
      generalize xs.getD k 0 = f at *
      go_wp2
      have e1 : ((k : Int) + (m : Int) + 1).toNat = k + m + 1 := by omega
      have e2 : 0 ≤ (k : Int) + (m : Int) + 1 := by omega
      have e3 : (k : Int) + (m : Int) + 1 ≤ (n : Int) + (m : Int) := by omega
      have e4 : (k : Int) + (m : Int) + 1 ≤ max ((k : Int) + (m : Int) + 1) 0 := by omega
      have e5 : k ≤ k + m + 1 := by omega
      have e6 : k + m + 1 - k = m + 1 := by omega
      have e7 : (k + m + 1 = k) = False := eq_false (by omega)
      go_still_tail 10, (by kernel_rfl)
      clear e1 e2 e3 e4 e5 e6 e7
      change wpList _ _ _ _ _ wr.drew
      go_wp2_with fail
      refine (CC.out _ P1.out P4.out.1 P4.out.2.1 (by omega) (by omega) P2.out P3.out (by trivial) hf P4.out.2.2).mono ?_
      rintro e w' h
      obtain ⟨rfl, hI⟩ := FF.out _ _ h
      have HI := Lib.hid hI
      clear h hI CC FF P1 P2 P3 P4 h5 hcell
      go_wp2
      go_roundw
      case rel => exact ⟨k + 1, by omega, by go_num, HI⟩
      case measure => simp [intOf]; omega
    · obtain ⟨row, h1, h2, h3, h4, h5⟩ := hi.out
      obtain rfl : k = n := by omega
      have L : Hid (Lst wr (some ⟨w.heap.size, 0, none⟩) (k + m) (k + m) row) := Lib.hid (by
        have := h1.lst (off := 0) (c := k + m) rfl (by omega) (by omega)
        rwa [h2] at this)
      have V : Hid (dval row = a * b) := Lib.hid (by
        rw [h3, List.take_of_length_le (by have := HX.out.len; omega), HX.out.val, HY.out.val])
      have HB := Lib.hid h5
      clear h1 h2 h3 h4 h5 hi I0
      go_wp2_with fail
      refine (trim_any _ _ _ _ _ L.out).mono ?_
      rintro e w' ht
      have g := Lib.hid (ht.gives (W := w) L.out V.out HB.out)
      obtain ⟨k', hk', rfl, _, _, rfl⟩ := ht
      clear hk'
      go_wp2
      go_ret
      exact g.out
end Go.Proofs.YtgmjpkkpkdcncaaDoor
