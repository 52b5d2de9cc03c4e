/- A row of the call's own that it may write, whatever its capacity: no claim of its own. -/
import Derived.Test.YtgmjpkkpkdcncaaDoorOwns
import Derived.Test.YtgmjpkkpkdcncaaDoorLow
import Derived.Test.YtgmjpkkpkdcncaaDoorDiv32
import Derived.WalkSpells
namespace Go.Proofs.YtgmjpkkpkdcncaaDoor
open Go.RowKit
structure Mine (w : World) (B : Nat) (A : Option Addr) (n : Nat) (xs : List Nat) : Prop where
  len : xs.length = n
  lt : ∀ d ∈ xs, d < 4294967296
  mem : 0 < n → ∃ g cur, A = some ⟨g, 0, none⟩ ∧ B ≤ g ∧ w.heap[g]? = some (.cells cur 43 (0, 0)) ∧ n ≤ cur.size ∧ cur.toList.take n = Dg xs
section
variable {w w' : World} {B n g : Nat} {A : Option Addr} {xs : List Nat}
theorem Own.mine {v : Value} (h : Own w B v xs) : ∃ A c, v = .slice A xs.length c ∧ Mine w B A xs.length xs ∧ xs.length ≤ c := by
  rcases h.own.2 with ⟨rfl, h0⟩ | ⟨g, cap, cur, rfl, hg, hh, hc, hm, hsz, ht⟩
  · exact ⟨none, 0, by rw [h0], ⟨rfl, h.lt, fun hp => by omega⟩, by omega⟩
  · exact ⟨some ⟨g, 0, none⟩, cap, rfl, ⟨rfl, h.lt, fun _ => ⟨g, cur, rfl, hg, hh, by omega, by simpa using ht⟩⟩, hc⟩
theorem Mine.at_ (h : Mine w B A n xs) {k : Nat} (hk : k < n) : ∃ g, A = some ⟨g, 0, none⟩ ∧ B ≤ g ∧ w.cell? ⟨g, k, none⟩ = some (.int .u32 ((xs.getD k 0 : Nat) : Int)) ∧ w.frozen? ⟨g, k, none⟩ = false := by
  obtain ⟨g, cur, rfl, hg, hh, hs, ht⟩ := h.mem (by omega)
  refine ⟨g, rfl, hg, ?_, by simp [World.frozen?, hh]⟩
  rw [cell_of_row w g k cur _ (0, 0) hh]
  have e : cur.toList[k]? = (Dg xs)[k]? := by rw [← ht, List.getElem?_take_of_lt hk]
  rw [Array.getElem?_toList] at e
  rw [e, Dg_at xs k (by have := h.len; omega)]
  simp [h.len, hk]
theorem Mine.set (h : Mine w B (some ⟨g, 0, none⟩) n xs) {k : Nat} (hk : k < n) (d : Nat) (hd : d < 4294967296) :
    Mine (w.setCell ⟨g, k, none⟩ (.int .u32 (d : Int))) B (some ⟨g, 0, none⟩) n (xs.set k d) := by
  refine ⟨by simpa using h.len, lt_set h.lt k d hd, fun h0 => ?_⟩
  obtain ⟨g', cur, e, hg, hh, hs, ht⟩ := h.mem h0
  injection e with e
  injection e with e
  subst e
  refine ⟨g, cur.setIfInBounds k (.int .u32 (d : Int)), rfl, hg, heap_setCell_same w g k cur _ _ hh, by simpa using hs, ?_⟩
  rw [Array.toList_setIfInBounds, List.take_set, ht]
  simp [Dg, List.map_set]
theorem Mine.lst (h : Mine w B A n xs) {c : Nat} (hc : n ≤ c) (hn : n ≤ 35184372088832) : Lst w A n c xs := by
  refine ⟨⟨by rw [Dg_length, h.len]; omega, fun h0 => ?_⟩, h.len, hc, hn, h.lt⟩
  obtain ⟨g, cur, rfl, hg, hh, hs, ht⟩ := h.mem h0
  refine ⟨_, rfl, (Array.getElem?_eq_some_iff.1 hh).1, fun j u hu => ?_⟩
  rw [addr_add, Nat.zero_add, cell_of_row w g j cur _ (0, 0) hh]
  have hj : j < n := by
    have := (List.getElem?_eq_some_iff.1 hu).1
    rw [Dg_length, h.len] at this; exact this
  rw [← ht, List.getElem?_take_of_lt hj, Array.getElem?_toList] at hu
  exact hu
theorem Mine.take (h : Mine w B A n xs) {k : Nat} (hk : k ≤ n) : Mine w B A k (xs.take k) := by
  refine ⟨by rw [List.length_take, h.len]; omega, fun d hd => h.lt d (List.mem_of_mem_take hd), fun h0 => ?_⟩
  obtain ⟨g, cur, rfl, hg, hh, hs, ht⟩ := h.mem (by omega)
  refine ⟨g, cur, rfl, hg, hh, by omega, ?_⟩
  rw [← Dg_take, ← ht, List.take_take, Nat.min_eq_left hk]
theorem Mine.keep (h : Mine w B A n xs) {C : Nat} (hb : Below C w w') (hC : w.heap.size ≤ C) : Mine w' B A n xs := by
  refine ⟨h.len, h.lt, fun h0 => ?_⟩
  obtain ⟨g, cur, rfl, hg, hh, hs, ht⟩ := h.mem h0
  exact ⟨g, cur, rfl, hg, by rw [hb.block g (by have := (Array.getElem?_eq_some_iff.1 hh).1; omega)]; exact hh, hs, ht⟩
theorem Mine.drewN (h : Mine w B A n xs) (q : Nat) : Mine (w.drewN q) B A n xs := ⟨h.len, h.lt, h.mem⟩
end
/-- What the division has done: digits from k on are divided, r is the rest. -/
def DivInv (A : Option Addr) (n y : Nat) (xs : List Nat) (w : World) (B k r : Nat) (wr : World) : Prop :=
  ∃ cur, Mine wr B A n cur ∧ (Below B w wr ∧ w.grownBy wr (A.map (·.block))) ∧ (∀ j, j < k → cur.getD j 0 = xs.getD j 0) ∧ dval (xs.drop k) = y * dval (cur.drop k) + r
theorem dval_drop (xs : List Nat) (k : Nat) (hk : k < xs.length) : dval (xs.drop k) = xs.getD k 0 + 4294967296 * dval (xs.drop (k + 1)) := by
  rw [List.drop_eq_getElem_cons hk]
  simp [dval, hk]
theorem DivInv.step {n y g : Nat} {xs : List Nat} {w wr : World} {B k r x : Nat} (h : DivInv (some ⟨g, 0, none⟩) n y xs w B (k + 1) r wr) (hn : xs.length = n) (hk : k < n) (hg : B ≤ g) (hx : xs.getD k 0 = x) (hry : r < y) (q : Nat) :
    DivInv (some ⟨g, 0, none⟩) n y xs w B k ((r * 4294967296 + x) % y) ((wr.drewN q).setCell ⟨g, k, none⟩ (.int .u32 (((r * 4294967296 + x) / y : Nat) : Int))) := by
  obtain ⟨cur, hm, hb, hu, hv⟩ := h
  have hxl : x < 4294967296 := by rw [← hx, ← hu k (by omega)]; exact getD_lt_of hm.lt k
  have hq := div_lt_of r x y hry hxl
  have hl := hm.len
  refine ⟨cur.set k ((r * 4294967296 + x) / y), (hm.drewN q).set hk _ hq, ⟨(below_drewN hb.1 q).setCell hg _, grown_trans (grown_trans hb.2 (grown_drewN _ _ _)) (grown_set _ _ _ _)⟩, fun j hj => ?_, ?_⟩
  · rw [getD_set _ _ _ _ (by omega), if_neg (by omega)]; exact hu j (by omega)
  · rw [dval_drop xs k (by omega), hx, hv, dval_drop (cur.set k _) k (by simp; omega), getD_set _ _ _ _ (by omega), if_pos rfl]
    rw [List.drop_set_of_lt (by omega)]
    have h2 := Nat.div_add_mod (r * 4294967296 + x) y
    generalize (r * 4294967296 + x) / y = Q at *
    generalize (r * 4294967296 + x) % y = R at *
    generalize dval (List.drop (k + 1) cur) = D at *
    grind
/-- What divideByDigit leaves. -/
def Divides (A : Option Addr) (n y : Nat) (xs : List Nat) (B : Nat) (w : World) (e : Ending) (w' : World) : Prop :=
  ∃ cur, e = .returned (.int .u32 ((dval xs % y : Nat) : Int)) ∧ Mine w' B A n cur ∧ (Below B w w' ∧ w.grownBy w' (A.map (·.block))) ∧ dval cur = dval xs / y
theorem DivInv.fin {A : Option Addr} {n y : Nat} {xs : List Nat} {w wr : World} {B r : Nat} (h : DivInv A n y xs w B 0 r wr) (hr : r < y) : Divides A n y xs B w (.returned (.int .u32 (r : Int))) wr := by
  obtain ⟨cur, hm, hb, hu, hv⟩ := h
  simp only [List.drop_zero] at hv
  have hd : dval cur = dval xs / y := by
    rw [hv, Nat.mul_add_div (by omega), Nat.div_eq_of_lt hr]; rfl
  have hmod : dval xs % y = r := by
    rw [hv, Nat.mul_add_mod, Nat.mod_eq_of_lt hr]
  exact ⟨cur, by rw [hmod], hm, hb, hd⟩
set_option maxRecDepth 100000 in
set_option maxHeartbeats 1000000 in
theorem divideByDigit_any (A : Option Addr) (n c y : Nat) (xs : List Nat) (w : World) (B : Nat) (h : Mine w B A n xs) (hn : n ≤ 35184372088832) (hB : B ≤ w.heap.size) (hy : 0 < y) (hy2 : y < 4294967296) :
    Calls Tryd.prog 46 #[.slice A n c, .int .u32 y] w (Divides A n y xs B w) := by
  have H := Lib.hid h
  have I0 : Hid (DivInv A n y xs w B n 0 w) := Lib.hid ⟨xs, h, ⟨Below.refl _ _, ⟨rfl, rfl, rfl, Nat.le_refl _, fun _ _ _ => rfl⟩⟩, fun _ _ => rfl, by rw [List.drop_eq_nil_of_le (by have := h.len; omega)]; rfl⟩
  clear h
  go_enter Tryd.func46, Tryd.ntmps46
  go_wp2
  go_loopw [5, 6] (fun rv i wr => ∃ k r : Nat, k ≤ n ∧ r < y ∧ i = .int .i64 ((k : Int) - 1) ∧ rv = .int .u32 r ∧ Hid (DivInv A n y xs w B k r wr)) (fun _ i _ => (intOf i + 1).toNat)
  case atStart => exact ⟨n, 0, by omega, hy, by go_num, rfl, I0⟩
  case round =>
    obtain ⟨k, r, hk, hr, rfl, rfl, hi⟩ := hrel
    rcases k with _ | k
    · have F := Lib.hid (hi.out.fin hr)
      clear hi I0
      go_wp2
      go_ret
      exact F.out
    · obtain ⟨g, rfl, hg, hcell, hfz, hx, F⟩ : ∃ g, A = some ⟨g, 0, none⟩ ∧ B ≤ g ∧ wr.cell? ⟨g, k, none⟩ = some (.int .u32 ((xs.getD k 0 : Nat) : Int)) ∧ wr.frozen? ⟨g, k, none⟩ = false ∧ xs.getD k 0 < 4294967296 ∧ True := by
        obtain ⟨cur, hm, hb, hu, hv⟩ := hi.out
        obtain ⟨g, rfl, hg, hc, hf⟩ := hm.at_ (k := k) (by omega)
        rw [hu k (by omega)] at hc
        exact ⟨g, rfl, hg, hc, hf, by rw [← hu k (by omega)]; exact getD_lt_of hm.lt k, trivial⟩
      obtain ⟨x, hxe⟩ : ∃ x, xs.getD k 0 = x := ⟨_, rfl⟩
      have S := fun q => Lib.hid (hi.out.step H.out.len (by omega) hg hxe hr q)
      rw [hxe] at hcell hx
      have hm : (r * 4294967296 + x) % y < y := Nat.mod_lt _ (by omega)
      have D := Lib.hid (fun w' => div32_any r x y w' hr hx hy2)
      clear hxe hi I0 F
      go_wp2_with fail
      refine (D.out _).mono ?_
      rintro e w' ⟨rfl, q, rfl⟩
      generalize (r * 4294967296 + x) % y = R at *
      generalize (r * 4294967296 + x) / y = Q at *
      go_wp2
      go_roundw
      case rel => exact ⟨k, R, by omega, hm, by go_num, rfl, S _⟩
      case measure => simp [intOf]; try omega
end Go.Proofs.YtgmjpkkpkdcncaaDoor
