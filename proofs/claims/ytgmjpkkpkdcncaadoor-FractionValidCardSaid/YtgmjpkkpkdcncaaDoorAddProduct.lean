/- The contract of natural.addProduct: no claim of its own. -/
import Derived.Test.YtgmjpkkpkdcncaaDoorBase
import Derived.IntWalk
namespace Go.Proofs.YtgmjpkkpkdcncaaDoor
open Go.RowKit
/-- The window afterwards holds what it held and ys times f. -/
def AddsProduct (g : Nat) (pre win post ys : List Nat) (f : Nat) (w : World) (e : Ending) (w' : World) : Prop :=
  ∃ win', e = .returned (.tuple #[]) ∧ Win w' g pre win' post ∧ win'.length = win.length ∧ dval win' = dval win + f * dval ys ∧ w.grownBy w' (some g)
/-- What holds after k digits. -/
def ProdInv (g n : Nat) (pre win post ys : List Nat) (f : Nat) (w : World) (k c : Nat) (wr : World) : Prop :=
  ∃ cur, Win wr g pre cur post ∧ cur.length = n ∧ win.length = n ∧ w.grownBy wr (some g) ∧ (∀ j, k ≤ j → cur.getD j 0 = win.getD j 0) ∧ dval cur + 4294967296 ^ k * c = dval win + f * dval (ys.take k)
theorem ProdInv.drewN {g n : Nat} {pre win post ys : List Nat} {f : Nat} {w wr : World} {k c : Nat} (h : ProdInv g n pre win post ys f w k c wr) (q : Nat) : ProdInv g n pre win post ys f w k c (wr.drewN q) := by
  obtain ⟨cur, hw, hn, hm, hg, hu, hv⟩ := h
  exact ⟨cur, hw.drewN q, hn, hm, grown_trans hg (grown_drewN _ _ _), hu, hv⟩
theorem ProdInv.step {g n off : Nat} {pre win post ys : List Nat} {f : Nat} {w wr : World} {k c : Nat} (h : ProdInv g n pre win post ys f w k c wr) (ho : pre.length = off) (hk : k < n) (y x : Nat) (hx : win.getD k 0 = x) (hy : dval (ys.take (k + 1)) = dval (ys.take k) + 4294967296 ^ k * y) (u : Int) (hu : u = (((c + (x + y * f)) % 4294967296 : Nat) : Int)) :
    ProdInv g n pre win post ys f w (k + 1) ((c + (x + y * f)) / 4294967296) (wr.setCell ⟨g, off + k, none⟩ (.int .u32 u)) := by
  subst hu
  obtain ⟨cur, hw, hn, hm, hg, hu, hv⟩ := h
  refine ⟨cur.set k ((c + (x + y * f)) % 4294967296), hw.set ho (by omega) _ (Nat.mod_lt _ (by decide)), by simpa using hn, hm, grown_trans hg (grown_set _ _ _ _), fun j hj => ?_, ?_⟩
  · rw [getD_set _ _ _ _ (by omega), if_neg (by omega)]; exact hu j (by omega)
  · have h1 := dval_set cur k ((c + (x + y * f)) % 4294967296) (by omega)
    rw [hu k (Nat.le_refl _), hx] at h1
    have h2 := Nat.div_add_mod (c + (x + y * f)) 4294967296
    rw [hy, Nat.pow_succ]
    generalize (c + (x + y * f)) % 4294967296 = r at *
    generalize (c + (x + y * f)) / 4294967296 = q at *
    generalize 4294967296 ^ k = P at *
    grind
theorem ProdInv.fin {g n off m : Nat} {pre win post ys : List Nat} {f : Nat} {w wr : World} {c : Nat} (h : ProdInv g n pre win post ys f w m c wr) (ho : pre.length = off) (hn : n = m + 1) (hc : c < 4294967296) (hz : win.getD m 0 = 0) (hy : ys.length = m) :
    AddsProduct g pre win post ys f w (.returned (.tuple #[])) (wr.setCell ⟨g, off + m, none⟩ (.int .u32 (c : Int))) := by
  obtain ⟨cur, hw, hl, hm, hg, hu, hv⟩ := h
  rw [List.take_of_length_le (by omega)] at hv
  refine ⟨cur.set m c, rfl, hw.set ho (by omega) _ hc, by simp; omega, ?_, grown_trans hg (grown_set _ _ _ _)⟩
  have h1 := dval_set cur m c (by omega)
  rw [hu m (Nat.le_refl _), hz] at h1
  omega
set_option maxRecDepth 100000 in
set_option maxHeartbeats 1000000 in
theorem addProduct_any (g off n c m d f : Nat) (B : Option Addr) (pre win post ys : List Nat) (w : World) (hw : Win w g pre win post) (ho : pre.length = off) (hn : win.length = n) (hc : n ≤ c) (hr : c ≤ 35184372088832)
    (hy : Lst w B m d ys) (hne : 0 < m → ∀ ad, B = some ad → ad.block ≠ g) (hm : n = m + 1) (hf : f < 4294967296) (hz : win.getD m 0 = 0) :
    Calls Tryd.prog 40 #[.slice (some ⟨g, off, none⟩) n c, .slice B m d, .int .u32 f] w (AddsProduct g pre win post ys f w) := by
  have H0 : Hid (ProdInv g n pre win post ys f w 0 0 w) := Lib.hid ⟨win, hw, hn, hn, ⟨rfl, rfl, rfl, Nat.le_refl _, fun _ _ _ => rfl⟩, fun _ _ => rfl, by simp [dval]⟩
  have HY := Lib.hid hy
  have HO := Lib.hid ho
  have HN := Lib.hid hne
  have HZ := Lib.hid hz
  have HM := Lib.hid hm
  have hmn : m < n := by omega
  have hnm : n ≤ m + 1 := by omega
  clear hy ho hne hw hn hz hm
  go_enter Tryd.func40, Tryd.ntmps40
  go_wp2
  go_loopw [6, 10] (fun cv i wr => ∃ k cy : Nat, k ≤ m ∧ cy < 4294967296 ∧ i = .int .i64 k ∧ cv = .int .u64 cy ∧ Hid (ProdInv g n pre win post ys f w k cy wr)) (fun _ i _ => m - (intOf i).toNat)
  case atStart => exact ⟨0, 0, by omega, by omega, rfl, rfl, H0⟩
  case round =>
    obtain ⟨k, cy, hk, hcy, rfl, rfl, hi⟩ := hrel
    by_cases hlt : k < m
    · obtain ⟨hcell, hfz, hx, hy2, L⟩ : wr.cell? ⟨g, off + k, none⟩ = some (.int .u32 ((win.getD k 0 : Nat) : Int)) ∧ wr.frozen? ⟨g, off + k, none⟩ = false ∧ win.getD k 0 < 4294967296 ∧ Hid (dval (ys.take (k + 1)) = dval (ys.take k) + 4294967296 ^ k * ys.getD k 0) ∧ Lst wr B m d ys := by
          obtain ⟨cur, hw, h1, h2, hg, hu, hv⟩ := hi.out
          have e := hu k (Nat.le_refl _)
          exact ⟨by rw [hw.cell HO.out (by omega), e], hw.frozen _, by rw [← e]; exact getD_lt_of hw.lt k, Lib.hid (dval_take_succ ys k (by rw [HY.out.len]; exact hlt)), HY.out.off hg HN.out⟩
      have hyl := L.getD_lt k
      obtain ⟨ad, rfl, hb, hyc⟩ := L.at_ hlt
      obtain ⟨x, hxe⟩ : ∃ x, win.getD k 0 = x := ⟨_, rfl⟩
      have R := fun q => Lib.hid ((hi.out.drewN q).step HO.out (by omega) _ x hxe hy2.out (((cy : Int) + ((x : Int) + ((ys.getD k 0 : Nat) : Int) * (f : Int))) % 4294967296) (by omega))
      rw [hxe] at hcell hx
      clear L hy2 hb hi H0 hxe
      generalize ys.getD k 0 = y at *
      have hp : (y : Int) * (f : Int) ≤ 18446744065119617025 := by
        have := Nat.mul_le_mul (show y ≤ 4294967295 by omega) (show f ≤ 4294967295 by omega)
        have e : ((y * f : Nat) : Int) = (y : Int) * (f : Int) := Int.natCast_mul _ _
        omega
      have hp0 : 0 ≤ (y : Int) * (f : Int) := Int.mul_nonneg (by omega) (by omega)
      have hd : (cy + (x + y * f)) / 4294967296 < 4294967296 := by
        have e : ((y * f : Nat) : Int) = (y : Int) * (f : Int) := Int.natCast_mul _ _
        omega
      go_wp2
      go_quiet (fail)
      go_wp2
      go_roundw
      case rel => exact ⟨k + 1, (cy + (x + y * f)) / 4294967296, by omega, hd, by go_num, by go_num, R _⟩
      case measure => simp [intOf]; omega
    · obtain rfl : k = m := by omega
      have F := Lib.hid (hi.out.fin HO.out HM.out hcy HZ.out HY.out.len)
      obtain ⟨hfz, hcell⟩ : wr.frozen? ⟨g, off + k, none⟩ = false ∧ wr.cell? ⟨g, off + k, none⟩ = some (.int .u32 ((win.getD k 0 : Nat) : Int)) := by
        obtain ⟨cur, hw, h1, h2, hg, hu, hv⟩ := hi.out
        exact ⟨hw.frozen _, by rw [hw.cell HO.out (by omega), hu k (Nat.le_refl _)]⟩
      generalize win.getD k 0 = z at hcell
      clear hi H0
      go_wp2
      go_end0
      have h := F.out
      exact h
end Go.Proofs.YtgmjpkkpkdcncaaDoor
