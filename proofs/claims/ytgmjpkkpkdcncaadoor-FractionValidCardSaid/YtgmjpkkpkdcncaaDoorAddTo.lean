/- The contract of natural.addTo: no claim of its own. -/
import Derived.Test.YtgmjpkkpkdcncaaDoorBase
namespace Go.Proofs.YtgmjpkkpkdcncaaDoor
open Go.RowKit
/-- The window afterwards holds the sum; the carry out of it is lost. -/
def AddsTo (g : Nat) (pre win post ys : List Nat) (w : World) (e : Ending) (w' : World) : Prop :=
  ∃ win' c, e = .returned (.tuple #[]) ∧ Win w' g pre win' post ∧ win'.length = win.length ∧ c ≤ 1 ∧ dval win' + 4294967296 ^ win.length * c = dval win + dval ys ∧ w.grownBy w' (some g)
/-- What holds after k digits. -/
def AddInv (g n : Nat) (pre win post ys : List Nat) (w : World) (k c : Nat) (wr : World) : Prop :=
  ∃ cur, Win wr g pre cur post ∧ cur.length = n ∧ win.length = n ∧ w.grownBy wr (some g) ∧ (∀ j, k ≤ j → cur.getD j 0 = win.getD j 0) ∧ dval cur + 4294967296 ^ k * c = dval win + dval (ys.take k)
theorem AddInv.step {g n off : Nat} {pre win post ys : List Nat} {w wr : World} {k c : Nat} (h : AddInv g n pre win post ys w k c wr) (ho : pre.length = off) (hk : k < n) (y : Nat) (hy : dval (ys.take (k + 1)) = dval (ys.take k) + 4294967296 ^ k * y) :
    AddInv g n pre win post ys w (k + 1) ((c + y + win.getD k 0) / 4294967296) (wr.setCell ⟨g, off + k, none⟩ (.int .u32 (((c + y + win.getD k 0) % 4294967296 : Nat) : Int))) := by
  obtain ⟨cur, hw, hn, hm, hg, hu, hv⟩ := h
  refine ⟨cur.set k ((c + y + win.getD k 0) % 4294967296), hw.set ho (by omega) _ (Nat.mod_lt _ (by decide)), by simpa using hn, hm, grown_trans hg (grown_set _ _ _ _), fun j hj => ?_, ?_⟩
  · rw [getD_set _ _ _ _ (by omega), if_neg (by omega)]; exact hu j (by omega)
  · have h1 := dval_set cur k ((c + y + win.getD k 0) % 4294967296) (by omega)
    rw [hu k (Nat.le_refl _)] at h1
    have h2 := Nat.div_add_mod (c + y + win.getD k 0) 4294967296
    rw [hy, Nat.pow_succ]
    generalize (c + y + win.getD k 0) % 4294967296 = r at *
    generalize (c + y + win.getD k 0) / 4294967296 = q at *
    generalize 4294967296 ^ k = P at *
    generalize win.getD k 0 = x at *
    grind
theorem AddInv.fin {g n : Nat} {pre win post ys : List Nat} {w wr : World} {k c : Nat} (h : AddInv g n pre win post ys w k c wr) (hc : c ≤ 1) (hk : k = n ∨ c = 0) (hy : ys.length ≤ k) :
    AddsTo g pre win post ys w (.returned (.tuple #[])) wr := by
  obtain ⟨cur, hw, hn, hm, hg, hu, hv⟩ := h
  rw [List.take_of_length_le hy] at hv
  refine ⟨cur, c, rfl, hw, by omega, hc, ?_, hg⟩
  rcases hk with rfl | rfl
  · rw [hm]; exact hv
  · simpa using hv
set_option maxRecDepth 100000 in
set_option maxHeartbeats 1000000 in
theorem addTo_any (g off n c m d : Nat) (B : Option Addr) (pre win post ys : List Nat) (w : World) (hw : Win w g pre win post) (ho : pre.length = off) (hn : win.length = n) (hc : n ≤ c) (hr : c ≤ 35184372088832)
    (hy : Lst w B m d ys) (hne : 0 < m → ∀ ad, B = some ad → ad.block ≠ g) (hm : m ≤ n) :
    Calls Tryd.prog 39 #[.slice (some ⟨g, off, none⟩) n c, .slice B m d] w (AddsTo g pre win post ys w) := by
  have H0 : Hid (AddInv g n pre win post ys w 0 0 w) := Lib.hid ⟨win, hw, hn, hn, ⟨rfl, rfl, rfl, Nat.le_refl _, fun _ _ _ => rfl⟩, fun _ _ => rfl, by simp [dval]⟩
  have HY := Lib.hid hy
  have HO := Lib.hid ho
  have HN := Lib.hid hne
  clear hy ho hne hw hn
  go_enter Tryd.func39, Tryd.ntmps39
  go_wp2
  go_loopw [4, 8] (fun cv i wr => ∃ k cy : Nat, k ≤ n ∧ cy ≤ 1 ∧ i = .int .i64 k ∧ cv = .int .u64 cy ∧ Hid (AddInv g n pre win post ys w k cy wr)) (fun _ i _ => n - (intOf i).toNat)
  case atStart => exact ⟨0, 0, by omega, by omega, rfl, rfl, H0⟩
  case round =>
    obtain ⟨k, cy, hk, hcy, rfl, rfl, hi⟩ := hrel
    by_cases hlt : k < n
    · by_cases hkm : k < m
      · obtain ⟨hcell, hfz, hx, hy2, L⟩ : wr.cell? ⟨g, off + k, none⟩ = some (.int .u32 ((win.getD k 0 : Nat) : Int)) ∧ wr.frozen? ⟨g, off + k, none⟩ = false ∧ win.getD k 0 < 4294967296 ∧ Hid (dval (ys.take (k + 1)) = dval (ys.take k) + 4294967296 ^ k * ys.getD k 0) ∧ Lst wr B m d ys := by
          obtain ⟨cur, hw, h1, h2, hg, hu, hv⟩ := hi.out
          have e := hu k (Nat.le_refl _)
          exact ⟨by rw [hw.cell HO.out (by omega), e], hw.frozen _, by rw [← e]; exact getD_lt_of hw.lt k, Lib.hid (dval_take_succ ys k (by rw [HY.out.len]; exact hkm)), HY.out.off hg HN.out⟩
        have hyl := L.getD_lt k
        obtain ⟨ad, rfl, hb, hyc⟩ := L.at_ hkm
        have R := Lib.hid (hi.out.step HO.out hlt _ hy2.out)
        clear L hy2 hb hi H0
        generalize win.getD k 0 = x at *
        generalize ys.getD k 0 = y at *
        go_wp2
        go_roundw
        case rel => exact ⟨k + 1, (cy + y + x) / 4294967296, by omega, by omega, by go_num, by go_num, Lib.hid (by have h := R.out; rw [show (((cy + y + x) % 4294967296 : Nat) : Int) = ((cy : Int) + (y : Int) + (x : Int)) % 4294967296 from by omega] at h; exact h)⟩
        case measure => simp [intOf]; omega
      · by_cases hz : cy = 0
        · subst hz
          have F := Lib.hid (hi.out.fin (by omega) (.inr rfl) (by rw [HY.out.len]; omega))
          clear hi H0
          go_wp2
          go_end0
          exact F.out
        · have hzb : ((cy : Int) == 0) = false := by simpa using hz
          obtain rfl : cy = 1 := by omega
          obtain ⟨hcell, hfz, hx, hy2⟩ : wr.cell? ⟨g, off + k, none⟩ = some (.int .u32 ((win.getD k 0 : Nat) : Int)) ∧ wr.frozen? ⟨g, off + k, none⟩ = false ∧ win.getD k 0 < 4294967296 ∧ Hid (dval (ys.take (k + 1)) = dval (ys.take k) + 4294967296 ^ k * 0) := by
            obtain ⟨cur, hw, h1, h2, hg, hu, hv⟩ := hi.out
            have e := hu k (Nat.le_refl _)
            have hl := HY.out.len
            exact ⟨by rw [hw.cell HO.out (by omega), e], hw.frozen _, by rw [← e]; exact getD_lt_of hw.lt k, Lib.hid (by rw [List.take_of_length_le (by omega), List.take_of_length_le (by omega)]; omega)⟩
          have R := Lib.hid (hi.out.step HO.out hlt _ hy2.out)
          clear hy2 hi H0 hz
          generalize win.getD k 0 = x at *
          go_wp2
          go_roundw
          case rel => exact ⟨k + 1, (1 + 0 + x) / 4294967296, by omega, by omega, by go_num, by go_num, Lib.hid (by have h := R.out; rw [show (((1 + 0 + x) % 4294967296 : Nat) : Int) = (1 + (x : Int)) % 4294967296 from by omega] at h; exact h)⟩
          case measure => simp [intOf]; omega
    · have F := Lib.hid (hi.out.fin hcy (.inl (by omega)) (by rw [HY.out.len]; omega))
      clear hi H0
      go_wp2
      go_end0
      exact F.out
end Go.Proofs.YtgmjpkkpkdcncaaDoor
