/- Contracts of natural.shiftLeft and shiftRight: no claim of its own. -/
import Derived.Test.YtbllnkhbahenkaaGreatDoorBase
import Derived.Test.YtbllnkhbahenkaaGreatDoorOwns
import Derived.Test.YtbllnkhbahenkaaGreatDoorMaths
import Derived.IntWalk
import Derived.Test.YtbllnkhbahenkaaGreatDoorDivS
namespace Go.Proofs.YtbllnkhbahenkaaGreatDoor
open Go.RowKit
def ShlInv (g n s : Nat) (xs : List Nat) (w : World) (k c : Nat) (wr : World) : Prop :=
  ∃ row, Win wr g [] row [] ∧ row.length = n + 1 ∧ dval row + 4294967296 ^ k * c = 2 ^ s * dval (xs.take k) ∧ (∀ j, k ≤ j → row.getD j 0 = 0) ∧ Below w.heap.size w wr
theorem pow_lt32 (s : Nat) (hs : s < 32) : 2 ^ s ≤ 2147483648 := by
  have : (2 : Nat) ^ s ≤ 2 ^ 31 := Nat.pow_le_pow_right (by decide) (by omega)
  omega
theorem shl_lt (x s : Nat) (hx : x < 4294967296) (hs : s < 32) : x * 2 ^ s < 9223372036854775808 := by
  have h1 := pow_lt32 s hs
  have h2 : x * 2 ^ s ≤ 4294967295 * 2147483648 := Nat.mul_le_mul (by omega) h1
  omega
theorem bits_or_shift (c x s : Nat) (hc : c < 2 ^ s) (hx : x < 4294967296) (hs : s < 32) : bits BinOp.or IntKind.u64 (c : Int) (IntKind.u64.wrap ((x : Int) * 2 ^ s)) = ((c + x * 2 ^ s : Nat) : Int) := by
  have h0 := shl_lt x s hx hs
  have h1 := pow_lt32 s hs
  have e : (x : Int) * 2 ^ s = ((x * 2 ^ s : Nat) : Int) := by rw [Int.natCast_mul, Int.natCast_pow]; rfl
  rw [e, wrap_u64 _ (by omega), bits_or_u64 _ _ (by omega) (by omega), Nat.or_comm, Nat.mul_comm x, ← Nat.two_pow_add_eq_or_of_lt hc, Nat.add_comm]
theorem shl_carry (c x s : Nat) (hc : c < 2 ^ s) (hx : x < 4294967296) : (c + x * 2 ^ s) / 4294967296 < 2 ^ s := by
  rw [Nat.div_lt_iff_lt_mul (by decide)]
  have : (x + 1) * 2 ^ s ≤ 4294967296 * 2 ^ s := Nat.mul_le_mul_right _ hx
  rw [Nat.add_mul, Nat.one_mul] at this
  rw [Nat.mul_comm (2 ^ s)]
  omega
theorem ShlInv.step {g n s : Nat} {xs : List Nat} {w wr : World} {k c x : Nat} (h : ShlInv g n s xs w k c wr) (hk : k < n) (hg : w.heap.size ≤ g) (hx : xs.getD k 0 = x) (u : Int) (hu : u = (((c + x * 2 ^ s) % 4294967296 : Nat) : Int)) :
    ShlInv g n s xs w (k + 1) ((c + x * 2 ^ s) / 4294967296) (wr.setCell ⟨g, k, none⟩ (.int .u32 u)) := by
  subst hu
  obtain ⟨row, h1, h2, h3, h4, h5⟩ := h
  have hw := h1.set (off := 0) rfl (k := k) (by omega) ((c + x * 2 ^ s) % 4294967296) (Nat.mod_lt _ (by decide))
  rw [Nat.zero_add] at hw
  refine ⟨_, hw, by simpa using h2, ?_, fun j hj => ?_, h5.setCell (by simpa using hg) _⟩
  · have e := dval_set row k ((c + x * 2 ^ s) % 4294967296) (by omega)
    rw [h4 k (Nat.le_refl _)] at e
    rw [dval_take_succ', hx, Nat.pow_succ]
    have h6 := Nat.div_add_mod (c + x * 2 ^ s) 4294967296
    generalize (c + x * 2 ^ s) / 4294967296 = q at *
    generalize (c + x * 2 ^ s) % 4294967296 = r at *
    generalize 4294967296 ^ k = P at *
    generalize 2 ^ s = S at *
    grind
  · rw [getD_set _ _ _ _ (by omega), if_neg (by omega)]; exact h4 j (by omega)
/-- A row of the call's own, n + 1 digits long, that holds 2^s times what xs holds. -/
def Shifts (n s : Nat) (xs : List Nat) (w : World) (e : Ending) (w' : World) : Prop :=
  ∃ row, e = .returned (.slice (some ⟨w.heap.size, 0, none⟩) (n + 1) (n + 1)) ∧ Win w' w.heap.size [] row [] ∧ row.length = n + 1 ∧ dval row = 2 ^ s * dval xs ∧ Below w.heap.size w w'
theorem ShlInv.fin {n s : Nat} {xs : List Nat} {w wr : World} {c : Nat} (h : ShlInv w.heap.size n s xs w n c wr) (hs : s < 32) (hc : c < 2 ^ s) (hx : xs.length = n) (u : Int) (hu : u = (c : Int)) :
    Shifts n s xs w (.returned (.slice (some ⟨w.heap.size, 0, none⟩) (n + 1) (n + 1))) (wr.setCell ⟨w.heap.size, n, none⟩ (.int .u32 u)) := by
  subst hu
  have h0 := pow_lt32 s hs
  obtain ⟨row, h1, h2, h3, h4, h5⟩ := h
  have hw := h1.set (off := 0) rfl (k := n) (by omega) c (by omega)
  rw [Nat.zero_add] at hw
  refine ⟨_, rfl, hw, by simpa using h2, ?_, h5.setCell (by simp) _⟩
  have e := dval_set row n c (by omega)
  rw [h4 n (Nat.le_refl _)] at e
  rw [List.take_of_length_le (by omega)] at h3
  omega
set_option maxRecDepth 100000 in
set_option maxHeartbeats 1000000 in
theorem shiftLeft_any (A : Option Addr) (n c s : Nat) (xs : List Nat) (w : World) (h : Lst w A n c xs) (hn : n ≤ 1000000) (hs : s < 32) :
    Calls Tryz.prog 131 #[.slice A n c, .int .i64 s] w (Shifts n s xs w) := by
  obtain ⟨i0, hi0, hz0, hz1, hz2⟩ := info_parts infoU32
  have HX := Lib.hid h
  clear h
  go_enter Tryz.func131, Tryz.ntmps131
  go_wp2_with (at_make; refine wpList_make_full _ rfl _ _ 23 rfl w.heap.size 52 i0 (.int .u32 0) 1 Tryz.underlying23 hi0 hz0 hz1 _ _ _ _ (n + 1) rfl rfl (by omega) (by omega) ?b2 ?b3 (Nat.le_refl _) ?_)
  case b2 => rw [hz2]; omega
  case b3 => unfold maxLen; omega
  intro w1 hown hgrow
  have hw1 := made_win hown
  have I0 : Hid (ShlInv w.heap.size n s xs w 0 0 w1) := Lib.hid ⟨_, hw1, by simp, by simp [dval_replicate, dval], fun j _ => getD_replicate _ _, (Below.refl _ _).grown hgrow (Nat.le_refl _) (by intro k hk; cases hk)⟩
  clear hown hgrow hw1
  go_wp2
  go_loopw [6, 14] (fun cv i wr => ∃ k cy : Nat, k ≤ n ∧ cy < 2 ^ s ∧ cv = .int .u64 cy ∧ i = .int .i64 k ∧ Hid (ShlInv w.heap.size n s xs w k cy wr)) (fun _ i _ => n - (intOf i).toNat)
  case atStart => exact ⟨0, 0, by omega, Nat.pow_pos (by decide), rfl, rfl, I0⟩
  case round =>
    obtain ⟨k, cy, hk, hcy, rfl, rfl, hi⟩ := hrel
    by_cases hlt : k < n
    · obtain ⟨row, h1, h2, h3, h4, h5⟩ := hi.out
      obtain ⟨ad, rfl, _, hcell⟩ := (HX.out.keep h5).at_ hlt
      have hx := HX.out.getD_lt k
      have hc2 := h1.cell (off := 0) rfl (k := k) (by omega)
      have hf2 := h1.frozen k
      rw [Nat.zero_add] at hc2
      obtain ⟨x, hxe⟩ : ∃ x, xs.getD k 0 = x := ⟨_, rfl⟩
      rw [hxe] at hx hcell
      have S := fun u hu => Lib.hid (hi.out.step hlt (Nat.le_refl _) hxe u hu)
      have hor := bits_or_shift cy x s hcy hx hs
      have hcar := shl_carry cy x s hcy hx
      have hTl := shl_lt x s hx hs
      have h2s := pow_lt32 s hs
      obtain ⟨T, hT⟩ : ∃ T, cy + x * 2 ^ s = T := ⟨_, rfl⟩
      rw [hT] at hor hcar S
      have hTb : T < 18446744073709551616 := by omega
      have hC := Lib.hid hcar
      clear h1 h2 h3 h4 h5 hxe hi hT hcar hTl I0
      go_wp2
      go_roundw
      case rel => exact ⟨k + 1, T / 4294967296, by omega, hC.out, by go_num, by go_num, S _ (by omega)⟩
      case measure => simp [intOf]; omega
    · obtain rfl : k = n := by omega
      have h2s := pow_lt32 s hs
      have F := fun u hu => Lib.hid (hi.out.fin hs hcy HX.out.len u hu)
      obtain ⟨row, h1, h2, h3, h4, h5⟩ := hi.out
      have hc2 := h1.cell (off := 0) rfl (k := k) (by omega)
      have hf2 := h1.frozen k
      rw [Nat.zero_add] at hc2
      clear h1 h2 h3 h4 h5 hi I0
      go_wp2
      go_ret
      exact (F _ (by omega)).out
end Go.Proofs.YtbllnkhbahenkaaGreatDoor
/- The contract of natural.shiftRight: no claim of its own. -/
namespace Go.Proofs.YtbllnkhbahenkaaGreatDoor
open Go.RowKit
theorem shr_step (V x h s : Nat) (hV : V % 4294967296 = h) (hx : x < 4294967296) (hs : s < 32) : (h * 4294967296 + x) / 2 ^ s % 4294967296 + 4294967296 * (V / 2 ^ s) = (x + 4294967296 * V) / 2 ^ s := by
  have e := mod_div_mod (x + 4294967296 * V) s 64 32 (by omega)
  have e2 : (x + 4294967296 * V) % 2 ^ 64 = h * 4294967296 + x := by
    have e3 : (2 : Nat) ^ 64 = 4294967296 * 4294967296 := by decide
    rw [e3, Nat.mod_mul, Nat.add_mul_mod_self_left, Nat.mod_eq_of_lt hx, Nat.add_mul_div_left _ _ (by decide), Nat.div_eq_of_lt hx, Nat.zero_add, hV]
    omega
  rw [e2, ← base2] at e
  rw [e]
  have e4 : (x + 4294967296 * V) / 2 ^ s / 4294967296 = V / 2 ^ s := by
    rw [Nat.div_div_eq_div_mul, Nat.mul_comm (2 ^ s) 4294967296, ← Nat.div_div_eq_div_mul, Nat.add_mul_div_left _ _ (by decide), Nat.div_eq_of_lt hx, Nat.zero_add]
  have := Nat.mod_add_div ((x + 4294967296 * V) / 2 ^ s) 4294967296
  rw [e4] at this
  exact this
def ShrInv (g n s : Nat) (win post : List Nat) (w : World) (k h : Nat) (wr : World) : Prop :=
  ∃ cur, Win wr g [] cur post ∧ cur.length = n ∧ win.length = n ∧ w.grownBy wr (some g) ∧ (∀ j, j < k → cur.getD j 0 = win.getD j 0) ∧ dval (cur.drop k) = dval (win.drop k) / 2 ^ s ∧ dval (win.drop k) % 4294967296 = h
/-- The row afterwards holds its value divided by 2^s. -/
def ShiftsRight (g s : Nat) (win post : List Nat) (w : World) (e : Ending) (w' : World) : Prop :=
  ∃ win', e = .returned (.tuple #[]) ∧ Win w' g [] win' post ∧ win'.length = win.length ∧ dval win' = dval win / 2 ^ s ∧ w.grownBy w' (some g)
theorem ShrInv.step {g n s : Nat} {win post : List Nat} {w wr : World} {k h x : Nat} (hi : ShrInv g n s win post w (k + 1) h wr) (hk : k < n) (hs : s < 32) (hx : win.getD k 0 = x) (u : Int) (hu : u = (((h * 4294967296 + x) / 2 ^ s % 4294967296 : Nat) : Int)) :
    ShrInv g n s win post w k x (wr.setCell ⟨g, k, none⟩ (.int .u32 u)) := by
  subst hu
  obtain ⟨cur, h1, h2, h3, h4, h5, h6, h7⟩ := hi
  have hxl : x < 4294967296 := by rw [← hx, ← h5 k (by omega)]; exact getD_lt_of h1.lt k
  have hw := h1.set (off := 0) rfl (k := k) (by omega) ((h * 4294967296 + x) / 2 ^ s % 4294967296) (Nat.mod_lt _ (by decide))
  rw [Nat.zero_add] at hw
  have d1 := dval_drop win k (by omega)
  rw [hx] at d1
  refine ⟨_, hw, by simpa using h2, h3, grown_trans h4 (grown_set _ _ _ _), fun j hj => ?_, ?_, ?_⟩
  · rw [getD_set _ _ _ _ (by omega), if_neg (by omega)]; exact h5 j (by omega)
  · rw [dval_drop _ k (by simp; omega), getD_set _ _ _ _ (by omega), if_pos rfl, List.drop_set_of_lt (by omega), h6, d1]
    exact shr_step _ _ _ _ h7 hxl hs
  · rw [d1, Nat.add_mul_mod_self_left, Nat.mod_eq_of_lt hxl]
theorem ShrInv.fin {g n s : Nat} {win post : List Nat} {w wr : World} {h : Nat} (hi : ShrInv g n s win post w 0 h wr) : ShiftsRight g s win post w (.returned (.tuple #[])) wr := by
  obtain ⟨cur, h1, h2, h3, h4, h5, h6, h7⟩ := hi
  exact ⟨cur, rfl, h1, by omega, by simpa using h6, h4⟩
set_option maxRecDepth 100000 in
set_option maxHeartbeats 1000000 in
theorem shiftRight_any (g n c s : Nat) (win post : List Nat) (w : World) (hw : Win w g [] win post) (hn : win.length = n) (hr : n ≤ 1000000) (_hc : n ≤ c) (hs : s < 32) :
    Calls Tryz.prog 133 #[.slice (some ⟨g, 0, none⟩) n c, .int .i64 s] w (ShiftsRight g s win post w) := by
  have I0 : Hid (ShrInv g n s win post w n 0 w) := Lib.hid ⟨win, hw, hn, hn, ⟨rfl, rfl, rfl, Nat.le_refl _, fun _ _ _ => rfl⟩, fun _ _ => rfl, by rw [List.drop_eq_nil_of_le (by omega)]; simp [dval], by rw [List.drop_eq_nil_of_le (by omega)]; simp [dval]⟩
  clear hw hn
  go_enter Tryz.func133, Tryz.ntmps133
  go_wp2
  go_loopw [4, 5] (fun hv i wr => ∃ k h : Nat, k ≤ n ∧ h < 4294967296 ∧ hv = .int .u64 h ∧ i = .int .i64 ((k : Int) - 1) ∧ Hid (ShrInv g n s win post w k h wr)) (fun _ i _ => (intOf i + 1).toNat)
  case atStart => exact ⟨n, 0, by omega, by omega, rfl, by go_num, I0⟩
  case round =>
    obtain ⟨k, h, hk, hh, rfl, rfl, hi⟩ := hrel
    rcases k with _ | k
    · have F := Lib.hid hi.out.fin
      clear hi I0
      go_wp2
      go_end0
      exact F.out
    · obtain ⟨x, hxe⟩ : ∃ x, win.getD k 0 = x := ⟨_, rfl⟩
      obtain ⟨hcell, hfz, hxl⟩ : wr.cell? ⟨g, k, none⟩ = some (.int .u32 (x : Int)) ∧ wr.frozen? ⟨g, k, none⟩ = false ∧ x < 4294967296 := by
        obtain ⟨cur, h1, h2, h3, h4, h5, h6, h7⟩ := hi.out
        have e := h5 k (by omega)
        rw [hxe] at e
        have hc2 := h1.cell (off := 0) rfl (k := k) (by omega)
        rw [Nat.zero_add, e] at hc2
        exact ⟨hc2, h1.frozen _, by rw [← e]; exact getD_lt_of h1.lt k⟩
      have S := fun u hu => Lib.hid (hi.out.step (by omega) hs hxe u hu)
      have hor := bits_hi_lo h x hh hxl
      have h2s := pow_lt32 s hs
      have hpos : 0 < 2 ^ s := Nat.pow_pos (by decide)
      obtain ⟨T, hT⟩ : ∃ T, h * 4294967296 + x = T := ⟨_, rfl⟩
      have hT2 : (h : Int) * 4294967296 + (x : Int) = (T : Int) := by omega
      have hTb : T < 18446744073709551616 := by omega
      rw [hT2] at hor
      rw [hT] at S
      obtain ⟨Q, hQ⟩ : ∃ Q, T / 2 ^ s = Q := ⟨_, rfl⟩
      have hQ2 : (T : Int) / 2 ^ s = (Q : Int) := by
        have e : ((2 : Int) ^ s) = ((2 ^ s : Nat) : Int) := by rw [Int.natCast_pow]; rfl
        rw [e, ← hQ]; exact (Int.natCast_ediv _ _).symm
      have hQb : Q ≤ T := by rw [← hQ]; exact Nat.div_le_self _ _
      rw [hQ] at S
      clear hi hT hT2 hxe I0 hQ h2s hpos
      go_wp2
      go_roundw
      case rel => exact ⟨k, x, by omega, hxl, by go_num, by go_num, S _ (by omega)⟩
      case measure => simp [intOf]; try omega
end Go.Proofs.YtbllnkhbahenkaaGreatDoor
