/- Div32, Mine, DivS, joined: no claim of its own. -/
import Derived.Test.YtbllnkhbahenkaaGreatDoorOwns
import Derived.Test.YtbllnkhbahenkaaGreatDoorMaths
import Derived.Test.YtbllnkhbahenkaaGreatDoorCmp
import Derived.WalkSpells
import Derived.Lib.LazyBuf
namespace Go.Proofs.YtbllnkhbahenkaaGreatDoor
open Go.RowKit
theorem div_lt_of (hi lo y : Nat) (h1 : hi < y) (h2 : lo < 4294967296) : (hi * 4294967296 + lo) / y < 4294967296 := by
  rw [Nat.div_lt_iff_lt_mul (by omega)]
  have : (hi + 1) * 4294967296 ≤ y * 4294967296 := Nat.mul_le_mul_right _ h1
  rw [Nat.mul_comm y] at this
  omega
set_option maxRecDepth 100000 in
set_option maxHeartbeats 400000 in
theorem div32_any (hi lo y : Nat) (w : World) (h1 : hi < y) (h2 : lo < 4294967296) (h3 : y < 4294967296) :
    Calls Tryz.prog 114 #[.int .u32 hi, .int .u32 lo, .int .u32 y] w fun e w' => e = .returned (.tuple #[.int .u32 (((hi * 4294967296 + lo) / y : Nat) : Int), .int .u32 (((hi * 4294967296 + lo) % y : Nat) : Int)]) ∧ ∃ q, w' = w.drewN q := by
  have hy : ((y : Int) != 0) = true := bne_iff_ne.2 (by omega)
  have hor := bits_hi_lo hi lo (by omega) h2
  have hq := div_lt_of hi lo y h1 h2
  have hm : (hi * 4294967296 + lo) % y < y := Nat.mod_lt _ (by omega)
  have eq : (((hi * 4294967296 + lo) / y : Nat) : Int) = ((hi : Int) * 4294967296 + (lo : Int)) / (y : Int) := by rw [Int.natCast_ediv]; rfl
  have em : (((hi * 4294967296 + lo) % y : Nat) : Int) = ((hi : Int) * 4294967296 + (lo : Int)) % (y : Int) := by rw [Int.natCast_emod]; rfl
  have b1 : ((hi : Int) * 4294967296 + (lo : Int)) / (y : Int) ≤ 4294967295 := by
    rw [← eq]; generalize (hi * 4294967296 + lo) / y = q at hq; omega
  have b2 : 0 ≤ ((hi : Int) * 4294967296 + (lo : Int)) / (y : Int) := Int.ediv_nonneg (by omega) (by omega)
  have b3 : ((hi : Int) * 4294967296 + (lo : Int)) % (y : Int) ≤ 4294967295 := by
    rw [← em]; generalize (hi * 4294967296 + lo) % y = q at hm; omega
  have b4 : 0 ≤ ((hi : Int) * 4294967296 + (lo : Int)) % (y : Int) := Int.emod_nonneg _ (by omega)
  have b5 : (1 : Int) ≤ (y : Int) := by omega
  have E := Lib.hid eq
  have M := Lib.hid em
  clear eq em hq hm
  go_enter Tryz.func114, Tryz.ntmps114
  go_wp2
  go_quiet (fail)
  go_wp2
  go_outline
  go_ret2
  refine ⟨by rw [E.out, M.out]; rfl, _, rfl⟩
end Go.Proofs.YtbllnkhbahenkaaGreatDoor
namespace Go.Proofs.YtbllnkhbahenkaaGreatDoor
open Go.RowKit
structure Mine (w : World) (B : Nat) (A : Option Addr) (n : Nat) (xs : List Nat) : Prop where
  len : xs.length = n
  lt : ∀ d ∈ xs, d < 4294967296
  mem : 0 < n → ∃ g cur, A = some ⟨g, 0, none⟩ ∧ B ≤ g ∧ w.heap[g]? = some (.cells cur 52 (0, 0)) ∧ n ≤ cur.size ∧ cur.toList.take n = Dg xs
section
variable {w w' : World} {B n g : Nat} {A : Option Addr} {xs : List Nat}
theorem Own.mine {v : Value} (h : Own w B v xs) : ∃ A c, v = .slice A xs.length c ∧ Mine w B A xs.length xs ∧ xs.length ≤ c := by
  rcases h.own.2 with ⟨rfl, h0⟩ | ⟨g, cap, cur, rfl, hg, hh, hc, hm, hsz, ht⟩
  · exact ⟨none, 0, by rw [h0], ⟨rfl, h.lt, fun hp => by omega⟩, by omega⟩
  · exact ⟨some ⟨g, 0, none⟩, cap, rfl, ⟨rfl, h.lt, fun _ => ⟨g, cur, rfl, hg, hh, by omega, by simpa using ht⟩⟩, hc⟩
theorem Mine.at_ (h : Mine w B A n xs) {k : Nat} (hk : k < n) : ∃ g, A = some ⟨g, 0, none⟩ ∧ B ≤ g ∧ w.cell? ⟨g, k, none⟩ = some (.int .u32 ((xs.getD k 0 : Nat) : Int)) ∧ w.frozen? ⟨g, k, none⟩ = false := by
  obtain ⟨g, cur, rfl, hg, hh, hs, ht⟩ := h.mem (by omega)
  refine ⟨g, rfl, hg, ?_, by simp [World.frozen?, hh]⟩
  rw [cell_of_row w g k cur _ (0, 0) hh]
  have e : cur.toList[k]? = (Dg xs)[k]? := by rw [← ht, List.getElem?_take_of_lt hk]
  rw [Array.getElem?_toList] at e
  rw [e, Dg_at xs k (by have := h.len; omega)]
  simp [h.len, hk]
theorem Mine.set (h : Mine w B (some ⟨g, 0, none⟩) n xs) {k : Nat} (_hk : k < n) (d : Nat) (hd : d < 4294967296) :
    Mine (w.setCell ⟨g, k, none⟩ (.int .u32 (d : Int))) B (some ⟨g, 0, none⟩) n (xs.set k d) := by
  refine ⟨by simpa using h.len, lt_set h.lt k d hd, fun h0 => ?_⟩
  obtain ⟨g', cur, e, hg, hh, hs, ht⟩ := h.mem h0
  injection e with e
  injection e with e
  subst e
  refine ⟨g, cur.setIfInBounds k (.int .u32 (d : Int)), rfl, hg, heap_setCell_same w g k cur _ _ hh, by simpa using hs, ?_⟩
  rw [Array.toList_setIfInBounds, List.take_set, ht]
  simp [Dg, List.map_set]
theorem Mine.lst (h : Mine w B A n xs) {c : Nat} (hc : n ≤ c) (hn : n ≤ 35184372088832) : Lst w A n c xs := by
  refine ⟨⟨by rw [Dg_length, h.len]; omega, fun h0 => ?_⟩, h.len, hc, hn, h.lt⟩
  obtain ⟨g, cur, rfl, hg, hh, hs, ht⟩ := h.mem h0
  refine ⟨_, rfl, (Array.getElem?_eq_some_iff.1 hh).1, fun j u hu => ?_⟩
  rw [addr_add, Nat.zero_add, cell_of_row w g j cur _ (0, 0) hh]
  have hj : j < n := by
    have := (List.getElem?_eq_some_iff.1 hu).1
    rw [Dg_length, h.len] at this; exact this
  rw [← ht, List.getElem?_take_of_lt hj, Array.getElem?_toList] at hu
  exact hu
theorem Mine.take (h : Mine w B A n xs) {k : Nat} (hk : k ≤ n) : Mine w B A k (xs.take k) := by
  refine ⟨by rw [List.length_take, h.len]; omega, fun d hd => h.lt d (List.mem_of_mem_take hd), fun h0 => ?_⟩
  obtain ⟨g, cur, rfl, hg, hh, hs, ht⟩ := h.mem (by omega)
  refine ⟨g, cur, rfl, hg, hh, by omega, ?_⟩
  rw [← Dg_take, ← ht, List.take_take, Nat.min_eq_left hk]
theorem Mine.keep (h : Mine w B A n xs) {C : Nat} (hb : Below C w w') (hC : w.heap.size ≤ C) : Mine w' B A n xs := by
  refine ⟨h.len, h.lt, fun h0 => ?_⟩
  obtain ⟨g, cur, rfl, hg, hh, hs, ht⟩ := h.mem h0
  exact ⟨g, cur, rfl, hg, by rw [hb.block g (by have := (Array.getElem?_eq_some_iff.1 hh).1; omega)]; exact hh, hs, ht⟩
theorem Mine.drewN (h : Mine w B A n xs) (q : Nat) : Mine (w.drewN q) B A n xs := ⟨h.len, h.lt, h.mem⟩
end
/-- What the division has done: digits from k on are divided, r is the rest. -/
def DivInv (A : Option Addr) (n y : Nat) (xs : List Nat) (w : World) (B k r : Nat) (wr : World) : Prop :=
  ∃ cur, Mine wr B A n cur ∧ (Below B w wr ∧ w.grownBy wr (A.map (·.block))) ∧ (∀ j, j < k → cur.getD j 0 = xs.getD j 0) ∧ dval (xs.drop k) = y * dval (cur.drop k) + r
theorem dval_drop (xs : List Nat) (k : Nat) (hk : k < xs.length) : dval (xs.drop k) = xs.getD k 0 + 4294967296 * dval (xs.drop (k + 1)) := by
  rw [List.drop_eq_getElem_cons hk]
  simp [dval, hk]
theorem DivInv.step {n y g : Nat} {xs : List Nat} {w wr : World} {B k r x : Nat} (h : DivInv (some ⟨g, 0, none⟩) n y xs w B (k + 1) r wr) (hn : xs.length = n) (hk : k < n) (hg : B ≤ g) (hx : xs.getD k 0 = x) (hry : r < y) (q : Nat) :
    DivInv (some ⟨g, 0, none⟩) n y xs w B k ((r * 4294967296 + x) % y) ((wr.drewN q).setCell ⟨g, k, none⟩ (.int .u32 (((r * 4294967296 + x) / y : Nat) : Int))) := by
  obtain ⟨cur, hm, hb, hu, hv⟩ := h
  have hxl : x < 4294967296 := by rw [← hx, ← hu k (by omega)]; exact getD_lt_of hm.lt k
  have hq := div_lt_of r x y hry hxl
  have hl := hm.len
  refine ⟨cur.set k ((r * 4294967296 + x) / y), (hm.drewN q).set hk _ hq, ⟨(below_drewN hb.1 q).setCell hg _, grown_trans (grown_trans hb.2 (grown_drewN _ _ _)) (grown_set _ _ _ _)⟩, fun j hj => ?_, ?_⟩
  · rw [getD_set _ _ _ _ (by omega), if_neg (by omega)]; exact hu j (by omega)
  · rw [dval_drop xs k (by omega), hx, hv, dval_drop (cur.set k _) k (by simp; omega), getD_set _ _ _ _ (by omega), if_pos rfl]
    rw [List.drop_set_of_lt (by omega)]
    have h2 := Nat.div_add_mod (r * 4294967296 + x) y
    generalize (r * 4294967296 + x) / y = Q at *
    generalize (r * 4294967296 + x) % y = R at *
    generalize dval (List.drop (k + 1) cur) = D at *
    grind
/-- What divideByDigit leaves. -/
def Divides (A : Option Addr) (n y : Nat) (xs : List Nat) (B : Nat) (w : World) (e : Ending) (w' : World) : Prop :=
  ∃ cur, e = .returned (.int .u32 ((dval xs % y : Nat) : Int)) ∧ Mine w' B A n cur ∧ (Below B w w' ∧ w.grownBy w' (A.map (·.block))) ∧ dval cur = dval xs / y
theorem DivInv.fin {A : Option Addr} {n y : Nat} {xs : List Nat} {w wr : World} {B r : Nat} (h : DivInv A n y xs w B 0 r wr) (hr : r < y) : Divides A n y xs B w (.returned (.int .u32 (r : Int))) wr := by
  obtain ⟨cur, hm, hb, hu, hv⟩ := h
  simp only [List.drop_zero] at hv
  have hd : dval cur = dval xs / y := by
    rw [hv, Nat.mul_add_div (by omega), Nat.div_eq_of_lt hr]; rfl
  have hmod : dval xs % y = r := by
    rw [hv, Nat.mul_add_mod, Nat.mod_eq_of_lt hr]
  exact ⟨cur, by rw [hmod], hm, hb, hd⟩
set_option maxRecDepth 100000 in
set_option maxHeartbeats 1000000 in
theorem divideByDigit_any (A : Option Addr) (n c y : Nat) (xs : List Nat) (w : World) (B : Nat) (h : Mine w B A n xs) (hn : n ≤ 35184372088832) (_hB : B ≤ w.heap.size) (hy : 0 < y) (hy2 : y < 4294967296) :
    Calls Tryz.prog 88 #[.slice A n c, .int .u32 y] w (Divides A n y xs B w) := by
  have H := Lib.hid h
  have I0 : Hid (DivInv A n y xs w B n 0 w) := Lib.hid ⟨xs, h, ⟨Below.refl _ _, ⟨rfl, rfl, rfl, Nat.le_refl _, fun _ _ _ => rfl⟩⟩, fun _ _ => rfl, by rw [List.drop_eq_nil_of_le (by have := h.len; omega)]; rfl⟩
  clear h
  go_enter Tryz.func88, Tryz.ntmps88
  go_wp2
  go_loopw [5, 6] (fun rv i wr => ∃ k r : Nat, k ≤ n ∧ r < y ∧ i = .int .i64 ((k : Int) - 1) ∧ rv = .int .u32 r ∧ Hid (DivInv A n y xs w B k r wr)) (fun _ i _ => (intOf i + 1).toNat)
  case atStart => exact ⟨n, 0, by omega, hy, by go_num, rfl, I0⟩
  case round =>
    obtain ⟨k, r, hk, hr, rfl, rfl, hi⟩ := hrel
    rcases k with _ | k
    · have F := Lib.hid (hi.out.fin hr)
      clear hi I0
      go_wp2
      go_ret
      exact F.out
    · obtain ⟨g, rfl, hg, hcell, hfz, hx, F⟩ : ∃ g, A = some ⟨g, 0, none⟩ ∧ B ≤ g ∧ wr.cell? ⟨g, k, none⟩ = some (.int .u32 ((xs.getD k 0 : Nat) : Int)) ∧ wr.frozen? ⟨g, k, none⟩ = false ∧ xs.getD k 0 < 4294967296 ∧ True := by
        obtain ⟨cur, hm, hb, hu, hv⟩ := hi.out
        obtain ⟨g, rfl, hg, hc, hf⟩ := hm.at_ (k := k) (by omega)
        rw [hu k (by omega)] at hc
        exact ⟨g, rfl, hg, hc, hf, by rw [← hu k (by omega)]; exact getD_lt_of hm.lt k, trivial⟩
      obtain ⟨x, hxe⟩ : ∃ x, xs.getD k 0 = x := ⟨_, rfl⟩
      have S := fun q => Lib.hid (hi.out.step H.out.len (by omega) hg hxe hr q)
      rw [hxe] at hcell hx
      have hm : (r * 4294967296 + x) % y < y := Nat.mod_lt _ (by omega)
      have D := Lib.hid (fun w' => div32_any r x y w' hr hx hy2)
      clear hxe hi I0 F
      go_wp2_with fail
      refine (D.out _).mono ?_
      rintro e w' ⟨rfl, q, rfl⟩
      generalize (r * 4294967296 + x) % y = R at *
      generalize (r * 4294967296 + x) / y = Q at *
      go_wp2
      go_roundw
      case rel => exact ⟨k, R, by omega, hm, by go_num, rfl, S _⟩
      case measure => simp [intOf]; try omega
end Go.Proofs.YtbllnkhbahenkaaGreatDoor
namespace Go.Proofs.YtbllnkhbahenkaaGreatDoor
open Go.RowKit
/-- A call hands back a row of its own. -/
def GivesOwn (xs : List Nat) (w : World) (e : Ending) (w' : World) : Prop := ∃ v, e = .returned v ∧ Own w' w.heap.size v xs ∧ Below w.heap.size w w'
theorem copied_own {w w1 : World} {v1 : Value} {k : Nat} {ys : List Nat} (hown : w1.ownsRow w.heap.size 52 1 v1 (0 + k) ([] ++ Dg ys)) (hl : ∀ d ∈ ys, d < 4294967296) (hy : ys.length = k)
    (hg : (w.alloc (.cells #[] 52)).grownBy w1 (some w.heap.size)) : GivesOwn ys w (.returned v1) w1 := by
  subst hy
  refine ⟨v1, rfl, ⟨by simpa using hown, hl⟩, ?_⟩
  exact ((Below.refl _ _).alloc (Nat.le_refl _) _).grown hg (by simp) (by intro g hg'; injection hg' with hg'; omega)
set_option maxRecDepth 100000 in
set_option maxHeartbeats 400000 in
theorem clone_any (A : Option Addr) (n c : Nat) (xs : List Nat) (w : World) (h : Lst w A n c xs) :
    Calls Tryz.prog 78 #[.slice A n c] w (GivesOwn xs w) := by
  obtain ⟨i0, hi0, hz0, hz1, hz2⟩ := info_parts infoU32
  have hc := h.cap
  have hm := h.room
  have H := Lib.hid h
  clear h
  rcases A with _ | ad
  · obtain rfl : n = 0 := by
      rcases Nat.eq_zero_or_pos n with h0 | h0
      · exact h0
      · obtain ⟨ad, e, _⟩ := H.out.at_ h0; cases e
    obtain rfl : xs = [] := List.eq_nil_of_length_eq_zero H.out.len
    have e1 : ∀ w' : World, (binOp .eql 23 (.slice none 0 c) (.slice none 0 0)).run Tryz.prog w' = .ok (.bool true) w' := fun w' => Lib.run_eql_slice_nil w' _ _ _ _ _ _ _ Tryz.underlying23
    go_enter Tryz.func78, Tryz.ntmps78
    go_wp2
    go_ret
    exact ⟨_, rfl, Own.nil _ _, Below.refl _ _⟩
  · have e1 : ∀ w' : World, (binOp .eql 23 (.slice (some ad) n c) (.slice none 0 0)).run Tryz.prog w' = .ok (.bool false) w' := fun w' => Lib.run_eql_slice_nil w' _ _ _ _ _ _ _ Tryz.underlying23
    go_enter Tryz.func78, Tryz.ntmps78
    go_wp2_with (at_builtin; refine wpList_append_any _ rfl _ _ _ rfl w.heap.size 52 i0 _ 1 4 Tryz.underlying23 hi0 hz0 hz1 hz2 rfl (by omega) (.slice (some ⟨w.heap.size, 0, none⟩) 0 0) 0 [] rfl (World.ownsRow_made w #[] 0 (Nat.le_refl _) (by simp) (by simp)) w.heap.size (some ad) n c (Dg xs) rfl (H.out.reads.alloc (Nat.le_refl _) _) (dg_oneCell _) (by simp only [maxLen]; omega) (by omega) (by simp) ?_; intro v1 w1 hown hg hat)
    go_ret
    exact copied_own hown H.out.lt H.out.len hg
def GivesTwo (q r : Nat) (w : World) (e : Ending) (w' : World) : Prop :=
  ∃ A n c xs A' n' c' xs', e = .returned (.tuple #[.slice A n c, .slice A' n' c']) ∧ Num w' A n c xs q ∧ Num w' A' n' c' xs' r ∧ Below w.heap.size w w'
theorem two_close {w w1 w2 : World} {q r : Nat} {A A' : Option Addr} {n c n' c' : Nat} {xs xs' : List Nat} (h1 : Num w1 A n c xs q) (b1 : Below w.heap.size w w1) (h2 : Num w2 A' n' c' xs' r) (b2 : Below w1.heap.size w1 w2) : GivesTwo q r w (.returned (.tuple #[.slice A n c, .slice A' n' c'])) w2 :=
  ⟨A, n, c, xs, A', n', c', xs', rfl, h1.keep b2, h2, b1.trans (b2.mono b1.size)⟩
theorem two_close' {w w1 w2 : World} {q r : Nat} {A A' : Option Addr} {n c n' c' : Nat} {xs xs' : List Nat} (h1 : Num w1 A' n' c' xs' r) (b1 : Below w.heap.size w w1) (h2 : Num w2 A n c xs q) (b2 : Below w1.heap.size w1 w2) : GivesTwo q r w (.returned (.tuple #[.slice A n c, .slice A' n' c'])) w2 :=
  ⟨A, n, c, xs, A', n', c', xs', rfl, h2, h1.keep b2, b1.trans (b2.mono b1.size)⟩
theorem GivesTwo.eq {q r q' r' : Nat} {w w' : World} {e : Ending} (h : q = q') (k : r = r') (g : GivesTwo q r w e w') : GivesTwo q' r' w e w' := by subst h; subst k; exact g
theorem two_drew {w w1 w2 : World} {q r : Nat} {A A' : Option Addr} {n c n' c' : Nat} {xs xs' : List Nat} (h1 : Num w1 A n c xs q) (b1 : Below w.drew.heap.size w.drew w1) (h2 : Num w2 A' n' c' xs' r) (b2 : Below w1.heap.size w1 w2) : GivesTwo q r w (.returned (.tuple #[.slice A n c, .slice A' n' c'])) w2 :=
  two_close h1 (((Below.refl w.heap.size w).drew).trans b1) h2 b2
theorem two_drew' {w w1 w2 : World} {q r : Nat} {A A' : Option Addr} {n c n' c' : Nat} {xs xs' : List Nat} (h1 : Num w1 A' n' c' xs' r) (b1 : Below w.drew.heap.size w.drew w1) (h2 : Num w2 A n c xs q) (b2 : Below w1.heap.size w1 w2) : GivesTwo q r w (.returned (.tuple #[.slice A n c, .slice A' n' c'])) w2 :=
  two_close' h1 (((Below.refl w.heap.size w).drew).trans b1) h2 b2
theorem fromUint_int (z : Int) (h0 : 0 ≤ z) (h1 : z ≤ 18446744073709551615) (w : World) : Calls Tryz.prog 59 #[.int .u64 z] w (GivesNum z.toNat w) := by
  obtain ⟨n, rfl⟩ := Int.eq_ofNat_of_zero_le h0
  exact fromUint_any n (by omega) w
set_option maxRecDepth 100000 in
set_option maxHeartbeats 1000000 in
theorem divide_small (A B : Option Addr) (n c m d a b : Nat) (xs ys : List Nat) (w : World) (hx : Num w A n c xs a) (hy : Num w B m d ys b) (hn : n ≤ 2) (hm : m ≤ 2) (hb : 0 < b) :
    Calls Tryz.prog 82 #[.slice A n c, .slice B m d] w (GivesTwo (a / b) (a % b) w) := by
  have HX := Lib.hid hx
  have HY := Lib.hid hy
  have la := hx.small.1 hn
  have lb := hy.small.1 hm
  have q1 : ((a / b : Nat) : Int) = (a : Int) / (b : Int) := Int.natCast_ediv _ _
  have q2 : ((a % b : Nat) : Int) = (a : Int) % (b : Int) := Int.natCast_emod _ _
  have l1 : a / b ≤ a := Nat.div_le_self _ _
  have l2 : a % b ≤ a := Nat.mod_le _ _
  have c1 : (0 : Int) ≤ (a : Int) / (b : Int) := Int.ediv_nonneg (by omega) (by omega)
  have c2 : (a : Int) / (b : Int) ≤ 18446744073709551615 := by rw [← q1]; generalize a / b = q at l1; omega
  have c3 : (0 : Int) ≤ (a : Int) % (b : Int) := Int.emod_nonneg _ (by omega)
  have c4 : (a : Int) % (b : Int) ≤ 18446744073709551615 := by rw [← q2]; generalize a % b = q at l2; omega
  have c5 : (1 : Int) ≤ (b : Int) := by omega
  have t1 : Hid (((a : Int) / (b : Int)).toNat = a / b) := Lib.hid (by rw [← q1]; rfl)
  have t2 : Hid (((a : Int) % (b : Int)).toNat = a % b) := Lib.hid (by rw [← q2]; rfl)
  have F1 := Lib.hid (fun w' => fromUint_int _ c1 c2 w')
  have F2 := Lib.hid (fun w' => fromUint_int _ c3 c4 w')
  have d1 : decide (n ≤ 2) = true := decide_eq_true hn
  have d2 : decide (m ≤ 2) = true := decide_eq_true hm
  have w1 : IntKind.u64.wrap ((a : Int) / (b : Int)) = (a : Int) / (b : Int) := by rw [← q1]; exact wrap_u64 _ (by omega)
  have w2 : IntKind.u64.wrap ((a : Int) % (b : Int)) = (a : Int) % (b : Int) := by rw [← q2]; exact wrap_u64 _ (by omega)
  have w3 : (a : Int).tmod (b : Int) = (a : Int) % (b : Int) := Int.tmod_eq_emod_of_nonneg (by omega)
  have w4 : (a : Int).tdiv (b : Int) = (a : Int) / (b : Int) := Int.tdiv_eq_ediv_of_nonneg (by omega)
  clear hx hy q1 q2 l1 l2 la lb F1 F2
  go_enter Tryz.func82, Tryz.ntmps82
  go_wp2_with fail
  refine (small_any _ _ _ _ (by omega)).mono ?_
  rintro e w' ⟨rfl, rfl⟩
  go_wp2_with fail
  refine (small_any _ _ _ _ (by omega)).mono ?_
  rintro e w' ⟨rfl, rfl⟩
  go_wp2_with fail
  refine (low_any _ _ _ _ _ _ HX.out hn).mono ?_
  rintro e w' ⟨rfl, rfl⟩
  go_wp2_with fail
  refine (low_any _ _ _ _ _ _ HY.out hm).mono ?_
  rintro e w' ⟨rfl, rfl⟩
  go_wp2_with fail
  go_region_with ((go_at_call 59; refine (fromUint_int _ (by assumption) (by assumption) _).mono ?_; rintro e w' ⟨_, _, _, _, rfl, _, _⟩))
  all_goals go_wp2
  all_goals go_ret2
  all_goals refine GivesTwo.eq t1.out t2.out ?_
  all_goals first | exact two_drew (by assumption) (by assumption) (by assumption) (by assumption) | exact two_drew' (by assumption) (by assumption) (by assumption) (by assumption)
def GivesDiv (q r : Nat) (k : Int) (w : World) (e : Ending) (w' : World) : Prop :=
  ∃ A n c xs A' n' c' xs', e = .returned (.tuple #[.slice A n c, .slice A' n' c', .int .i64 k]) ∧ Num w' A n c xs q ∧ Num w' A' n' c' xs' r ∧ Below w.heap.size w w'
theorem Num.pos {w : World} {A : Option Addr} {n c a : Nat} {xs : List Nat} (h : Num w A n c xs a) (hn : 0 < n) : 0 < a := by
  have := dval_pos xs (by rw [h.len]; omega) h.tight
  have h2 : 0 < 4294967296 ^ (xs.length - 1) := Nat.pow_pos (by decide)
  rw [h.val] at this
  omega
theorem divMod_zero (A B : Option Addr) (n c d a : Nat) (xs ys : List Nat) (w : World) (hx : Num w A n c xs a) (hy : Num w B 0 d ys 0) :
    Calls Tryz.prog 74 #[.slice A n c, .slice B 0 d] w (GivesDiv 0 0 8 w) := by
  have HX := Lib.hid hx
  have HY := Lib.hid hy
  clear hx hy
  go_enter Tryz.func74, Tryz.ntmps74
  go_wp2_with fail
  refine (trim_num _ _ _ _ _ _ HX.out).mono ?_
  rintro e w' ⟨rfl, rfl⟩
  go_wp2_with fail
  refine (trim_num _ _ _ _ _ _ HY.out).mono ?_
  rintro e w' ⟨rfl, rfl⟩
  go_wp2
  go_ret3
  exact ⟨none, 0, 0, [], none, 0, 0, [], rfl, Num.zero _, Num.zero _, Below.refl _ _⟩
theorem divMod_of (A B : Option Addr) (n c m d a b : Nat) (xs ys : List Nat) (w : World) (hx : Num w A n c xs a) (hy : Num w B m d ys b) (hm : 0 < m)
    (D : Calls Tryz.prog 82 #[.slice A n n, .slice B m m] w (GivesTwo (a / b) (a % b) w)) :
    Calls Tryz.prog 74 #[.slice A n c, .slice B m d] w (GivesDiv (a / b) (a % b) 0 w) := by
  have HX := Lib.hid hx
  have HY := Lib.hid hy
  have HD := Lib.hid D
  have hb : ((m : Int) == 0) = false := beq_eq_false_iff_ne.2 (by omega)
  clear hx hy D
  go_enter Tryz.func74, Tryz.ntmps74
  go_wp2_with fail
  refine (trim_num _ _ _ _ _ _ HX.out).mono ?_
  rintro e w' ⟨rfl, rfl⟩
  go_wp2_with fail
  refine (trim_num _ _ _ _ _ _ HY.out).mono ?_
  rintro e w' ⟨rfl, rfl⟩
  go_wp2_with fail
  refine HD.out.mono ?_
  rintro e w' ⟨A1, n1, c1, xs1, A2, n2, c2, xs2, rfl, h1, h2, h3⟩
  have G := Lib.hid (show GivesDiv (a / b) (a % b) 0 w (.returned (.tuple #[.slice A1 n1 c1, .slice A2 n2 c2, .int .i64 0])) w' from ⟨_, _, _, _, _, _, _, _, rfl, h1, h2, h3⟩)
  clear h1 h2 h3 HD
  go_wp2
  go_ret3
  exact G.out
end Go.Proofs.YtbllnkhbahenkaaGreatDoor
