/- AddTo, Add, AddProduct, Mul, joined: no claim of its own. -/
import Derived.Test.YtbllnkhbahenkaaGreatDoorBase
import Derived.IntWalk
namespace Go.Proofs.YtbllnkhbahenkaaGreatDoor
open Go.RowKit
/-- The window afterwards holds the sum; the carry out of it is lost. -/
def AddsTo (g : Nat) (pre win post ys : List Nat) (w : World) (e : Ending) (w' : World) : Prop :=
  ∃ win' c, e = .returned (.tuple #[]) ∧ Win w' g pre win' post ∧ win'.length = win.length ∧ c ≤ 1 ∧ dval win' + 4294967296 ^ win.length * c = dval win + dval ys ∧ w.grownBy w' (some g)
/-- What holds after k digits. -/
def AddInv (g n : Nat) (pre win post ys : List Nat) (w : World) (k c : Nat) (wr : World) : Prop :=
  ∃ cur, Win wr g pre cur post ∧ cur.length = n ∧ win.length = n ∧ w.grownBy wr (some g) ∧ (∀ j, k ≤ j → cur.getD j 0 = win.getD j 0) ∧ dval cur + 4294967296 ^ k * c = dval win + dval (ys.take k)
theorem AddInv.step {g n off : Nat} {pre win post ys : List Nat} {w wr : World} {k c : Nat} (h : AddInv g n pre win post ys w k c wr) (ho : pre.length = off) (hk : k < n) (y : Nat) (hy : dval (ys.take (k + 1)) = dval (ys.take k) + 4294967296 ^ k * y) :
    AddInv g n pre win post ys w (k + 1) ((c + y + win.getD k 0) / 4294967296) (wr.setCell ⟨g, off + k, none⟩ (.int .u32 (((c + y + win.getD k 0) % 4294967296 : Nat) : Int))) := by
  obtain ⟨cur, hw, hn, hm, hg, hu, hv⟩ := h
  refine ⟨cur.set k ((c + y + win.getD k 0) % 4294967296), hw.set ho (by omega) _ (Nat.mod_lt _ (by decide)), by simpa using hn, hm, grown_trans hg (grown_set _ _ _ _), fun j hj => ?_, ?_⟩
  · rw [getD_set _ _ _ _ (by omega), if_neg (by omega)]; exact hu j (by omega)
  · have h1 := dval_set cur k ((c + y + win.getD k 0) % 4294967296) (by omega)
    rw [hu k (Nat.le_refl _)] at h1
    have h2 := Nat.div_add_mod (c + y + win.getD k 0) 4294967296
    rw [hy, Nat.pow_succ]
    generalize (c + y + win.getD k 0) % 4294967296 = r at *
    generalize (c + y + win.getD k 0) / 4294967296 = q at *
    generalize 4294967296 ^ k = P at *
    generalize win.getD k 0 = x at *
    grind
theorem AddInv.fin {g n : Nat} {pre win post ys : List Nat} {w wr : World} {k c : Nat} (h : AddInv g n pre win post ys w k c wr) (hc : c ≤ 1) (hk : k = n ∨ c = 0) (hy : ys.length ≤ k) :
    AddsTo g pre win post ys w (.returned (.tuple #[])) wr := by
  obtain ⟨cur, hw, hn, hm, hg, hu, hv⟩ := h
  rw [List.take_of_length_le hy] at hv
  refine ⟨cur, c, rfl, hw, by omega, hc, ?_, hg⟩
  rcases hk with rfl | rfl
  · rw [hm]; exact hv
  · simpa using hv
set_option maxRecDepth 100000 in
set_option maxHeartbeats 1000000 in
theorem addTo_any (g off n c m d : Nat) (B : Option Addr) (pre win post ys : List Nat) (w : World) (hw : Win w g pre win post) (ho : pre.length = off) (hn : win.length = n) (hc : n ≤ c) (hr : c ≤ 35184372088832)
    (hy : Lst w B m d ys) (hne : 0 < m → ∀ ad, B = some ad → ad.block ≠ g) (hm : m ≤ n) :
    Calls Tryz.prog 110 #[.slice (some ⟨g, off, none⟩) n c, .slice B m d] w (AddsTo g pre win post ys w) := by
  have H0 : Hid (AddInv g n pre win post ys w 0 0 w) := Lib.hid ⟨win, hw, hn, hn, ⟨rfl, rfl, rfl, Nat.le_refl _, fun _ _ _ => rfl⟩, fun _ _ => rfl, by simp [dval]⟩
  have HY := Lib.hid hy
  have HO := Lib.hid ho
  have HN := Lib.hid hne
  clear hy ho hne hw hn
  go_enter Tryz.func110, Tryz.ntmps110
  go_wp2
  go_loopw [4, 8] (fun cv i wr => ∃ k cy : Nat, k ≤ n ∧ cy ≤ 1 ∧ i = .int .i64 k ∧ cv = .int .u64 cy ∧ Hid (AddInv g n pre win post ys w k cy wr)) (fun _ i _ => n - (intOf i).toNat)
  case atStart => exact ⟨0, 0, by omega, by omega, rfl, rfl, H0⟩
  case round =>
    obtain ⟨k, cy, hk, hcy, rfl, rfl, hi⟩ := hrel
    by_cases hlt : k < n
    · by_cases hkm : k < m
      · obtain ⟨hcell, hfz, hx, hy2, L⟩ : wr.cell? ⟨g, off + k, none⟩ = some (.int .u32 ((win.getD k 0 : Nat) : Int)) ∧ wr.frozen? ⟨g, off + k, none⟩ = false ∧ win.getD k 0 < 4294967296 ∧ Hid (dval (ys.take (k + 1)) = dval (ys.take k) + 4294967296 ^ k * ys.getD k 0) ∧ Lst wr B m d ys := by
          obtain ⟨cur, hw, h1, h2, hg, hu, hv⟩ := hi.out
          have e := hu k (Nat.le_refl _)
          exact ⟨by rw [hw.cell HO.out (by omega), e], hw.frozen _, by rw [← e]; exact getD_lt_of hw.lt k, Lib.hid (dval_take_succ ys k (by rw [HY.out.len]; exact hkm)), HY.out.off hg HN.out⟩
        have hyl := L.getD_lt k
        obtain ⟨ad, rfl, hb, hyc⟩ := L.at_ hkm
        have R := Lib.hid (hi.out.step HO.out hlt _ hy2.out)
        clear L hy2 hb hi H0
        generalize win.getD k 0 = x at *
        generalize ys.getD k 0 = y at *
        go_wp2
        go_roundw
        case rel => exact ⟨k + 1, (cy + y + x) / 4294967296, by omega, by omega, by go_num, by go_num, Lib.hid (by have h := R.out; rw [show (((cy + y + x) % 4294967296 : Nat) : Int) = ((cy : Int) + (y : Int) + (x : Int)) % 4294967296 from by omega] at h; exact h)⟩
        case measure => simp [intOf]; omega
      · by_cases hz : cy = 0
        · subst hz
          have F := Lib.hid (hi.out.fin (by omega) (.inr rfl) (by rw [HY.out.len]; omega))
          clear hi H0
          go_wp2
          go_end0
          exact F.out
        · have hzb : ((cy : Int) == 0) = false := by simpa using hz
          obtain rfl : cy = 1 := by omega
          obtain ⟨hcell, hfz, hx, hy2⟩ : wr.cell? ⟨g, off + k, none⟩ = some (.int .u32 ((win.getD k 0 : Nat) : Int)) ∧ wr.frozen? ⟨g, off + k, none⟩ = false ∧ win.getD k 0 < 4294967296 ∧ Hid (dval (ys.take (k + 1)) = dval (ys.take k) + 4294967296 ^ k * 0) := by
            obtain ⟨cur, hw, h1, h2, hg, hu, hv⟩ := hi.out
            have e := hu k (Nat.le_refl _)
            have hl := HY.out.len
            exact ⟨by rw [hw.cell HO.out (by omega), e], hw.frozen _, by rw [← e]; exact getD_lt_of hw.lt k, Lib.hid (by rw [List.take_of_length_le (by omega), List.take_of_length_le (by omega)]; omega)⟩
          have R := Lib.hid (hi.out.step HO.out hlt _ hy2.out)
          clear hy2 hi H0 hz
          generalize win.getD k 0 = x at *
          go_wp2
          go_roundw
          case rel => exact ⟨k + 1, (1 + 0 + x) / 4294967296, by omega, by omega, by go_num, by go_num, Lib.hid (by have h := R.out; rw [show (((1 + 0 + x) % 4294967296 : Nat) : Int) = (1 + (x : Int)) % 4294967296 from by omega] at h; exact h)⟩
          case measure => simp [intOf]; omega
    · have F := Lib.hid (hi.out.fin hcy (.inl (by omega)) (by rw [HY.out.len]; omega))
      clear hi H0
      go_wp2
      go_end0
      exact F.out
end Go.Proofs.YtbllnkhbahenkaaGreatDoor
namespace Go.Proofs.YtbllnkhbahenkaaGreatDoor
open Go.RowKit
theorem splice_win {w : World} {g n : Nat} {xs : List Nat} (hx : ∀ d ∈ xs, d < 4294967296) (hn : xs.length = n)
    (h : w.heap[g]? = some (.cells (splice (Dg (List.replicate (n + 1) 0)) 0 (Dg xs)).toArray 52 (0, 0))) : Win w g [] (xs ++ [0]) [] := by
  refine ⟨?_, fun d hd => ?_⟩
  · rw [h]
    simp [splice, Dg, hn]
  · rcases List.mem_append.1 hd with h1 | h1
    · exact hx d h1
    · simp at h1; omega
def AddEnds (g n v : Nat) (w : World) (e : Ending) (w' : World) : Prop :=
  e = .returned (.tuple #[]) ∧ ∃ r, Lst w' (some ⟨g, 0, none⟩) (n + 1) (n + 1) r ∧ dval r = v ∧ Below w.heap.size w w'
theorem add_end {w w2 w' : World} {e : Ending} {A B : Option Addr} {n c m d a b : Nat} {xs ys : List Nat} (hx : Num w A n c xs a) (hy : Num w B m d ys b) (hnm : m ≤ n) (hn : n ≤ 1000000) (hb2 : Below w.heap.size w w2)
    (h : AddsTo w.heap.size [] (xs ++ [0]) [] ys w2 e w') : AddEnds w.heap.size n (a + b) w e w' := by
  obtain ⟨win', cy, rfl, h1, h2, h3, h4, h5⟩ := h
  have hl : (xs ++ [0]).length = n + 1 := by simp [hx.len]
  have e1 : dval (xs ++ [0]) = a := by rw [dval_append, hx.val]; simp [dval]
  rw [e1, hy.val, hl] at h4
  rw [hl] at h2
  have b1 : a < 4294967296 ^ n := by rw [← hx.val, ← hx.len]; exact dval_lt xs hx.lt
  have b2 : b < 4294967296 ^ n := by
    rw [← hy.val]
    exact Nat.lt_of_lt_of_le (dval_lt ys hy.lt) (Nat.pow_le_pow_right (by decide) (by rw [hy.len]; exact hnm))
  rw [Nat.pow_succ] at h4
  refine ⟨rfl, win', ?_, carry_none _ _ _ _ _ b1 b2 h4, hb2.trans (grown_below h5 (Nat.le_refl _) hb2.size)⟩
  have := h1.lst (off := 0) (c := n + 1) rfl (by omega) (by omega)
  rwa [h2] at this
set_option maxRecDepth 100000 in
set_option maxHeartbeats 1000000 in
theorem add_wide (A B : Option Addr) (n c m d a b : Nat) (xs ys : List Nat) (w : World) (hx : Num w A n c xs a) (hy : Num w B m d ys b) (hn : n ≤ 1000000) (hnm : m ≤ n) :
    Calls Tryz.prog 75 #[.slice A n c, .slice B m d] w (GivesNum (a + b) w) := by
  obtain ⟨i0, hi0, hz0, hz1, hz2⟩ := info_parts infoU32
  have HX := Lib.hid hx
  have HY := Lib.hid hy
  clear hx hy
  go_enter Tryz.func75, Tryz.ntmps75
  go_wp2_with fail
  refine (trim_num _ _ _ _ _ _ HX.out).mono ?_
  rintro e w' ⟨rfl, rfl⟩
  go_wp2_with fail
  refine (trim_num _ _ _ _ _ _ HY.out).mono ?_
  rintro e w' ⟨rfl, rfl⟩
  go_wp2_with (at_make; refine wpList_make_full _ rfl _ _ 23 rfl w.heap.size 52 i0 (.int .u32 0) 1 Tryz.underlying23 hi0 hz0 hz1 _ _ _ _ (n + 1) rfl rfl (by omega) (by omega) ?b2 ?b3 (Nat.le_refl _) ?_)
  case b2 => rw [hz2]; omega
  case b3 => unfold maxLen; omega
  intro w1 hown hgrow
  have hw1 := made_win hown
  have hb1 : Below w.heap.size w w1 := (Below.refl _ _).grown hgrow (Nat.le_refl _) (by intro k hk; cases hk)
  have hblk : w1.heap[w.heap.size]? = some (.cells (Dg (List.replicate (n + 1) 0)).toArray 52 (0, 0)) := by simpa using hw1.blk
  have L1 := (HX.out.toLst.keep hb1)
  have L2 := (HY.out.toLst.keep hb1)
  have HB := Lib.hid hblk
  have HL1 := Lib.hid L1
  have HL2 := Lib.hid L2
  have HB1 := Lib.hid hb1
  clear hown hgrow hw1 hblk L1 L2 hb1
  go_wp2_with (with_reducible refine wpList_copy_splice rfl _ _ _ _ rfl 52 Tryz.underlying23 sizeU32 _ _ _ _ _ _ rfl rfl w.heap.size 0 _ _ HB.out (Dg xs) ?c1 ?c2 ?c3 ?c4 w.heap.size w HB1.out (Nat.le_refl _) ?_)
  case c1 => rw [Dg_length, HX.out.len]; simp
  case c2 =>
    intro h0
    rw [Dg_length, HX.out.len] at h0
    obtain ⟨ad, e, _, hc⟩ := HL1.out.reads.2 h0
    first | exact ⟨ad, e, hc⟩ | exact ⟨rfl, ad, e, hc⟩
  case c3 => simp [Dg_length, HX.out.len]
  case c4 => intro v hv; simp [Dg] at hv; obtain ⟨_, _, rfl⟩ := hv; rfl
  intro w2 hblk hb2
  have hw2 := splice_win HX.out.lt HX.out.len hblk.out
  have R := fun (e : Ending) (w' : World) h => add_end (e := e) (w' := w') HX.out HY.out hnm hn hb2 h
  have HR := Lib.hid R
  have C := Lib.hid (addTo_any w.heap.size 0 (n + 1) (n + 1) m m B [] (xs ++ [0]) [] ys w2 hw2 rfl (by simp [HX.out.len]) (Nat.le_refl _) (by omega) (HY.out.caps.toLst.keep hb2) (HY.out.toLst.ne (Nat.le_refl _)) (by omega))
  clear hw2 hb2 hblk HB HL1 HL2 HB1 R
  go_wp2_with fail
  refine C.out.mono ?_
  rintro e w' h
  obtain ⟨rfl, r, hr, hv, hb⟩ := HR.out _ _ h
  have L := Lib.hid hr
  have V := Lib.hid hv
  have BB := Lib.hid hb
  clear h hr hv hb C HR
  go_wp2_with fail
  refine (trim_any _ _ _ _ _ L.out).mono ?_
  rintro e w' ht
  have g := Lib.hid (ht.gives (W := w) L.out V.out BB.out)
  obtain ⟨k', hk', rfl, _, _, rfl⟩ := ht
  clear hk'
  go_wp2
  go_ret
  exact g.out
set_option maxRecDepth 100000 in
set_option maxHeartbeats 1000000 in
theorem add_narrow (A B : Option Addr) (n c m d a b : Nat) (xs ys : List Nat) (w : World) (hx : Num w A n c xs a) (hy : Num w B m d ys b) (hm : m ≤ 1000000) (hmn : n < m) :
    Calls Tryz.prog 75 #[.slice A n c, .slice B m d] w (GivesNum (a + b) w) := by
  obtain ⟨i0, hi0, hz0, hz1, hz2⟩ := info_parts infoU32
  have HX := Lib.hid hx
  have HY := Lib.hid hy
  have hnm : n ≤ m := by omega
  clear hx hy
  go_enter Tryz.func75, Tryz.ntmps75
  go_wp2_with fail
  refine (trim_num _ _ _ _ _ _ HX.out).mono ?_
  rintro e w' ⟨rfl, rfl⟩
  go_wp2_with fail
  refine (trim_num _ _ _ _ _ _ HY.out).mono ?_
  rintro e w' ⟨rfl, rfl⟩
  go_wp2_with (at_make; refine wpList_make_full _ rfl _ _ 23 rfl w.heap.size 52 i0 (.int .u32 0) 1 Tryz.underlying23 hi0 hz0 hz1 _ _ _ _ (m + 1) rfl rfl (by omega) (by omega) ?b2 ?b3 (Nat.le_refl _) ?_)
  case b2 => rw [hz2]; omega
  case b3 => unfold maxLen; omega
  intro w1 hown hgrow
  have hw1 := made_win hown
  have hb1 : Below w.heap.size w w1 := (Below.refl _ _).grown hgrow (Nat.le_refl _) (by intro k hk; cases hk)
  have hblk : w1.heap[w.heap.size]? = some (.cells (Dg (List.replicate (m + 1) 0)).toArray 52 (0, 0)) := by simpa using hw1.blk
  have L1 := (HY.out.toLst.keep hb1)
  have L2 := (HX.out.toLst.keep hb1)
  have HB := Lib.hid hblk
  have HL1 := Lib.hid L1
  have HL2 := Lib.hid L2
  have HB1 := Lib.hid hb1
  clear hown hgrow hw1 hblk L1 L2 hb1
  go_wp2_with (with_reducible refine wpList_copy_splice rfl _ _ _ _ rfl 52 Tryz.underlying23 sizeU32 _ _ _ _ _ _ rfl rfl w.heap.size 0 _ _ HB.out (Dg ys) ?c1 ?c2 ?c3 ?c4 w.heap.size w HB1.out (Nat.le_refl _) ?_)
  case c1 => rw [Dg_length, HY.out.len]; simp
  case c2 =>
    intro h0
    rw [Dg_length, HY.out.len] at h0
    obtain ⟨ad, e, _, hc⟩ := HL1.out.reads.2 h0
    first | exact ⟨ad, e, hc⟩ | exact ⟨rfl, ad, e, hc⟩
  case c3 => simp [Dg_length, HY.out.len]
  case c4 => intro v hv; simp [Dg] at hv; obtain ⟨_, _, rfl⟩ := hv; rfl
  intro w2 hblk hb2
  have hw2 := splice_win HY.out.lt HY.out.len hblk.out
  have R := fun (e : Ending) (w' : World) h => add_end (e := e) (w' := w') HY.out HX.out hnm hm hb2 h
  have HR := Lib.hid R
  have C := Lib.hid (addTo_any w.heap.size 0 (m + 1) (m + 1) n n A [] (ys ++ [0]) [] xs w2 hw2 rfl (by simp [HY.out.len]) (Nat.le_refl _) (by omega) (HX.out.caps.toLst.keep hb2) (HX.out.toLst.ne (Nat.le_refl _)) (by omega))
  clear hw2 hb2 hblk HB HL1 HL2 HB1 R
  go_wp2_with fail
  refine C.out.mono ?_
  rintro e w' h
  obtain ⟨rfl, r, hr, hv, hb⟩ := HR.out _ _ h
  have L := Lib.hid hr
  have V := Lib.hid hv
  have BB := Lib.hid hb
  clear h hr hv hb C HR
  go_wp2_with fail
  refine (trim_any _ _ _ _ _ L.out).mono ?_
  rintro e w' ht
  have g := Lib.hid (ht.gives (W := w) L.out V.out BB.out)
  obtain ⟨k', hk', rfl, _, _, rfl⟩ := ht
  clear hk'
  go_wp2
  go_ret
  exact g.out.eq (Nat.add_comm _ _)
theorem add_any (A B : Option Addr) (n c m d a b : Nat) (xs ys : List Nat) (w : World) (hx : Num w A n c xs a) (hy : Num w B m d ys b) (hn : n ≤ 1000000) (hm : m ≤ 1000000) :
    Calls Tryz.prog 75 #[.slice A n c, .slice B m d] w (GivesNum (a + b) w) := by
  rcases Nat.lt_or_ge n m with h | h
  · exact add_narrow A B n c m d a b xs ys w hx hy hm h
  · exact add_wide A B n c m d a b xs ys w hx hy hn h
end Go.Proofs.YtbllnkhbahenkaaGreatDoor
namespace Go.Proofs.YtbllnkhbahenkaaGreatDoor
open Go.RowKit
/-- The window afterwards holds what it held and ys times f. -/
def AddsProduct (g : Nat) (pre win post ys : List Nat) (f : Nat) (w : World) (e : Ending) (w' : World) : Prop :=
  ∃ win', e = .returned (.tuple #[]) ∧ Win w' g pre win' post ∧ win'.length = win.length ∧ dval win' = dval win + f * dval ys ∧ w.grownBy w' (some g)
/-- What holds after k digits. -/
def ProdInv (g n : Nat) (pre win post ys : List Nat) (f : Nat) (w : World) (k c : Nat) (wr : World) : Prop :=
  ∃ cur, Win wr g pre cur post ∧ cur.length = n ∧ win.length = n ∧ w.grownBy wr (some g) ∧ (∀ j, k ≤ j → cur.getD j 0 = win.getD j 0) ∧ dval cur + 4294967296 ^ k * c = dval win + f * dval (ys.take k)
theorem ProdInv.drewN {g n : Nat} {pre win post ys : List Nat} {f : Nat} {w wr : World} {k c : Nat} (h : ProdInv g n pre win post ys f w k c wr) (q : Nat) : ProdInv g n pre win post ys f w k c (wr.drewN q) := by
  obtain ⟨cur, hw, hn, hm, hg, hu, hv⟩ := h
  exact ⟨cur, hw.drewN q, hn, hm, grown_trans hg (grown_drewN _ _ _), hu, hv⟩
theorem ProdInv.step {g n off : Nat} {pre win post ys : List Nat} {f : Nat} {w wr : World} {k c : Nat} (h : ProdInv g n pre win post ys f w k c wr) (ho : pre.length = off) (hk : k < n) (y x : Nat) (hx : win.getD k 0 = x) (hy : dval (ys.take (k + 1)) = dval (ys.take k) + 4294967296 ^ k * y) (u : Int) (hu : u = (((c + (x + y * f)) % 4294967296 : Nat) : Int)) :
    ProdInv g n pre win post ys f w (k + 1) ((c + (x + y * f)) / 4294967296) (wr.setCell ⟨g, off + k, none⟩ (.int .u32 u)) := by
  subst hu
  obtain ⟨cur, hw, hn, hm, hg, hu, hv⟩ := h
  refine ⟨cur.set k ((c + (x + y * f)) % 4294967296), hw.set ho (by omega) _ (Nat.mod_lt _ (by decide)), by simpa using hn, hm, grown_trans hg (grown_set _ _ _ _), fun j hj => ?_, ?_⟩
  · rw [getD_set _ _ _ _ (by omega), if_neg (by omega)]; exact hu j (by omega)
  · have h1 := dval_set cur k ((c + (x + y * f)) % 4294967296) (by omega)
    rw [hu k (Nat.le_refl _), hx] at h1
    have h2 := Nat.div_add_mod (c + (x + y * f)) 4294967296
    rw [hy, Nat.pow_succ]
    generalize (c + (x + y * f)) % 4294967296 = r at *
    generalize (c + (x + y * f)) / 4294967296 = q at *
    generalize 4294967296 ^ k = P at *
    grind
theorem ProdInv.fin {g n off m : Nat} {pre win post ys : List Nat} {f : Nat} {w wr : World} {c : Nat} (h : ProdInv g n pre win post ys f w m c wr) (ho : pre.length = off) (hn : n = m + 1) (hc : c < 4294967296) (hz : win.getD m 0 = 0) (hy : ys.length = m) :
    AddsProduct g pre win post ys f w (.returned (.tuple #[])) (wr.setCell ⟨g, off + m, none⟩ (.int .u32 (c : Int))) := by
  obtain ⟨cur, hw, hl, hm, hg, hu, hv⟩ := h
  rw [List.take_of_length_le (by omega)] at hv
  refine ⟨cur.set m c, rfl, hw.set ho (by omega) _ hc, by simp; omega, ?_, grown_trans hg (grown_set _ _ _ _)⟩
  have h1 := dval_set cur m c (by omega)
  rw [hu m (Nat.le_refl _), hz] at h1
  omega
set_option maxRecDepth 100000 in
set_option maxHeartbeats 1000000 in
theorem addProduct_any (g off n c m d f : Nat) (B : Option Addr) (pre win post ys : List Nat) (w : World) (hw : Win w g pre win post) (ho : pre.length = off) (hn : win.length = n) (hc : n ≤ c) (hr : c ≤ 35184372088832)
    (hy : Lst w B m d ys) (hne : 0 < m → ∀ ad, B = some ad → ad.block ≠ g) (hm : n = m + 1) (hf : f < 4294967296) (hz : win.getD m 0 = 0) :
    Calls Tryz.prog 85 #[.slice (some ⟨g, off, none⟩) n c, .slice B m d, .int .u32 f] w (AddsProduct g pre win post ys f w) := by
  have H0 : Hid (ProdInv g n pre win post ys f w 0 0 w) := Lib.hid ⟨win, hw, hn, hn, ⟨rfl, rfl, rfl, Nat.le_refl _, fun _ _ _ => rfl⟩, fun _ _ => rfl, by simp [dval]⟩
  have HY := Lib.hid hy
  have HO := Lib.hid ho
  have HN := Lib.hid hne
  have HZ := Lib.hid hz
  have HM := Lib.hid hm
  have hmn : m < n := by omega
  have hnm : n ≤ m + 1 := by omega
  clear hy ho hne hw hn hz hm
  go_enter Tryz.func85, Tryz.ntmps85
  go_wp2
  go_loopw [6, 10] (fun cv i wr => ∃ k cy : Nat, k ≤ m ∧ cy < 4294967296 ∧ i = .int .i64 k ∧ cv = .int .u64 cy ∧ Hid (ProdInv g n pre win post ys f w k cy wr)) (fun _ i _ => m - (intOf i).toNat)
  case atStart => exact ⟨0, 0, by omega, by omega, rfl, rfl, H0⟩
  case round =>
    obtain ⟨k, cy, hk, hcy, rfl, rfl, hi⟩ := hrel
    by_cases hlt : k < m
    · obtain ⟨hcell, hfz, hx, hy2, L⟩ : wr.cell? ⟨g, off + k, none⟩ = some (.int .u32 ((win.getD k 0 : Nat) : Int)) ∧ wr.frozen? ⟨g, off + k, none⟩ = false ∧ win.getD k 0 < 4294967296 ∧ Hid (dval (ys.take (k + 1)) = dval (ys.take k) + 4294967296 ^ k * ys.getD k 0) ∧ Lst wr B m d ys := by
          obtain ⟨cur, hw, h1, h2, hg, hu, hv⟩ := hi.out
          have e := hu k (Nat.le_refl _)
          exact ⟨by rw [hw.cell HO.out (by omega), e], hw.frozen _, by rw [← e]; exact getD_lt_of hw.lt k, Lib.hid (dval_take_succ ys k (by rw [HY.out.len]; exact hlt)), HY.out.off hg HN.out⟩
      have hyl := L.getD_lt k
      obtain ⟨ad, rfl, hb, hyc⟩ := L.at_ hlt
      obtain ⟨x, hxe⟩ : ∃ x, win.getD k 0 = x := ⟨_, rfl⟩
      have R := fun q => Lib.hid ((hi.out.drewN q).step HO.out (by omega) _ x hxe hy2.out (((cy : Int) + ((x : Int) + ((ys.getD k 0 : Nat) : Int) * (f : Int))) % 4294967296) (by omega))
      rw [hxe] at hcell hx
      clear L hy2 hb hi H0 hxe
      generalize ys.getD k 0 = y at *
      have hp : (y : Int) * (f : Int) ≤ 18446744065119617025 := by
        have := Nat.mul_le_mul (show y ≤ 4294967295 by omega) (show f ≤ 4294967295 by omega)
        have e : ((y * f : Nat) : Int) = (y : Int) * (f : Int) := Int.natCast_mul _ _
        omega
      have hp0 : 0 ≤ (y : Int) * (f : Int) := Int.mul_nonneg (by omega) (by omega)
      have hd : (cy + (x + y * f)) / 4294967296 < 4294967296 := by
        have e : ((y * f : Nat) : Int) = (y : Int) * (f : Int) := Int.natCast_mul _ _
        omega
      go_wp2
      go_quiet (fail)
      go_wp2
      go_roundw
      case rel => exact ⟨k + 1, (cy + (x + y * f)) / 4294967296, by omega, hd, by go_num, by go_num, R _⟩
      case measure => simp [intOf]; omega
    · obtain rfl : k = m := by omega
      have F := Lib.hid (hi.out.fin HO.out HM.out hcy HZ.out HY.out.len)
      obtain ⟨hfz, hcell⟩ : wr.frozen? ⟨g, off + k, none⟩ = false ∧ wr.cell? ⟨g, off + k, none⟩ = some (.int .u32 ((win.getD k 0 : Nat) : Int)) := by
        obtain ⟨cur, hw, h1, h2, hg, hu, hv⟩ := hi.out
        exact ⟨hw.frozen _, by rw [hw.cell HO.out (by omega), hu k (Nat.le_refl _)]⟩
      generalize win.getD k 0 = z at hcell
      clear hi H0
      go_wp2
      go_end0
      have h := F.out
      exact h
end Go.Proofs.YtbllnkhbahenkaaGreatDoor
namespace Go.Proofs.YtbllnkhbahenkaaGreatDoor
open Go.RowKit
/-- What holds after i digits of the first number. -/
def MulInv (g n m : Nat) (xs ys : List Nat) (w : World) (i : Nat) (wr : World) : Prop :=
  ∃ row, Win wr g [] row [] ∧ row.length = n + m ∧ dval row = dval (xs.take i) * dval ys ∧ (∀ j, i + m ≤ j → row.getD j 0 = 0) ∧ Below w.heap.size w wr
theorem MulInv.step {g n m : Nat} {xs ys : List Nat} {w wr w' : World} {i : Nat} {e : Ending} {row : List Nat} (hx : xs.length = n) (hi : i < n) (hg : w.heap.size ≤ g)
    (h1 : Win wr g [] row []) (h2 : row.length = n + m) (h3 : dval row = dval (xs.take i) * dval ys) (h4 : ∀ j, i + m ≤ j → row.getD j 0 = 0) (h5 : Below w.heap.size w wr)
    (h : AddsProduct g (row.take i) ((row.drop i).take (m + 1)) (row.drop (i + (m + 1))) ys (xs.getD i 0) wr e w') : e = .returned (.tuple #[]) ∧ MulInv g n m xs ys w (i + 1) w' := by
  obtain ⟨win', rfl, hw, hl, hv, hgr⟩ := h
  have hlen : ((row.drop i).take (m + 1)).length = m + 1 := by simp; omega
  refine ⟨rfl, row.take i ++ win' ++ row.drop (i + (m + 1)), h1.join hw, ?_, ?_, ?_, ?_⟩
  · simp; omega
  · have p := dval_part row win' i (m + 1) (by omega) (by omega)
    rw [dval_take_succ xs i (by omega), Nat.add_mul, ← h3]
    rw [hv] at p
    generalize dval (List.take (m + 1) (List.drop i row)) = a at *
    generalize 4294967296 ^ i = P at *
    grind
  · intro j hj
    rw [List.append_assoc, List.getD_eq_getElem?_getD, List.getElem?_append_right (by simp; omega), List.getElem?_append_right (by simp; omega), List.getElem?_drop]
    have e : i + (m + 1) + (j - (List.take i row).length - win'.length) = j := by simp; omega
    rw [e]
    exact h4 j (by omega)
  · exact h5.trans (grown_below hgr hg h5.size)
set_option maxRecDepth 100000 in
set_option maxHeartbeats 1000000 in
theorem mul_any (A B : Option Addr) (n c m d a b : Nat) (xs ys : List Nat) (w : World) (hx : Num w A n c xs a) (hy : Num w B m d ys b) (hn : n ≤ 1000000) (hm : m ≤ 1000000) :
    Calls Tryz.prog 51 #[.slice A n c, .slice B m d] w (GivesNum (a * b) w) := by
  obtain ⟨i0, hi0, hz0, hz1, hz2⟩ := info_parts infoU32
  have HX := Lib.hid hx.caps
  have HY := Lib.hid hy.caps
  have T1 := fun w' => trim_num A n c xs a w'
  have HX0 := Lib.hid hx
  have HY0 := Lib.hid hy
  clear hx hy T1
  go_enter Tryz.func51, Tryz.ntmps51
  go_wp2_with fail
  refine (trim_num _ _ _ _ _ _ HX0.out).mono ?_
  rintro e w' ⟨rfl, rfl⟩
  go_wp2_with fail
  refine (trim_num _ _ _ _ _ _ HY0.out).mono ?_
  rintro e w' ⟨rfl, rfl⟩
  go_wp2_with (at_make; refine wpList_make_full _ rfl _ _ 23 rfl w.heap.size 52 i0 (.int .u32 0) 1 Tryz.underlying23 hi0 hz0 hz1 _ _ _ _ (n + m) rfl rfl (by omega) (by omega) ?b2 ?b3 (Nat.le_refl _) ?_)
  case b2 => rw [hz2]; omega
  case b3 => unfold maxLen; omega
  intro w1 hown hgrow
  have hw1 := made_win hown
  have I0 : Hid (MulInv w.heap.size n m xs ys w 0 w1) := Lib.hid ⟨_, hw1, by simp, by simp [dval_replicate, dval], fun j _ => getD_replicate _ _, (Below.refl _ _).grown hgrow (Nat.le_refl _) (by intro k hk; cases hk)⟩
  clear hown hgrow hw1 HX0 HY0
  go_wp2
  go_loopw [20] (fun i wr => ∃ k : Nat, k ≤ n ∧ i = .int .i64 k ∧ Hid (MulInv w.heap.size n m xs ys w k wr)) (fun i _ => n - (intOf i).toNat)
  case atStart => exact ⟨0, by omega, rfl, I0⟩
  case round =>
    obtain ⟨k, hk, rfl, hi⟩ := hrel
    by_cases hlt : k < n
    · obtain ⟨row, h1, h2, h3, h4, h5⟩ := hi.out
      obtain ⟨ad, rfl, hb, hcell⟩ := (HX.out.toLst.keep h5).at_ hlt
      clear hb
      have C := fun w' => addProduct_any w.heap.size k (m + 1) (m + 1) m m (xs.getD k 0) B (row.take k) ((row.drop k).take (m + 1)) (row.drop (k + (m + 1))) ys w'
      have F := fun (e : Ending) w' h => MulInv.step (e := e) (w' := w') HX.out.len hlt (Nat.le_refl _) h1.drew h2 h3 h4 h5.drew h
      have hf := HX.out.toLst.getD_lt k
      have hyl := (HY.out.toLst.keep h5)
      have hne := HY.out.toLst.ne (Nat.le_refl _)
      have CC := Lib.hid C
      have FF := Lib.hid F
      have P1 := Lib.hid (h1.drew.part k (m + 1))
      have P2 := Lib.hid hyl.drew
      have P3 := Lib.hid hne
      have P4 : Hid ((row.take k).length = k ∧ ((row.drop k).take (m + 1)).length = m + 1 ∧ ((row.drop k).take (m + 1)).getD m 0 = 0) := Lib.hid ⟨by simp; omega, by simp; omega, by
        rw [List.getD_eq_getElem?_getD, List.getElem?_take_of_lt (by omega), List.getElem?_drop, ← List.getD_eq_getElem?_getD]; exact h4 _ (by omega)⟩
      clear C F hyl hne h1 h2 h3 h4 hi I0
      generalize xs.getD k 0 = f at *
      go_wp2
      have e1 : ((k : Int) + (m : Int) + 1).toNat = k + m + 1 := by omega
      have e2 : 0 ≤ (k : Int) + (m : Int) + 1 := by omega
      have e3 : (k : Int) + (m : Int) + 1 ≤ (n : Int) + (m : Int) := by omega
      have e4 : (k : Int) + (m : Int) + 1 ≤ max ((k : Int) + (m : Int) + 1) 0 := by omega
      have e5 : k ≤ k + m + 1 := by omega
      have e6 : k + m + 1 - k = m + 1 := by omega
      have e7 : (k + m + 1 = k) = False := eq_false (by omega)
      go_still_tail 10, (by kernel_rfl)
      clear e1 e2 e3 e4 e5 e6 e7
      change wpList _ _ _ _ _ wr.drew
      go_wp2_with fail
      refine (CC.out _ P1.out P4.out.1 P4.out.2.1 (by omega) (by omega) P2.out P3.out (by trivial) hf P4.out.2.2).mono ?_
      rintro e w' h
      obtain ⟨rfl, hI⟩ := FF.out _ _ h
      have HI := Lib.hid hI
      clear h hI CC FF P1 P2 P3 P4 h5 hcell
      go_wp2
      go_roundw
      case rel => exact ⟨k + 1, by omega, by go_num, HI⟩
      case measure => simp [intOf]; omega
    · obtain ⟨row, h1, h2, h3, h4, h5⟩ := hi.out
      obtain rfl : k = n := by omega
      have L : Hid (Lst wr (some ⟨w.heap.size, 0, none⟩) (k + m) (k + m) row) := Lib.hid (by
        have := h1.lst (off := 0) (c := k + m) rfl (by omega) (by omega)
        rwa [h2] at this)
      have V : Hid (dval row = a * b) := Lib.hid (by
        rw [h3, List.take_of_length_le (by have := HX.out.len; omega), HX.out.val, HY.out.val])
      have HB := Lib.hid h5
      clear h1 h2 h3 h4 h5 hi I0
      go_wp2_with fail
      refine (trim_any _ _ _ _ _ L.out).mono ?_
      rintro e w' ht
      have g := Lib.hid (ht.gives (W := w) L.out V.out HB.out)
      obtain ⟨k', hk', rfl, _, _, rfl⟩ := ht
      clear hk'
      go_wp2
      go_ret
      exact g.out
end Go.Proofs.YtbllnkhbahenkaaGreatDoor
