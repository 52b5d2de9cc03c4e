/- The contract of natural.Add: no claim of its own. -/
import Derived.Test.YtgmjpkkpkdcncaaDoorAddTo
import Derived.Test.YtgmjpkkpkdcncaaDoorBase
namespace Go.Proofs.YtgmjpkkpkdcncaaDoor
open Go.RowKit
theorem splice_win {w : World} {g n : Nat} {xs : List Nat} (hx : ∀ d ∈ xs, d < 4294967296) (hn : xs.length = n)
    (h : w.heap[g]? = some (.cells (splice (Dg (List.replicate (n + 1) 0)) 0 (Dg xs)).toArray 43 (0, 0))) : Win w g [] (xs ++ [0]) [] := by
  refine ⟨?_, fun d hd => ?_⟩
  · rw [h]
    simp [splice, Dg, hn]
  · rcases List.mem_append.1 hd with h1 | h1
    · exact hx d h1
    · simp at h1; omega
def AddEnds (g n v : Nat) (w : World) (e : Ending) (w' : World) : Prop :=
  e = .returned (.tuple #[]) ∧ ∃ r, Lst w' (some ⟨g, 0, none⟩) (n + 1) (n + 1) r ∧ dval r = v ∧ Below w.heap.size w w'
theorem add_end {w w2 w' : World} {e : Ending} {A B : Option Addr} {n c m d a b : Nat} {xs ys : List Nat} (hx : Num w A n c xs a) (hy : Num w B m d ys b) (hnm : m ≤ n) (hn : n ≤ 1000000) (hb2 : Below w.heap.size w w2)
    (h : AddsTo w.heap.size [] (xs ++ [0]) [] ys w2 e w') : AddEnds w.heap.size n (a + b) w e w' := by
  obtain ⟨win', cy, rfl, h1, h2, h3, h4, h5⟩ := h
  have hl : (xs ++ [0]).length = n + 1 := by simp [hx.len]
  have e1 : dval (xs ++ [0]) = a := by rw [dval_append, hx.val]; simp [dval]
  rw [e1, hy.val, hl] at h4
  rw [hl] at h2
  have b1 : a < 4294967296 ^ n := by rw [← hx.val, ← hx.len]; exact dval_lt xs hx.lt
  have b2 : b < 4294967296 ^ n := by
    rw [← hy.val]
    exact Nat.lt_of_lt_of_le (dval_lt ys hy.lt) (Nat.pow_le_pow_right (by decide) (by rw [hy.len]; exact hnm))
  rw [Nat.pow_succ] at h4
  refine ⟨rfl, win', ?_, carry_none _ _ _ _ _ b1 b2 h4, hb2.trans (grown_below h5 (Nat.le_refl _) hb2.size)⟩
  have := h1.lst (off := 0) (c := n + 1) rfl (by omega) (by omega)
  rwa [h2] at this
set_option maxRecDepth 100000 in
set_option maxHeartbeats 1000000 in
theorem add_wide (A B : Option Addr) (n c m d a b : Nat) (xs ys : List Nat) (w : World) (hx : Num w A n c xs a) (hy : Num w B m d ys b) (hn : n ≤ 1000000) (hnm : m ≤ n) :
    Calls Tryd.prog 15 #[.slice A n c, .slice B m d] w (GivesNum (a + b) w) := by
  obtain ⟨i0, hi0, hz0, hz1, hz2⟩ := info_parts infoU32
  have HX := Lib.hid hx
  have HY := Lib.hid hy
  clear hx hy
  go_enter Tryd.func15, Tryd.ntmps15
  go_wp2_with fail
  refine (trim_num _ _ _ _ _ _ HX.out).mono ?_
  rintro e w' ⟨rfl, rfl⟩
  go_wp2_with fail
  refine (trim_num _ _ _ _ _ _ HY.out).mono ?_
  rintro e w' ⟨rfl, rfl⟩
  go_wp2_with (at_make; refine wpList_make_full _ rfl _ _ 23 rfl w.heap.size 43 i0 (.int .u32 0) 1 Tryd.underlying23 hi0 hz0 hz1 _ _ _ _ (n + 1) rfl rfl (by omega) (by omega) ?b2 ?b3 (Nat.le_refl _) ?_)
  case b2 => rw [hz2]; omega
  case b3 => unfold maxLen; omega
  intro w1 hown hgrow
  have hw1 := made_win hown
  have hb1 : Below w.heap.size w w1 := (Below.refl _ _).grown hgrow (Nat.le_refl _) (by intro k hk; cases hk)
  have hblk : w1.heap[w.heap.size]? = some (.cells (Dg (List.replicate (n + 1) 0)).toArray 43 (0, 0)) := by simpa using hw1.blk
  have L1 := (HX.out.toLst.keep hb1)
  have L2 := (HY.out.toLst.keep hb1)
  have HB := Lib.hid hblk
  have HL1 := Lib.hid L1
  have HL2 := Lib.hid L2
  have HB1 := Lib.hid hb1
  clear hown hgrow hw1 hblk L1 L2 hb1
  go_wp2_with (with_reducible refine wpList_copy_splice rfl _ _ _ _ rfl 43 Tryd.underlying23 sizeU32 _ _ _ _ _ _ rfl rfl w.heap.size 0 _ _ HB.out (Dg xs) ?c1 ?c2 ?c3 ?c4 w.heap.size w HB1.out (Nat.le_refl _) ?_)
  case c1 => rw [Dg_length, HX.out.len]; simp
  case c2 =>
    intro h0
    rw [Dg_length, HX.out.len] at h0
    obtain ⟨ad, e, _, hc⟩ := HL1.out.reads.2 h0
    first | exact ⟨ad, e, hc⟩ | exact ⟨rfl, ad, e, hc⟩
  case c3 => simp [Dg_length, HX.out.len]
  case c4 => intro v hv; simp [Dg] at hv; obtain ⟨_, _, rfl⟩ := hv; rfl
  intro w2 hblk hb2
  have hw2 := splice_win HX.out.lt HX.out.len hblk.out
  have R := fun (e : Ending) (w' : World) h => add_end (e := e) (w' := w') HX.out HY.out hnm hn hb2 h
  have HR := Lib.hid R
  have C := Lib.hid (addTo_any w.heap.size 0 (n + 1) (n + 1) m m B [] (xs ++ [0]) [] ys w2 hw2 rfl (by simp [HX.out.len]) (Nat.le_refl _) (by omega) (HY.out.caps.toLst.keep hb2) (HY.out.toLst.ne (Nat.le_refl _)) (by omega))
  clear hw2 hb2 hblk HB HL1 HL2 HB1 R
  go_wp2_with fail
  refine C.out.mono ?_
  rintro e w' h
  obtain ⟨rfl, r, hr, hv, hb⟩ := HR.out _ _ h
  have L := Lib.hid hr
  have V := Lib.hid hv
  have BB := Lib.hid hb
  clear h hr hv hb C HR
  go_wp2_with fail
  refine (trim_any _ _ _ _ _ L.out).mono ?_
  rintro e w' ht
  have g := Lib.hid (ht.gives (W := w) L.out V.out BB.out)
  obtain ⟨k', hk', rfl, _, _, rfl⟩ := ht
  clear hk'
  go_wp2
  go_ret
  exact g.out
set_option maxRecDepth 100000 in
set_option maxHeartbeats 1000000 in
theorem add_narrow (A B : Option Addr) (n c m d a b : Nat) (xs ys : List Nat) (w : World) (hx : Num w A n c xs a) (hy : Num w B m d ys b) (hm : m ≤ 1000000) (hmn : n < m) :
    Calls Tryd.prog 15 #[.slice A n c, .slice B m d] w (GivesNum (a + b) w) := by
  obtain ⟨i0, hi0, hz0, hz1, hz2⟩ := info_parts infoU32
  have HX := Lib.hid hx
  have HY := Lib.hid hy
  have hnm : n ≤ m := by omega
  clear hx hy
  go_enter Tryd.func15, Tryd.ntmps15
  go_wp2_with fail
  refine (trim_num _ _ _ _ _ _ HX.out).mono ?_
  rintro e w' ⟨rfl, rfl⟩
  go_wp2_with fail
  refine (trim_num _ _ _ _ _ _ HY.out).mono ?_
  rintro e w' ⟨rfl, rfl⟩
  go_wp2_with (at_make; refine wpList_make_full _ rfl _ _ 23 rfl w.heap.size 43 i0 (.int .u32 0) 1 Tryd.underlying23 hi0 hz0 hz1 _ _ _ _ (m + 1) rfl rfl (by omega) (by omega) ?b2 ?b3 (Nat.le_refl _) ?_)
  case b2 => rw [hz2]; omega
  case b3 => unfold maxLen; omega
  intro w1 hown hgrow
  have hw1 := made_win hown
  have hb1 : Below w.heap.size w w1 := (Below.refl _ _).grown hgrow (Nat.le_refl _) (by intro k hk; cases hk)
  have hblk : w1.heap[w.heap.size]? = some (.cells (Dg (List.replicate (m + 1) 0)).toArray 43 (0, 0)) := by simpa using hw1.blk
  have L1 := (HY.out.toLst.keep hb1)
  have L2 := (HX.out.toLst.keep hb1)
  have HB := Lib.hid hblk
  have HL1 := Lib.hid L1
  have HL2 := Lib.hid L2
  have HB1 := Lib.hid hb1
  clear hown hgrow hw1 hblk L1 L2 hb1
  go_wp2_with (with_reducible refine wpList_copy_splice rfl _ _ _ _ rfl 43 Tryd.underlying23 sizeU32 _ _ _ _ _ _ rfl rfl w.heap.size 0 _ _ HB.out (Dg ys) ?c1 ?c2 ?c3 ?c4 w.heap.size w HB1.out (Nat.le_refl _) ?_)
  case c1 => rw [Dg_length, HY.out.len]; simp
  case c2 =>
    intro h0
    rw [Dg_length, HY.out.len] at h0
    obtain ⟨ad, e, _, hc⟩ := HL1.out.reads.2 h0
    first | exact ⟨ad, e, hc⟩ | exact ⟨rfl, ad, e, hc⟩
  case c3 => simp [Dg_length, HY.out.len]
  case c4 => intro v hv; simp [Dg] at hv; obtain ⟨_, _, rfl⟩ := hv; rfl
  intro w2 hblk hb2
  have hw2 := splice_win HY.out.lt HY.out.len hblk.out
  have R := fun (e : Ending) (w' : World) h => add_end (e := e) (w' := w') HY.out HX.out hnm hm hb2 h
  have HR := Lib.hid R
  have C := Lib.hid (addTo_any w.heap.size 0 (m + 1) (m + 1) n n A [] (ys ++ [0]) [] xs w2 hw2 rfl (by simp [HY.out.len]) (Nat.le_refl _) (by omega) (HX.out.caps.toLst.keep hb2) (HX.out.toLst.ne (Nat.le_refl _)) (by omega))
  clear hw2 hb2 hblk HB HL1 HL2 HB1 R
  go_wp2_with fail
  refine C.out.mono ?_
  rintro e w' h
  obtain ⟨rfl, r, hr, hv, hb⟩ := HR.out _ _ h
  have L := Lib.hid hr
  have V := Lib.hid hv
  have BB := Lib.hid hb
  clear h hr hv hb C HR
  go_wp2_with fail
  refine (trim_any _ _ _ _ _ L.out).mono ?_
  rintro e w' ht
  have g := Lib.hid (ht.gives (W := w) L.out V.out BB.out)
  obtain ⟨k', hk', rfl, _, _, rfl⟩ := ht
  clear hk'
  go_wp2
  go_ret
  exact g.out.eq (Nat.add_comm _ _)
theorem add_any (A B : Option Addr) (n c m d a b : Nat) (xs ys : List Nat) (w : World) (hx : Num w A n c xs a) (hy : Num w B m d ys b) (hn : n ≤ 1000000) (hm : m ≤ 1000000) :
    Calls Tryd.prog 15 #[.slice A n c, .slice B m d] w (GivesNum (a + b) w) := by
  rcases Nat.lt_or_ge n m with h | h
  · exact add_narrow A B n c m d a b xs ys w hx hy hm h
  · exact add_wide A B n c m d a b xs ys w hx hy hn h
end Go.Proofs.YtgmjpkkpkdcncaaDoor
