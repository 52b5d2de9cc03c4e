/- The program's parseLine: no claim of its own. -/
import Derived.Test.YtigfgeanofccgaaGreatDoorJPa
import Derived.Test.YtigfgeanofccgaaGreatDoorCItoa
import Derived.Test.YtigfgeanofccgaaGreatDoorJSp
namespace Go.Proofs.YtigfgeanofccgaaGreatDoor
open Go.RowKit
open MU (Su Cp As)
theorem infoPr : (Tryz.prog.info? 60).map (fun i => (i.zero, i.size, i.bytes)) = some (some (.agg #[.string ⟨#[]⟩, .int .i64 0, .int .i64 0, .int .i64 0, .int .i64 0]), 5, 48) := by kernel_rfl
theorem infoBd : (Tryz.prog.info? 64).map (fun i => (i.zero, i.size, i.bytes)) = some (some (.agg #[.string ⟨#[]⟩, .int .i64 0, .int .i64 0, .int .i64 0]), 4, 40) := by kernel_rfl
theorem infoCp : (Tryz.prog.info? 66).map (fun i => (i.zero, i.size, i.bytes)) = some (some (.agg #[.int .i64 0, .int .i64 0, .int .i64 0]), 3, 24) := by kernel_rfl
theorem infoAs : (Tryz.prog.info? 68).map (fun i => (i.zero, i.size, i.bytes)) = some (some (.agg #[.int .i64 0, .int .i64 0, .int .i64 0]), 3, 24) := by kernel_rfl
theorem cpV_rng (L : List MR.Bd) (x : List UInt8) : -1 ≤ cpV L x ∧ cpV L x ≤ L.length := by
  unfold cpV
  split
  · exact ⟨Int.le_refl _, by omega⟩
  · cases h : MR.findL L x with
    | none => exact ⟨by decide, Int.natCast_nonneg _⟩
    | some k =>
      have := MR.find_lt h
      refine ⟨?_, ?_⟩
      · show (-1 : Int) ≤ (k : Int); omega
      · show (k : Int) ≤ _; omega
theorem asV_rng (L : List MC.Pr) (x : List UInt8) : 0 ≤ asV L x ∧ asV L x ≤ L.length := by
  unfold asV
  cases h : MC.findL L x with
  | none => exact ⟨Int.le_refl _, Int.natCast_nonneg _⟩
  | some k =>
    have := MC.find_lt h
    refine ⟨?_, ?_⟩
    · show (0 : Int) ≤ (k : Int); omega
    · show (k : Int) ≤ _; omega
/-- The number of words that a line wants. -/
def lineLen (x : List UInt8) : Int := if x = MU.wProduct then 6 else if x = MU.wBidder then 5 else if x = MU.wCap then 4 else if x = MU.wAside then 4 else 0
theorem word_yes {x y : List UInt8} (h : x = y) : ((str x).toList == y) = true := by rw [ByteArray.toList_eq, str_data, h]; exact beq_self_eq_true _
theorem word_no {x y : List UInt8} (h : x ≠ y) : ((str x).toList == y) = false := by rw [ByteArray.toList_eq, str_data]; exact beq_eq_false_iff_ne.2 h
/-- What the walk asks of a keyword. -/
structure Kw (x : List UInt8) (b1 b2 b3 b4 : Bool) : Prop where
  p : ((str x).toList == [112, 114, 111, 100, 117, 99, 116]) = b1
  b : ((str x).toList == [98, 105, 100, 100, 101, 114]) = b2
  c : ((str x).toList == [99, 97, 112]) = b3
  a : ((str x).toList == [97, 115, 105, 100, 101]) = b4
theorem kw_p {x : List UInt8} (h : x = MU.wProduct) : Kw x true false false false := by
  subst h; exact ⟨word_yes rfl, word_no (by decide), word_no (by decide), word_no (by decide)⟩
theorem kw_b {x : List UInt8} (h : x = MU.wBidder) : Kw x false true false false := by
  subst h; exact ⟨word_no (by decide), word_yes rfl, word_no (by decide), word_no (by decide)⟩
theorem kw_c {x : List UInt8} (h : x = MU.wCap) : Kw x false false true false := by
  subst h; exact ⟨word_no (by decide), word_no (by decide), word_yes rfl, word_no (by decide)⟩
theorem kw_a {x : List UInt8} (h : x = MU.wAside) : Kw x false false false true := by
  subst h; exact ⟨word_no (by decide), word_no (by decide), word_no (by decide), word_yes rfl⟩
theorem kw_no {x : List UInt8} (h1 : x ≠ MU.wProduct) (h2 : x ≠ MU.wBidder) (h3 : x ≠ MU.wCap) (h4 : x ≠ MU.wAside) : Kw x false false false false := ⟨word_no h1, word_no h2, word_no h3, word_no h4⟩
set_option maxRecDepth 100000 in
theorem lineLen_p {x : List UInt8} (h : Kw x true false false false) (w : World) : Calls Tryz.prog 52 #[.string (str x)] w (Same (.int .i64 6) w) := by
  obtain ⟨h1, h2, h3, h4⟩ := h
  generalize str x = s at *
  go_enter Tryz.func52, Tryz.ntmps52
  go_wp2
  go_ret
  exact ⟨rfl, rfl⟩
set_option maxRecDepth 100000 in
theorem lineLen_b {x : List UInt8} (h : Kw x false true false false) (w : World) : Calls Tryz.prog 52 #[.string (str x)] w (Same (.int .i64 5) w) := by
  obtain ⟨h1, h2, h3, h4⟩ := h
  generalize str x = s at *
  go_enter Tryz.func52, Tryz.ntmps52
  go_wp2
  go_ret
  exact ⟨rfl, rfl⟩
set_option maxRecDepth 100000 in
theorem lineLen_c {x : List UInt8} (h : Kw x false false true false) (w : World) : Calls Tryz.prog 52 #[.string (str x)] w (Same (.int .i64 4) w) := by
  obtain ⟨h1, h2, h3, h4⟩ := h
  generalize str x = s at *
  go_enter Tryz.func52, Tryz.ntmps52
  go_wp2
  go_ret
  exact ⟨rfl, rfl⟩
set_option maxRecDepth 100000 in
theorem lineLen_a {x : List UInt8} (h : Kw x false false false true) (w : World) : Calls Tryz.prog 52 #[.string (str x)] w (Same (.int .i64 4) w) := by
  obtain ⟨h1, h2, h3, h4⟩ := h
  generalize str x = s at *
  go_enter Tryz.func52, Tryz.ntmps52
  go_wp2
  go_ret
  exact ⟨rfl, rfl⟩
set_option maxRecDepth 100000 in
theorem lineLen_no {x : List UInt8} (h : Kw x false false false false) (w : World) : Calls Tryz.prog 52 #[.string (str x)] w (Same (.int .i64 0) w) := by
  obtain ⟨h1, h2, h3, h4⟩ := h
  generalize str x = s at *
  go_enter Tryz.func52, Tryz.ntmps52
  go_wp2
  go_ret
  exact ⟨rfl, rfl⟩
/-- What a line leaves. -/
def PLp (gs : Nat) (s : Su) (ws : List (List UInt8)) (w : World) (ev : Ending) (w' : World) : Prop :=
  ev = .returned (.int .i64 (MU.lineE s ws).2) ∧ Below gs w w' ∧ ((MU.lineE s ws).2 = 0 → ∃ u1 u2 u3 u4, SV w' gs (MU.lineE s ws).1 u1 u2 u3 u4)
set_option maxRecDepth 100000 in
set_option maxHeartbeats 2000000 in
theorem pline_no (gs : Nat) (s : Su) (A1 A2 A3 A4 : Option Addr) (c1 c2 c3 c4 : Nat) (A : Option Addr) (n c : Nat) (x : List UInt8) (r : List (List UInt8)) (w : World) (_h : SV w gs s (.slice A1 s.ps.length c1) (.slice A2 s.bs.length c2) (.slice A3 s.cs.length c3) (.slice A4 s.as_.length c4)) (hw : Lst strE w A n c (x :: r)) (hn5 : n ≤ 5000) (h1 : x ≠ MU.wProduct) (h2 : x ≠ MU.wBidder) (h3 : x ≠ MU.wCap) (h4 : x ≠ MU.wAside) : Calls Tryz.prog 29 #[.pointer (some ⟨gs, 0, none⟩), .slice A n c] w (PLp gs s (x :: r) w) := by
  obtain ⟨ad, rfl, hbk, y0, hn1, hxl⟩ := (Wd.of hw).head
  have hlen := hw.len
  have hcap := hw.cap
  have LL := Lib.hid (lineLen_no (kw_no h1 h2 h3 h4) w)
  have E : Hid (MU.lineE s (x :: r) = (s, 22)) := Lib.hid (by
    unfold MU.lineE
    rw [if_neg (show ¬ MU.at0 (x :: r) 0 = _ from h1), if_neg (show ¬ MU.at0 (x :: r) 0 = _ from h2), if_neg (show ¬ MU.at0 (x :: r) 0 = _ from h3), if_neg (show ¬ MU.at0 (x :: r) 0 = _ from h4)])
  have R := Lib.hid (show PLp gs s (x :: r) w (.returned (.int .i64 22)) w by unfold PLp; rw [E.out]; exact ⟨rfl, Below.refl _ _, fun h => by cases h⟩)
  clear hw _h E h1 h2 h3 h4
  generalize str x = q at *
  go_enter Tryz.func29, Tryz.ntmps29
  go_wp2_with fail
  refine LL.out.mono ?_
  rintro ev w1 ⟨rfl, rfl⟩
  go_wp2
  go_ret
  exact R.out
set_option maxRecDepth 100000 in
set_option maxHeartbeats 2000000 in
theorem pline_long_p (gs : Nat) (s : Su) (A1 A2 A3 A4 : Option Addr) (c1 c2 c3 c4 : Nat) (A : Option Addr) (n c : Nat) (x : List UInt8) (r : List (List UInt8)) (w : World) (_h : SV w gs s (.slice A1 s.ps.length c1) (.slice A2 s.bs.length c2) (.slice A3 s.cs.length c3) (.slice A4 s.as_.length c4)) (hw : Lst strE w A n c (x :: r)) (hn5 : n ≤ 5000) (h1 : x = MU.wProduct) (h2 : n ≠ 6) : Calls Tryz.prog 29 #[.pointer (some ⟨gs, 0, none⟩), .slice A n c] w (PLp gs s (x :: r) w) := by
  obtain ⟨ad, rfl, hbk, y0, hn1, hxl⟩ := (Wd.of hw).head
  have hlen := hw.len
  have hcap := hw.cap
  have LL := Lib.hid (lineLen_p (kw_p h1) w)
  have E : Hid (MU.lineE s (x :: r) = (s, 2)) := Lib.hid (by
    unfold MU.lineE
    rw [show MU.at0 (x :: r) 0 = MU.wProduct from h1, if_pos rfl, if_pos (by rw [hlen]; exact h2)])
  have e2 : ((6 : Int) != (n : Int)) = true := bne_iff_ne.2 (by omega)
  have R := Lib.hid (show PLp gs s (x :: r) w (.returned (.int .i64 2)) w by unfold PLp; rw [E.out]; exact ⟨rfl, Below.refl _ _, fun h => by cases h⟩)
  clear hw _h E h1 h2
  generalize str x = q at *
  go_enter Tryz.func29, Tryz.ntmps29
  go_wp2_with fail
  refine LL.out.mono ?_
  rintro ev w1 ⟨rfl, rfl⟩
  go_wp2
  go_ret
  exact R.out
set_option maxRecDepth 100000 in
set_option maxHeartbeats 2000000 in
theorem pline_long_b (gs : Nat) (s : Su) (A1 A2 A3 A4 : Option Addr) (c1 c2 c3 c4 : Nat) (A : Option Addr) (n c : Nat) (x : List UInt8) (r : List (List UInt8)) (w : World) (_h : SV w gs s (.slice A1 s.ps.length c1) (.slice A2 s.bs.length c2) (.slice A3 s.cs.length c3) (.slice A4 s.as_.length c4)) (hw : Lst strE w A n c (x :: r)) (hn5 : n ≤ 5000) (h1 : x = MU.wBidder) (h2 : n ≠ 5) : Calls Tryz.prog 29 #[.pointer (some ⟨gs, 0, none⟩), .slice A n c] w (PLp gs s (x :: r) w) := by
  obtain ⟨ad, rfl, hbk, y0, hn1, hxl⟩ := (Wd.of hw).head
  have hlen := hw.len
  have hcap := hw.cap
  have LL := Lib.hid (lineLen_b (kw_b h1) w)
  have E : Hid (MU.lineE s (x :: r) = (s, 2)) := Lib.hid (by
    unfold MU.lineE
    rw [show MU.at0 (x :: r) 0 = MU.wBidder from h1, if_neg (show ¬ MU.wBidder = MU.wProduct by decide), if_pos rfl, if_pos (by rw [hlen]; exact h2)])
  have e2 : ((5 : Int) != (n : Int)) = true := bne_iff_ne.2 (by omega)
  have R := Lib.hid (show PLp gs s (x :: r) w (.returned (.int .i64 2)) w by unfold PLp; rw [E.out]; exact ⟨rfl, Below.refl _ _, fun h => by cases h⟩)
  clear hw _h E h1 h2
  generalize str x = q at *
  go_enter Tryz.func29, Tryz.ntmps29
  go_wp2_with fail
  refine LL.out.mono ?_
  rintro ev w1 ⟨rfl, rfl⟩
  go_wp2
  go_ret
  exact R.out
set_option maxRecDepth 100000 in
set_option maxHeartbeats 2000000 in
theorem pline_long_c (gs : Nat) (s : Su) (A1 A2 A3 A4 : Option Addr) (c1 c2 c3 c4 : Nat) (A : Option Addr) (n c : Nat) (x : List UInt8) (r : List (List UInt8)) (w : World) (_h : SV w gs s (.slice A1 s.ps.length c1) (.slice A2 s.bs.length c2) (.slice A3 s.cs.length c3) (.slice A4 s.as_.length c4)) (hw : Lst strE w A n c (x :: r)) (hn5 : n ≤ 5000) (h1 : x = MU.wCap) (h2 : n ≠ 4) : Calls Tryz.prog 29 #[.pointer (some ⟨gs, 0, none⟩), .slice A n c] w (PLp gs s (x :: r) w) := by
  obtain ⟨ad, rfl, hbk, y0, hn1, hxl⟩ := (Wd.of hw).head
  have hlen := hw.len
  have hcap := hw.cap
  have LL := Lib.hid (lineLen_c (kw_c h1) w)
  have E : Hid (MU.lineE s (x :: r) = (s, 2)) := Lib.hid (by
    unfold MU.lineE
    rw [show MU.at0 (x :: r) 0 = MU.wCap from h1, if_neg (show ¬ MU.wCap = MU.wProduct by decide), if_neg (show ¬ MU.wCap = MU.wBidder by decide), if_pos rfl, if_pos (by rw [hlen]; exact h2)])
  have e2 : ((4 : Int) != (n : Int)) = true := bne_iff_ne.2 (by omega)
  have R := Lib.hid (show PLp gs s (x :: r) w (.returned (.int .i64 2)) w by unfold PLp; rw [E.out]; exact ⟨rfl, Below.refl _ _, fun h => by cases h⟩)
  clear hw _h E h1 h2
  generalize str x = q at *
  go_enter Tryz.func29, Tryz.ntmps29
  go_wp2_with fail
  refine LL.out.mono ?_
  rintro ev w1 ⟨rfl, rfl⟩
  go_wp2
  go_ret
  exact R.out
set_option maxRecDepth 100000 in
set_option maxHeartbeats 2000000 in
theorem pline_long_a (gs : Nat) (s : Su) (A1 A2 A3 A4 : Option Addr) (c1 c2 c3 c4 : Nat) (A : Option Addr) (n c : Nat) (x : List UInt8) (r : List (List UInt8)) (w : World) (_h : SV w gs s (.slice A1 s.ps.length c1) (.slice A2 s.bs.length c2) (.slice A3 s.cs.length c3) (.slice A4 s.as_.length c4)) (hw : Lst strE w A n c (x :: r)) (hn5 : n ≤ 5000) (h1 : x = MU.wAside) (h2 : n ≠ 4) : Calls Tryz.prog 29 #[.pointer (some ⟨gs, 0, none⟩), .slice A n c] w (PLp gs s (x :: r) w) := by
  obtain ⟨ad, rfl, hbk, y0, hn1, hxl⟩ := (Wd.of hw).head
  have hlen := hw.len
  have hcap := hw.cap
  have LL := Lib.hid (lineLen_a (kw_a h1) w)
  have E : Hid (MU.lineE s (x :: r) = (s, 2)) := Lib.hid (by
    unfold MU.lineE
    rw [show MU.at0 (x :: r) 0 = MU.wAside from h1, if_neg (show ¬ MU.wAside = MU.wProduct by decide), if_neg (show ¬ MU.wAside = MU.wBidder by decide), if_neg (show ¬ MU.wAside = MU.wCap by decide), if_pos rfl, if_pos (by rw [hlen]; exact h2)])
  have e2 : ((4 : Int) != (n : Int)) = true := bne_iff_ne.2 (by omega)
  have R := Lib.hid (show PLp gs s (x :: r) w (.returned (.int .i64 2)) w by unfold PLp; rw [E.out]; exact ⟨rfl, Below.refl _ _, fun h => by cases h⟩)
  clear hw _h E h1 h2
  generalize str x = q at *
  go_enter Tryz.func29, Tryz.ntmps29
  go_wp2_with fail
  refine LL.out.mono ?_
  rintro ev w1 ⟨rfl, rfl⟩
  go_wp2
  go_ret
  exact R.out
set_option maxRecDepth 100000 in
set_option maxHeartbeats 16000000 in
theorem pline_p (gs : Nat) (s : Su) (A1 A2 A3 A4 : Option Addr) (c1 c2 c3 c4 : Nat) (A : Option Addr) (n c : Nat) (x : List UInt8) (r : List (List UInt8)) (w : World) (h : SV w gs s (.slice A1 s.ps.length c1) (.slice A2 s.bs.length c2) (.slice A3 s.cs.length c3) (.slice A4 s.as_.length c4)) (hw : Lst strE w A n c (x :: r)) (hn5 : n ≤ 5000) (h1 : x = MU.wProduct) (h2 : n = 6) (hps : s.ps.length ≤ 5000) (_hrow : s.ps.length ≤ 5000) : Calls Tryz.prog 29 #[.pointer (some ⟨gs, 0, none⟩), .slice A n c] w (PLp gs s (x :: r) w) := by
  obtain ⟨ad, rfl, hbk, y0, hn1, hxl⟩ := (Wd.of hw).head
  have hlen := hw.len
  have hcap := hw.cap
  subst h2
  obtain ⟨x0, x1, x2, x3, x4, rfl⟩ : ∃ x0 x1 x2 x3 x4, r = [x0, x1, x2, x3, x4] := by
    match r, (show r.length = 5 by simp at hlen; omega) with
    | [x0, x1, x2, x3, x4], _ => exact ⟨x0, x1, x2, x3, x4, rfl⟩
  have h0 : x0.length ≤ 9223372036854775807 := hw.fine x0 (by simp)
  have hd1 := digE_rng x1
  have hd2 := digE_rng x2
  have hd3 := digE_rng x3
  have hd4 := digE_rng x4
  have LL := Lib.hid (lineLen_p (kw_p h1) w)
  have KW := kw_p h1
  obtain ⟨q1, q2, q3, q4⟩ := KW
  have LN0 := line_prod s x0 x1 x2 x3 x4
  subst h1
  have ER0 := Lib.hid LN0.1
  have SN0 := Lib.hid LN0.2
  have hc1 : c ≠ 1 := by omega
  have hg := h.box.lt
  have FB0 := Lib.hid (show FB (w.alloc (.cells #[.slice (some ⟨ad.block, ad.off + 1, none⟩) 5 (c - 1), .int .i64 0] 92)) w.heap.size (some ⟨ad.block, ad.off + 1, none⟩) 5 (c - 1) [x0, x1, x2, x3, x4] 0 from
    ⟨heap_new _ _, by have := ((Wd.of hw).below (below_new w (.cells #[.slice (some ⟨ad.block, ad.off + 1, none⟩) 5 (c - 1), .int .i64 0] 92))).tail; rw [if_neg hc1] at this; exact this⟩)
  have HS0 := Lib.hid (h.keep (below_new w (.cells #[.slice (some ⟨ad.block, ad.off + 1, none⟩) 5 (c - 1), .int .i64 0] 92)))
  have B0 := Lib.hid ((below_new w (.cells #[.slice (some ⟨ad.block, ad.off + 1, none⟩) 5 (c - 1), .int .i64 0] 92)).mono (Nat.le_of_lt hg))
  have Y0 : Hid ((w.alloc (.cells #[.slice (some ⟨ad.block, ad.off + 1, none⟩) 5 (c - 1), .int .i64 0] 92)).cell? ad = some (.string (str MU.wProduct))) := Lib.hid (by rw [World.cell?_alloc_old _ _ _ (Nat.ne_of_lt hbk)]; exact y0)
  obtain ⟨i0, hi, hz0, hz1, hz2⟩ := info_parts infoPr
  clear hw h LN0
  go_enter Tryz.func29, Tryz.ntmps29
  go_wp2_with fail
  refine LL.out.mono ?_
  rintro ev w1 ⟨rfl, hw1⟩
  obtain rfl : w = w1 := hw1.symm
  clear hw1
  have hn1' : (1 : Int) ≤ (6 : Int) := by omega
  have hnc' : (6 : Int) ≤ (c : Int) := by omega
  go_upto_region 7 with (fail)
  obtain ⟨X, hX⟩ : ∃ X, X = w.alloc (.cells #[.slice (some ⟨ad.block, ad.off + 1, none⟩) 5 (c - 1), .int .i64 0] 92) := ⟨_, rfl⟩
  have hszX : w.heap.size < X.heap.size := by rw [hX]; simp
  rw [← hX] at FB0 HS0 B0 Y0 ⊢
  generalize hgv : w.heap.size = g at *
  clear hX y0 LL
  have y0 := Y0.out
  go_wp2
  clear y0 Y0 q1 q2 q3 q4 hlen hxl hbk hn1 hcap hn1' hnc' hc1
  generalize hdd1 : (MU.digE x1).1 = d1 at *
  generalize hdd2 : (MU.digE x2).1 = d2 at *
  generalize hdd3 : (MU.digE x3).1 = d3 at *
  generalize hdd4 : (MU.digE x4).1 = d4 at *
  have HX := Lib.hid (show prE.fine ⟨x0, d1, d2, d3, d4⟩ from h0)
  have ER := Lib.hid (congrArg (fun e => Ending.returned (.int .i64 e)) ER0.out.symm)
  have SN := SN0
  have HSv := Lib.hid (HS0.out.keep (below_drawn X))
  have HFb := Lib.hid (FB0.out.keep (below_drawn X))
  have HBe := Lib.hid (B0.out.trans ((below_drawn X).mono (Nat.le_of_lt HS0.out.box.lt)))
  have hgX : g < X.drew.heap.size := HFb.out.lt
  clear HS0 FB0 B0 hszX
  refine wp_region_held_drew (S := fun w' => True) (by kernel_rfl) trivial (fun hHeld => ?_)
  refine wpAnyH_take (i := 0) (oi := { dst := some 27, op := Op.move (Operand.tmp 0), type := 73, pos := "text.go:91", after := #[], guard := none }) (v := ?_) rfl (by kernel_rfl) (by kernel_rfl) (by kernel_rfl) (fun _ _ _ h => h) (Or.inl ⟨by rfl, ?_⟩) (by assumption) ?_
  rotate_left
  · intro w hSw; (try dsimp only at hSw); go_simp; try with_reducible rfl
  (try simp only [Act.put, List.setIfInBounds_toArray, List.set_cons_zero, List.set_cons_succ])
  refine wpAnyH_take (i := 1) (oi := { dst := some 28, op := Op.move (Operand.tmp 0), type := 73, pos := "text.go:91", after := #[], guard := none }) (v := ?_) rfl (by kernel_rfl) (by kernel_rfl) (by kernel_rfl) (fun _ _ _ h => h) (Or.inl ⟨by rfl, ?_⟩) (by assumption) ?_
  rotate_left
  · intro w hSw; (try dsimp only at hSw); go_simp; try with_reducible rfl
  (try simp only [Act.put, List.setIfInBounds_toArray, List.set_cons_zero, List.set_cons_succ])
  refine wpAnyH_take (i := 2) (oi := { dst := some 29, op := Op.nilCheck (Operand.tmp 28), type := 0, pos := "text.go:91", after := #[{ on := 1, ground := Ground.data }], guard := none }) (v := ?_) rfl (by kernel_rfl) (by kernel_rfl) (by kernel_rfl) (fun _ _ _ h => h) (Or.inl ⟨by rfl, ?_⟩) (by assumption) ?_
  rotate_left
  · intro w hSw; (try dsimp only at hSw); go_simp; try with_reducible rfl
  (try simp only [Act.put, List.setIfInBounds_toArray, List.set_cons_zero, List.set_cons_succ])
  refine wpAnyH_take (i := 3) (oi := { dst := some 30, op := Op.fieldAddr 27 (Operand.tmp 29) 0, type := 0, pos := "text.go:91", after := #[{ on := 2, ground := Ground.data }], guard := none }) (v := ?_) rfl (by kernel_rfl) (by kernel_rfl) (by kernel_rfl) (fun _ _ _ h => h) (Or.inl ⟨by rfl, ?_⟩) (by assumption) ?_
  rotate_left
  · intro w hSw; (try dsimp only at hSw); go_simp; try with_reducible rfl
  (try simp only [Act.put, List.setIfInBounds_toArray, List.set_cons_zero, List.set_cons_succ])
  refine wpAnyH_ready (rs := [4, 5]) (by kernel_rfl) (by simp) ?_
  refine AllReadyH.cons (o := { dst := some 31, op := Op.load 22 (Operand.tmp 30), type := 22, pos := "text.go:91", after := #[{ on := 3, ground := Ground.data }], guard := none }) rfl (fun K hK => ?_) (AllReadyH.cons (o := { dst := some 32, op := Op.call { callee := Callee.value (Operand.func 53), args := #[Operand.tmp 6], argTypes := #[92] }, type := 60, pos := "text.go:91", after := #[], guard := none }) rfl (fun K hK => ?_) AllReadyH.nil)
  · obtain ⟨t0, t1, t2, t3⟩ := HSv.out.box.cells
    go_simp
    refine hK.out _ _ ?_ (fun hHeld => ?_)
    · exact trivial
    clear t0 t1 t2 t3
    clear hK K
    (try simp only [Act.put, List.setIfInBounds_toArray, List.set_cons_zero, List.set_cons_succ])
    refine wpAnyH_ready (rs := [5]) (by kernel_rfl) (by simp) ?_
    refine AllReadyH.cons (o := { dst := some 32, op := Op.call { callee := Callee.value (Operand.func 53), args := #[Operand.tmp 6], argTypes := #[92] }, type := 60, pos := "text.go:91", after := #[], guard := none }) rfl (fun K hK => ?_) AllReadyH.nil
    go_simp
    refine (fprod_any HFb.out).mono ?_
    rintro ev w5 ⟨rfl, ⟨A5', n5', c5', hfb⟩, hg⟩
    replace HSv := Lib.hid (HSv.out.turn hg HFb.out.blk (by omega) (by decide) (by decide) (by decide) (by decide))
    replace HBe := Lib.hid (HBe.out.trans (g_below hg (by omega) (by omega)))
    have hsz5 := hg.size
    clear HFb
    have HFb := Lib.hid hfb
    clear hfb hg
    refine hK.out _ _ ?_ (fun hHeld => ?_)
    · exact trivial
    clear hK K
    (try simp only [Act.put, List.setIfInBounds_toArray, List.set_cons_zero, List.set_cons_succ])
    refine wpAnyH_ready (rs := [6]) (by kernel_rfl) (by simp) ?_
    refine AllReadyH.cons (o := { dst := some 33, op := Op.buildSlice 22 1 #[(0, Operand.tmp 32)], type := 22, pos := "text.go:91", after := #[{ on := 5, ground := Ground.data }], guard := none }) rfl (fun K hK => ?_) AllReadyH.nil
    go_simp
    refine hK.out _ _ ?_ (fun hHeld => ?_)
    · exact trivial
    obtain ⟨W6, hW6⟩ : ∃ W6, W6 = w5.alloc (.cells #[.string (str x0), .int .i64 d1, .int .i64 d2, .int .i64 d3, .int .i64 d4] 60) := ⟨_, rfl⟩
    have NB := Lib.hid (heap_new w5 (.cells #[.string (str x0), .int .i64 d1, .int .i64 d2, .int .i64 d3, .int .i64 d4] 60))
    replace HSv := Lib.hid (HSv.out.keep (below_new w5 (.cells #[.string (str x0), .int .i64 d1, .int .i64 d2, .int .i64 d3, .int .i64 d4] 60)))
    replace HFb := Lib.hid (HFb.out.keep (below_new w5 (.cells #[.string (str x0), .int .i64 d1, .int .i64 d2, .int .i64 d3, .int .i64 d4] 60)))
    replace HBe := Lib.hid (HBe.out.trans ((below_new w5 (.cells #[.string (str x0), .int .i64 d1, .int .i64 d2, .int .i64 d3, .int .i64 d4] 60)).mono (by omega)))
    have hsz6 := (below_new w5 (.cells #[.string (str x0), .int .i64 d1, .int .i64 d2, .int .i64 d3, .int .i64 d4] 60)).size
    rw [← hW6] at NB HSv HFb HBe hsz6 ⊢
    clear hW6
    clear hK K
    (try simp only [Act.put, List.setIfInBounds_toArray, List.set_cons_zero, List.set_cons_succ])
    refine wpAnyH_ready (rs := [7]) (by kernel_rfl) (by simp) ?_
    refine AllReadyH.cons (o := { dst := some 34, op := Op.call { callee := Callee.builtin Builtin.append, args := #[Operand.tmp 31, Operand.tmp 33], argTypes := #[22, 22] }, type := 22, pos := "text.go:91", after := #[{ on := 4, ground := Ground.data }, { on := 6, ground := Ground.data }, { on := 5, ground := Ground.chain }], guard := none }) rfl (fun K hK => ?_) AllReadyH.nil
    refine step_append_lies _ (by rfl) _ _ _ (by rfl) (gs + 1) 60 i0 (.agg #[.string ⟨#[]⟩, .int .i64 0, .int .i64 0, .int .i64 0, .int .i64 0]) 5 48 Tryz.underlying22 hi hz0 hz1 hz2 rfl (by decide) _ _ _ (by rfl) HSv.out.p.1 ⟨w5.heap.size, 0, none⟩ 1 1 (prE.cells ⟨x0, d1, d2, d3, d4⟩) (by rfl) rfl ?c1 ?c2 (by decide) ?c4 ?c5 ?c6 _ rfl ?_
    case c1 => exact World.news_of_block NB.out
    case c2 => exact prE.one ⟨x0, d1, d2, d3, d4⟩
    case c4 => unfold maxLen; omega
    case c5 => omega
    case c6 => omega
    intro gg cp w7 hown hgrow hat hlt7
    have T7 := Lib.hid (HSv.out.stay0 hgrow)
    have SVn := Lib.hid (HSv.out.app0 (x := ⟨x0, d1, d2, d3, d4⟩) HX.out hown hgrow)
    have FBn := Lib.hid (HSv.out.far0 (v' := (.slice (some ⟨gg, 0, none⟩) (s.ps.length + 1) cp)) hgrow g _ HFb.out.blk (by omega) (fun c fz e => by injection e with _ e2 _; revert e2; decide))
    have LW := Lib.hid (HBe.out.trans (HSv.out.low0 (v' := (.slice (some ⟨gg, 0, none⟩) (s.ps.length + 1) cp)) hgrow))
    clear hown hgrow hat hlt7
    refine hK.out _ _ ?_ (fun hHeld => ?_)
    · exact trivial
    clear hK K
    (try simp only [Act.put, List.setIfInBounds_toArray, List.set_cons_zero, List.set_cons_succ])
    refine wpAnyH_take (i := 8) (oi := { dst := some 35, op := Op.nilCheck (Operand.tmp 27), type := 0, pos := "text.go:91", after := #[{ on := 0, ground := Ground.data }, { on := 0, ground := Ground.phase }, { on := 1, ground := Ground.phase }, { on := 2, ground := Ground.phase }, { on := 3, ground := Ground.phase }, { on := 4, ground := Ground.phase }, { on := 5, ground := Ground.phase }, { on := 6, ground := Ground.phase }, { on := 7, ground := Ground.phase }], guard := none }) (v := ?_) rfl (by kernel_rfl) (by kernel_rfl) (by kernel_rfl) (fun _ _ _ h => h) (Or.inl ⟨by rfl, ?_⟩) (by assumption) ?_
    rotate_left
    · intro w hSw; (try dsimp only at hSw); go_simp; try with_reducible rfl
    (try simp only [Act.put, List.setIfInBounds_toArray, List.set_cons_zero, List.set_cons_succ])
    refine wpAnyH_take (i := 9) (oi := { dst := some 36, op := Op.fieldAddr 27 (Operand.tmp 35) 0, type := 0, pos := "text.go:91", after := #[{ on := 8, ground := Ground.data }, { on := 0, ground := Ground.phase }, { on := 1, ground := Ground.phase }, { on := 2, ground := Ground.phase }, { on := 3, ground := Ground.phase }, { on := 4, ground := Ground.phase }, { on := 5, ground := Ground.phase }, { on := 6, ground := Ground.phase }, { on := 7, ground := Ground.phase }], guard := none }) (v := ?_) rfl (by kernel_rfl) (by kernel_rfl) (by kernel_rfl) (fun _ _ _ h => h) (Or.inl ⟨by rfl, ?_⟩) (by assumption) ?_
    rotate_left
    · intro w hSw; (try dsimp only at hSw); go_simp; try with_reducible rfl
    (try simp only [Act.put, List.setIfInBounds_toArray, List.set_cons_zero, List.set_cons_succ])
    refine wpAnyH_ready (rs := [10]) (by kernel_rfl) (by simp) ?_
    refine AllReadyH.cons (o := { dst := none, op := Op.store 22 (Operand.tmp 36) (Operand.tmp 34), type := 0, pos := "text.go:91", after := #[{ on := 9, ground := Ground.data }, { on := 7, ground := Ground.data }, { on := 7, ground := Ground.chain }, { on := 0, ground := Ground.phase }, { on := 1, ground := Ground.phase }, { on := 2, ground := Ground.phase }, { on := 3, ground := Ground.phase }, { on := 4, ground := Ground.phase }, { on := 5, ground := Ground.phase }, { on := 6, ground := Ground.phase }, { on := 7, ground := Ground.phase }], guard := none }) rfl (fun K hK => ?_) AllReadyH.nil
    obtain ⟨t0, t1, t2, t3⟩ := T7.out.cells
    obtain ⟨f0, f1, f2, f3⟩ := T7.out.free
    have hzz := T7.out.lt
    go_simp
    refine hK.out _ _ ?_ (fun hHeld => ?_)
    · exact trivial
    clear t0 t1 t2 t3 f0 f1 f2 f3
    clear hK K
    (try simp only [Act.put, List.setIfInBounds_toArray, List.set_cons_zero, List.set_cons_succ])
    refine wpAnyH_done (by kernel_rfl) ?_ _
    have c1' := cell_of_row _ g 1 _ _ _ FBn.out
    go_wp2
    go_ret
    exact (by first | exact ⟨ER.out, LW.out, fun he => ⟨_, _, _, _, by rw [SN.out he]; exact SVn.out⟩⟩ | exact ⟨ER.out, LW.out.drew, fun he => ⟨_, _, _, _, by rw [SN.out he]; exact SVn.out⟩⟩)
  · go_simp
    refine (fprod_any HFb.out).mono ?_
    rintro ev w5 ⟨rfl, ⟨A5', n5', c5', hfb⟩, hg⟩
    replace HSv := Lib.hid (HSv.out.turn hg HFb.out.blk (by omega) (by decide) (by decide) (by decide) (by decide))
    replace HBe := Lib.hid (HBe.out.trans (g_below hg (by omega) (by omega)))
    have hsz5 := hg.size
    clear HFb
    have HFb := Lib.hid hfb
    clear hfb hg
    refine hK.out _ _ ?_ (fun hHeld => ?_)
    · exact trivial
    clear hK K
    (try simp only [Act.put, List.setIfInBounds_toArray, List.set_cons_zero, List.set_cons_succ])
    refine wpAnyH_ready (rs := [4, 6]) (by kernel_rfl) (by simp) ?_
    refine AllReadyH.cons (o := { dst := some 31, op := Op.load 22 (Operand.tmp 30), type := 22, pos := "text.go:91", after := #[{ on := 3, ground := Ground.data }], guard := none }) rfl (fun K hK => ?_) (AllReadyH.cons (o := { dst := some 33, op := Op.buildSlice 22 1 #[(0, Operand.tmp 32)], type := 22, pos := "text.go:91", after := #[{ on := 5, ground := Ground.data }], guard := none }) rfl (fun K hK => ?_) AllReadyH.nil)
    · obtain ⟨t0, t1, t2, t3⟩ := HSv.out.box.cells
      go_simp
      refine hK.out _ _ ?_ (fun hHeld => ?_)
      · exact trivial
      clear t0 t1 t2 t3
      clear hK K
      (try simp only [Act.put, List.setIfInBounds_toArray, List.set_cons_zero, List.set_cons_succ])
      refine wpAnyH_ready (rs := [6]) (by kernel_rfl) (by simp) ?_
      refine AllReadyH.cons (o := { dst := some 33, op := Op.buildSlice 22 1 #[(0, Operand.tmp 32)], type := 22, pos := "text.go:91", after := #[{ on := 5, ground := Ground.data }], guard := none }) rfl (fun K hK => ?_) AllReadyH.nil
      go_simp
      refine hK.out _ _ ?_ (fun hHeld => ?_)
      · exact trivial
      obtain ⟨W6, hW6⟩ : ∃ W6, W6 = w5.alloc (.cells #[.string (str x0), .int .i64 d1, .int .i64 d2, .int .i64 d3, .int .i64 d4] 60) := ⟨_, rfl⟩
      have NB := Lib.hid (heap_new w5 (.cells #[.string (str x0), .int .i64 d1, .int .i64 d2, .int .i64 d3, .int .i64 d4] 60))
      replace HSv := Lib.hid (HSv.out.keep (below_new w5 (.cells #[.string (str x0), .int .i64 d1, .int .i64 d2, .int .i64 d3, .int .i64 d4] 60)))
      replace HFb := Lib.hid (HFb.out.keep (below_new w5 (.cells #[.string (str x0), .int .i64 d1, .int .i64 d2, .int .i64 d3, .int .i64 d4] 60)))
      replace HBe := Lib.hid (HBe.out.trans ((below_new w5 (.cells #[.string (str x0), .int .i64 d1, .int .i64 d2, .int .i64 d3, .int .i64 d4] 60)).mono (by omega)))
      have hsz6 := (below_new w5 (.cells #[.string (str x0), .int .i64 d1, .int .i64 d2, .int .i64 d3, .int .i64 d4] 60)).size
      rw [← hW6] at NB HSv HFb HBe hsz6 ⊢
      clear hW6
      clear hK K
      (try simp only [Act.put, List.setIfInBounds_toArray, List.set_cons_zero, List.set_cons_succ])
      refine wpAnyH_ready (rs := [7]) (by kernel_rfl) (by simp) ?_
      refine AllReadyH.cons (o := { dst := some 34, op := Op.call { callee := Callee.builtin Builtin.append, args := #[Operand.tmp 31, Operand.tmp 33], argTypes := #[22, 22] }, type := 22, pos := "text.go:91", after := #[{ on := 4, ground := Ground.data }, { on := 6, ground := Ground.data }, { on := 5, ground := Ground.chain }], guard := none }) rfl (fun K hK => ?_) AllReadyH.nil
      refine step_append_lies _ (by rfl) _ _ _ (by rfl) (gs + 1) 60 i0 (.agg #[.string ⟨#[]⟩, .int .i64 0, .int .i64 0, .int .i64 0, .int .i64 0]) 5 48 Tryz.underlying22 hi hz0 hz1 hz2 rfl (by decide) _ _ _ (by rfl) HSv.out.p.1 ⟨w5.heap.size, 0, none⟩ 1 1 (prE.cells ⟨x0, d1, d2, d3, d4⟩) (by rfl) rfl ?c1 ?c2 (by decide) ?c4 ?c5 ?c6 _ rfl ?_
      case c1 => exact World.news_of_block NB.out
      case c2 => exact prE.one ⟨x0, d1, d2, d3, d4⟩
      case c4 => unfold maxLen; omega
      case c5 => omega
      case c6 => omega
      intro gg cp w7 hown hgrow hat hlt7
      have T7 := Lib.hid (HSv.out.stay0 hgrow)
      have SVn := Lib.hid (HSv.out.app0 (x := ⟨x0, d1, d2, d3, d4⟩) HX.out hown hgrow)
      have FBn := Lib.hid (HSv.out.far0 (v' := (.slice (some ⟨gg, 0, none⟩) (s.ps.length + 1) cp)) hgrow g _ HFb.out.blk (by omega) (fun c fz e => by injection e with _ e2 _; revert e2; decide))
      have LW := Lib.hid (HBe.out.trans (HSv.out.low0 (v' := (.slice (some ⟨gg, 0, none⟩) (s.ps.length + 1) cp)) hgrow))
      clear hown hgrow hat hlt7
      refine hK.out _ _ ?_ (fun hHeld => ?_)
      · exact trivial
      clear hK K
      (try simp only [Act.put, List.setIfInBounds_toArray, List.set_cons_zero, List.set_cons_succ])
      refine wpAnyH_take (i := 8) (oi := { dst := some 35, op := Op.nilCheck (Operand.tmp 27), type := 0, pos := "text.go:91", after := #[{ on := 0, ground := Ground.data }, { on := 0, ground := Ground.phase }, { on := 1, ground := Ground.phase }, { on := 2, ground := Ground.phase }, { on := 3, ground := Ground.phase }, { on := 4, ground := Ground.phase }, { on := 5, ground := Ground.phase }, { on := 6, ground := Ground.phase }, { on := 7, ground := Ground.phase }], guard := none }) (v := ?_) rfl (by kernel_rfl) (by kernel_rfl) (by kernel_rfl) (fun _ _ _ h => h) (Or.inl ⟨by rfl, ?_⟩) (by assumption) ?_
      rotate_left
      · intro w hSw; (try dsimp only at hSw); go_simp; try with_reducible rfl
      (try simp only [Act.put, List.setIfInBounds_toArray, List.set_cons_zero, List.set_cons_succ])
      refine wpAnyH_take (i := 9) (oi := { dst := some 36, op := Op.fieldAddr 27 (Operand.tmp 35) 0, type := 0, pos := "text.go:91", after := #[{ on := 8, ground := Ground.data }, { on := 0, ground := Ground.phase }, { on := 1, ground := Ground.phase }, { on := 2, ground := Ground.phase }, { on := 3, ground := Ground.phase }, { on := 4, ground := Ground.phase }, { on := 5, ground := Ground.phase }, { on := 6, ground := Ground.phase }, { on := 7, ground := Ground.phase }], guard := none }) (v := ?_) rfl (by kernel_rfl) (by kernel_rfl) (by kernel_rfl) (fun _ _ _ h => h) (Or.inl ⟨by rfl, ?_⟩) (by assumption) ?_
      rotate_left
      · intro w hSw; (try dsimp only at hSw); go_simp; try with_reducible rfl
      (try simp only [Act.put, List.setIfInBounds_toArray, List.set_cons_zero, List.set_cons_succ])
      refine wpAnyH_ready (rs := [10]) (by kernel_rfl) (by simp) ?_
      refine AllReadyH.cons (o := { dst := none, op := Op.store 22 (Operand.tmp 36) (Operand.tmp 34), type := 0, pos := "text.go:91", after := #[{ on := 9, ground := Ground.data }, { on := 7, ground := Ground.data }, { on := 7, ground := Ground.chain }, { on := 0, ground := Ground.phase }, { on := 1, ground := Ground.phase }, { on := 2, ground := Ground.phase }, { on := 3, ground := Ground.phase }, { on := 4, ground := Ground.phase }, { on := 5, ground := Ground.phase }, { on := 6, ground := Ground.phase }, { on := 7, ground := Ground.phase }], guard := none }) rfl (fun K hK => ?_) AllReadyH.nil
      obtain ⟨t0, t1, t2, t3⟩ := T7.out.cells
      obtain ⟨f0, f1, f2, f3⟩ := T7.out.free
      have hzz := T7.out.lt
      go_simp
      refine hK.out _ _ ?_ (fun hHeld => ?_)
      · exact trivial
      clear t0 t1 t2 t3 f0 f1 f2 f3
      clear hK K
      (try simp only [Act.put, List.setIfInBounds_toArray, List.set_cons_zero, List.set_cons_succ])
      refine wpAnyH_done (by kernel_rfl) ?_ _
      have c1' := cell_of_row _ g 1 _ _ _ FBn.out
      go_wp2
      go_ret
      exact (by first | exact ⟨ER.out, LW.out, fun he => ⟨_, _, _, _, by rw [SN.out he]; exact SVn.out⟩⟩ | exact ⟨ER.out, LW.out.drew, fun he => ⟨_, _, _, _, by rw [SN.out he]; exact SVn.out⟩⟩)
    · go_simp
      refine hK.out _ _ ?_ (fun hHeld => ?_)
      · exact trivial
      obtain ⟨W6, hW6⟩ : ∃ W6, W6 = w5.alloc (.cells #[.string (str x0), .int .i64 d1, .int .i64 d2, .int .i64 d3, .int .i64 d4] 60) := ⟨_, rfl⟩
      have NB := Lib.hid (heap_new w5 (.cells #[.string (str x0), .int .i64 d1, .int .i64 d2, .int .i64 d3, .int .i64 d4] 60))
      replace HSv := Lib.hid (HSv.out.keep (below_new w5 (.cells #[.string (str x0), .int .i64 d1, .int .i64 d2, .int .i64 d3, .int .i64 d4] 60)))
      replace HFb := Lib.hid (HFb.out.keep (below_new w5 (.cells #[.string (str x0), .int .i64 d1, .int .i64 d2, .int .i64 d3, .int .i64 d4] 60)))
      replace HBe := Lib.hid (HBe.out.trans ((below_new w5 (.cells #[.string (str x0), .int .i64 d1, .int .i64 d2, .int .i64 d3, .int .i64 d4] 60)).mono (by omega)))
      have hsz6 := (below_new w5 (.cells #[.string (str x0), .int .i64 d1, .int .i64 d2, .int .i64 d3, .int .i64 d4] 60)).size
      rw [← hW6] at NB HSv HFb HBe hsz6 ⊢
      clear hW6
      clear hK K
      (try simp only [Act.put, List.setIfInBounds_toArray, List.set_cons_zero, List.set_cons_succ])
      refine wpAnyH_ready (rs := [4]) (by kernel_rfl) (by simp) ?_
      refine AllReadyH.cons (o := { dst := some 31, op := Op.load 22 (Operand.tmp 30), type := 22, pos := "text.go:91", after := #[{ on := 3, ground := Ground.data }], guard := none }) rfl (fun K hK => ?_) AllReadyH.nil
      obtain ⟨t0, t1, t2, t3⟩ := HSv.out.box.cells
      go_simp
      refine hK.out _ _ ?_ (fun hHeld => ?_)
      · exact trivial
      clear t0 t1 t2 t3
      clear hK K
      (try simp only [Act.put, List.setIfInBounds_toArray, List.set_cons_zero, List.set_cons_succ])
      refine wpAnyH_ready (rs := [7]) (by kernel_rfl) (by simp) ?_
      refine AllReadyH.cons (o := { dst := some 34, op := Op.call { callee := Callee.builtin Builtin.append, args := #[Operand.tmp 31, Operand.tmp 33], argTypes := #[22, 22] }, type := 22, pos := "text.go:91", after := #[{ on := 4, ground := Ground.data }, { on := 6, ground := Ground.data }, { on := 5, ground := Ground.chain }], guard := none }) rfl (fun K hK => ?_) AllReadyH.nil
      refine step_append_lies _ (by rfl) _ _ _ (by rfl) (gs + 1) 60 i0 (.agg #[.string ⟨#[]⟩, .int .i64 0, .int .i64 0, .int .i64 0, .int .i64 0]) 5 48 Tryz.underlying22 hi hz0 hz1 hz2 rfl (by decide) _ _ _ (by rfl) HSv.out.p.1 ⟨w5.heap.size, 0, none⟩ 1 1 (prE.cells ⟨x0, d1, d2, d3, d4⟩) (by rfl) rfl ?c1 ?c2 (by decide) ?c4 ?c5 ?c6 _ rfl ?_
      case c1 => exact World.news_of_block NB.out
      case c2 => exact prE.one ⟨x0, d1, d2, d3, d4⟩
      case c4 => unfold maxLen; omega
      case c5 => omega
      case c6 => omega
      intro gg cp w7 hown hgrow hat hlt7
      have T7 := Lib.hid (HSv.out.stay0 hgrow)
      have SVn := Lib.hid (HSv.out.app0 (x := ⟨x0, d1, d2, d3, d4⟩) HX.out hown hgrow)
      have FBn := Lib.hid (HSv.out.far0 (v' := (.slice (some ⟨gg, 0, none⟩) (s.ps.length + 1) cp)) hgrow g _ HFb.out.blk (by omega) (fun c fz e => by injection e with _ e2 _; revert e2; decide))
      have LW := Lib.hid (HBe.out.trans (HSv.out.low0 (v' := (.slice (some ⟨gg, 0, none⟩) (s.ps.length + 1) cp)) hgrow))
      clear hown hgrow hat hlt7
      refine hK.out _ _ ?_ (fun hHeld => ?_)
      · exact trivial
      clear hK K
      (try simp only [Act.put, List.setIfInBounds_toArray, List.set_cons_zero, List.set_cons_succ])
      refine wpAnyH_take (i := 8) (oi := { dst := some 35, op := Op.nilCheck (Operand.tmp 27), type := 0, pos := "text.go:91", after := #[{ on := 0, ground := Ground.data }, { on := 0, ground := Ground.phase }, { on := 1, ground := Ground.phase }, { on := 2, ground := Ground.phase }, { on := 3, ground := Ground.phase }, { on := 4, ground := Ground.phase }, { on := 5, ground := Ground.phase }, { on := 6, ground := Ground.phase }, { on := 7, ground := Ground.phase }], guard := none }) (v := ?_) rfl (by kernel_rfl) (by kernel_rfl) (by kernel_rfl) (fun _ _ _ h => h) (Or.inl ⟨by rfl, ?_⟩) (by assumption) ?_
      rotate_left
      · intro w hSw; (try dsimp only at hSw); go_simp; try with_reducible rfl
      (try simp only [Act.put, List.setIfInBounds_toArray, List.set_cons_zero, List.set_cons_succ])
      refine wpAnyH_take (i := 9) (oi := { dst := some 36, op := Op.fieldAddr 27 (Operand.tmp 35) 0, type := 0, pos := "text.go:91", after := #[{ on := 8, ground := Ground.data }, { on := 0, ground := Ground.phase }, { on := 1, ground := Ground.phase }, { on := 2, ground := Ground.phase }, { on := 3, ground := Ground.phase }, { on := 4, ground := Ground.phase }, { on := 5, ground := Ground.phase }, { on := 6, ground := Ground.phase }, { on := 7, ground := Ground.phase }], guard := none }) (v := ?_) rfl (by kernel_rfl) (by kernel_rfl) (by kernel_rfl) (fun _ _ _ h => h) (Or.inl ⟨by rfl, ?_⟩) (by assumption) ?_
      rotate_left
      · intro w hSw; (try dsimp only at hSw); go_simp; try with_reducible rfl
      (try simp only [Act.put, List.setIfInBounds_toArray, List.set_cons_zero, List.set_cons_succ])
      refine wpAnyH_ready (rs := [10]) (by kernel_rfl) (by simp) ?_
      refine AllReadyH.cons (o := { dst := none, op := Op.store 22 (Operand.tmp 36) (Operand.tmp 34), type := 0, pos := "text.go:91", after := #[{ on := 9, ground := Ground.data }, { on := 7, ground := Ground.data }, { on := 7, ground := Ground.chain }, { on := 0, ground := Ground.phase }, { on := 1, ground := Ground.phase }, { on := 2, ground := Ground.phase }, { on := 3, ground := Ground.phase }, { on := 4, ground := Ground.phase }, { on := 5, ground := Ground.phase }, { on := 6, ground := Ground.phase }, { on := 7, ground := Ground.phase }], guard := none }) rfl (fun K hK => ?_) AllReadyH.nil
      obtain ⟨t0, t1, t2, t3⟩ := T7.out.cells
      obtain ⟨f0, f1, f2, f3⟩ := T7.out.free
      have hzz := T7.out.lt
      go_simp
      refine hK.out _ _ ?_ (fun hHeld => ?_)
      · exact trivial
      clear t0 t1 t2 t3 f0 f1 f2 f3
      clear hK K
      (try simp only [Act.put, List.setIfInBounds_toArray, List.set_cons_zero, List.set_cons_succ])
      refine wpAnyH_done (by kernel_rfl) ?_ _
      have c1' := cell_of_row _ g 1 _ _ _ FBn.out
      go_wp2
      go_ret
      exact (by first | exact ⟨ER.out, LW.out, fun he => ⟨_, _, _, _, by rw [SN.out he]; exact SVn.out⟩⟩ | exact ⟨ER.out, LW.out.drew, fun he => ⟨_, _, _, _, by rw [SN.out he]; exact SVn.out⟩⟩)
set_option maxRecDepth 100000 in
set_option maxHeartbeats 16000000 in
theorem pline_b (gs : Nat) (s : Su) (A1 A2 A3 A4 : Option Addr) (c1 c2 c3 c4 : Nat) (A : Option Addr) (n c : Nat) (x : List UInt8) (r : List (List UInt8)) (w : World) (h : SV w gs s (.slice A1 s.ps.length c1) (.slice A2 s.bs.length c2) (.slice A3 s.cs.length c3) (.slice A4 s.as_.length c4)) (hw : Lst strE w A n c (x :: r)) (hn5 : n ≤ 5000) (h1 : x = MU.wBidder) (h2 : n = 5) (_hps : s.ps.length ≤ 5000) (hrow : s.bs.length ≤ 5000) : Calls Tryz.prog 29 #[.pointer (some ⟨gs, 0, none⟩), .slice A n c] w (PLp gs s (x :: r) w) := by
  obtain ⟨ad, rfl, hbk, y0, hn1, hxl⟩ := (Wd.of hw).head
  have hlen := hw.len
  have hcap := hw.cap
  subst h2
  obtain ⟨x0, x1, x2, x3, rfl⟩ : ∃ x0 x1 x2 x3, r = [x0, x1, x2, x3] := by
    match r, (show r.length = 4 by simp at hlen; omega) with
    | [x0, x1, x2, x3], _ => exact ⟨x0, x1, x2, x3, rfl⟩
  have h0 : x0.length ≤ 9223372036854775807 := hw.fine x0 (by simp)
  have hd1 := digE_rng x1
  have hd2 := digE_rng x2
  have hd3 := digE_rng x3
  have LL := Lib.hid (lineLen_b (kw_b h1) w)
  have KW := kw_b h1
  obtain ⟨q1, q2, q3, q4⟩ := KW
  have LN0 := line_bid s x0 x1 x2 x3
  subst h1
  have ER0 := Lib.hid LN0.1
  have SN0 := Lib.hid LN0.2
  have hc1 : c ≠ 1 := by omega
  have hg := h.box.lt
  have FB0 := Lib.hid (show FB (w.alloc (.cells #[.slice (some ⟨ad.block, ad.off + 1, none⟩) 4 (c - 1), .int .i64 0] 92)) w.heap.size (some ⟨ad.block, ad.off + 1, none⟩) 4 (c - 1) [x0, x1, x2, x3] 0 from
    ⟨heap_new _ _, by have := ((Wd.of hw).below (below_new w (.cells #[.slice (some ⟨ad.block, ad.off + 1, none⟩) 4 (c - 1), .int .i64 0] 92))).tail; rw [if_neg hc1] at this; exact this⟩)
  have HS0 := Lib.hid (h.keep (below_new w (.cells #[.slice (some ⟨ad.block, ad.off + 1, none⟩) 4 (c - 1), .int .i64 0] 92)))
  have B0 := Lib.hid ((below_new w (.cells #[.slice (some ⟨ad.block, ad.off + 1, none⟩) 4 (c - 1), .int .i64 0] 92)).mono (Nat.le_of_lt hg))
  have Y0 : Hid ((w.alloc (.cells #[.slice (some ⟨ad.block, ad.off + 1, none⟩) 4 (c - 1), .int .i64 0] 92)).cell? ad = some (.string (str MU.wBidder))) := Lib.hid (by rw [World.cell?_alloc_old _ _ _ (Nat.ne_of_lt hbk)]; exact y0)
  obtain ⟨i0, hi, hz0, hz1, hz2⟩ := info_parts infoBd
  clear hw h LN0
  go_enter Tryz.func29, Tryz.ntmps29
  go_wp2_with fail
  refine LL.out.mono ?_
  rintro ev w1 ⟨rfl, hw1⟩
  obtain rfl : w = w1 := hw1.symm
  clear hw1
  have hn1' : (1 : Int) ≤ (5 : Int) := by omega
  have hnc' : (5 : Int) ≤ (c : Int) := by omega
  go_upto_region 7 with (fail)
  obtain ⟨X, hX⟩ : ∃ X, X = w.alloc (.cells #[.slice (some ⟨ad.block, ad.off + 1, none⟩) 4 (c - 1), .int .i64 0] 92) := ⟨_, rfl⟩
  have hszX : w.heap.size < X.heap.size := by rw [hX]; simp
  rw [← hX] at FB0 HS0 B0 Y0 ⊢
  generalize hgv : w.heap.size = g at *
  clear hX y0 LL
  have y0 := Y0.out
  go_wp2
  clear y0 Y0 q1 q2 q3 q4 hlen hxl hbk hn1 hcap hn1' hnc' hc1
  generalize hdd1 : (MU.digE x1).1 = d1 at *
  generalize hdd2 : (MU.digE x2).1 = d2 at *
  generalize hdd3 : (MU.digE x3).1 = d3 at *
  have HX := Lib.hid (show bdE.fine ⟨x0, d1, d2, d3⟩ from ⟨h0, (by dsimp only; omega), (by dsimp only; omega), (by dsimp only; omega)⟩)
  have ER := Lib.hid (congrArg (fun e => Ending.returned (.int .i64 e)) ER0.out.symm)
  have SN := SN0
  have HSv := Lib.hid (HS0.out.keep (below_drawn X))
  have HFb := Lib.hid (FB0.out.keep (below_drawn X))
  have HBe := Lib.hid (B0.out.trans ((below_drawn X).mono (Nat.le_of_lt HS0.out.box.lt)))
  have hgX : g < X.drew.heap.size := HFb.out.lt
  clear HS0 FB0 B0 hszX
  refine wp_region_held_drew (S := fun w' => True) (by kernel_rfl) trivial (fun hHeld => ?_)
  refine wpAnyH_take (i := 0) (oi := { dst := some 39, op := Op.move (Operand.tmp 0), type := 73, pos := "text.go:93", after := #[], guard := none }) (v := ?_) rfl (by kernel_rfl) (by kernel_rfl) (by kernel_rfl) (fun _ _ _ h => h) (Or.inl ⟨by rfl, ?_⟩) (by assumption) ?_
  rotate_left
  · intro w hSw; (try dsimp only at hSw); go_simp; try with_reducible rfl
  (try simp only [Act.put, List.setIfInBounds_toArray, List.set_cons_zero, List.set_cons_succ])
  refine wpAnyH_take (i := 1) (oi := { dst := some 40, op := Op.move (Operand.tmp 0), type := 73, pos := "text.go:93", after := #[], guard := none }) (v := ?_) rfl (by kernel_rfl) (by kernel_rfl) (by kernel_rfl) (fun _ _ _ h => h) (Or.inl ⟨by rfl, ?_⟩) (by assumption) ?_
  rotate_left
  · intro w hSw; (try dsimp only at hSw); go_simp; try with_reducible rfl
  (try simp only [Act.put, List.setIfInBounds_toArray, List.set_cons_zero, List.set_cons_succ])
  refine wpAnyH_take (i := 2) (oi := { dst := some 41, op := Op.nilCheck (Operand.tmp 40), type := 0, pos := "text.go:93", after := #[{ on := 1, ground := Ground.data }], guard := none }) (v := ?_) rfl (by kernel_rfl) (by kernel_rfl) (by kernel_rfl) (fun _ _ _ h => h) (Or.inl ⟨by rfl, ?_⟩) (by assumption) ?_
  rotate_left
  · intro w hSw; (try dsimp only at hSw); go_simp; try with_reducible rfl
  (try simp only [Act.put, List.setIfInBounds_toArray, List.set_cons_zero, List.set_cons_succ])
  refine wpAnyH_take (i := 3) (oi := { dst := some 42, op := Op.fieldAddr 27 (Operand.tmp 41) 1, type := 0, pos := "text.go:93", after := #[{ on := 2, ground := Ground.data }], guard := none }) (v := ?_) rfl (by kernel_rfl) (by kernel_rfl) (by kernel_rfl) (fun _ _ _ h => h) (Or.inl ⟨by rfl, ?_⟩) (by assumption) ?_
  rotate_left
  · intro w hSw; (try dsimp only at hSw); go_simp; try with_reducible rfl
  (try simp only [Act.put, List.setIfInBounds_toArray, List.set_cons_zero, List.set_cons_succ])
  refine wpAnyH_ready (rs := [4, 5]) (by kernel_rfl) (by simp) ?_
  refine AllReadyH.cons (o := { dst := some 43, op := Op.load 23 (Operand.tmp 42), type := 23, pos := "text.go:93", after := #[{ on := 3, ground := Ground.data }], guard := none }) rfl (fun K hK => ?_) (AllReadyH.cons (o := { dst := some 44, op := Op.call { callee := Callee.value (Operand.func 54), args := #[Operand.tmp 6], argTypes := #[92] }, type := 64, pos := "text.go:93", after := #[], guard := none }) rfl (fun K hK => ?_) AllReadyH.nil)
  · obtain ⟨t0, t1, t2, t3⟩ := HSv.out.box.cells
    go_simp
    refine hK.out _ _ ?_ (fun hHeld => ?_)
    · exact trivial
    clear t0 t1 t2 t3
    clear hK K
    (try simp only [Act.put, List.setIfInBounds_toArray, List.set_cons_zero, List.set_cons_succ])
    refine wpAnyH_ready (rs := [5]) (by kernel_rfl) (by simp) ?_
    refine AllReadyH.cons (o := { dst := some 44, op := Op.call { callee := Callee.value (Operand.func 54), args := #[Operand.tmp 6], argTypes := #[92] }, type := 64, pos := "text.go:93", after := #[], guard := none }) rfl (fun K hK => ?_) AllReadyH.nil
    go_simp
    refine (fbid_any HFb.out).mono ?_
    rintro ev w5 ⟨rfl, ⟨A5', n5', c5', hfb⟩, hg⟩
    replace HSv := Lib.hid (HSv.out.turn hg HFb.out.blk (by omega) (by decide) (by decide) (by decide) (by decide))
    replace HBe := Lib.hid (HBe.out.trans (g_below hg (by omega) (by omega)))
    have hsz5 := hg.size
    clear HFb
    have HFb := Lib.hid hfb
    clear hfb hg
    refine hK.out _ _ ?_ (fun hHeld => ?_)
    · exact trivial
    clear hK K
    (try simp only [Act.put, List.setIfInBounds_toArray, List.set_cons_zero, List.set_cons_succ])
    refine wpAnyH_ready (rs := [6]) (by kernel_rfl) (by simp) ?_
    refine AllReadyH.cons (o := { dst := some 45, op := Op.buildSlice 23 1 #[(0, Operand.tmp 44)], type := 23, pos := "text.go:93", after := #[{ on := 5, ground := Ground.data }], guard := none }) rfl (fun K hK => ?_) AllReadyH.nil
    go_simp
    refine hK.out _ _ ?_ (fun hHeld => ?_)
    · exact trivial
    obtain ⟨W6, hW6⟩ : ∃ W6, W6 = w5.alloc (.cells #[.string (str x0), .int .i64 d1, .int .i64 d2, .int .i64 d3] 64) := ⟨_, rfl⟩
    have NB := Lib.hid (heap_new w5 (.cells #[.string (str x0), .int .i64 d1, .int .i64 d2, .int .i64 d3] 64))
    replace HSv := Lib.hid (HSv.out.keep (below_new w5 (.cells #[.string (str x0), .int .i64 d1, .int .i64 d2, .int .i64 d3] 64)))
    replace HFb := Lib.hid (HFb.out.keep (below_new w5 (.cells #[.string (str x0), .int .i64 d1, .int .i64 d2, .int .i64 d3] 64)))
    replace HBe := Lib.hid (HBe.out.trans ((below_new w5 (.cells #[.string (str x0), .int .i64 d1, .int .i64 d2, .int .i64 d3] 64)).mono (by omega)))
    have hsz6 := (below_new w5 (.cells #[.string (str x0), .int .i64 d1, .int .i64 d2, .int .i64 d3] 64)).size
    rw [← hW6] at NB HSv HFb HBe hsz6 ⊢
    clear hW6
    clear hK K
    (try simp only [Act.put, List.setIfInBounds_toArray, List.set_cons_zero, List.set_cons_succ])
    refine wpAnyH_ready (rs := [7]) (by kernel_rfl) (by simp) ?_
    refine AllReadyH.cons (o := { dst := some 46, op := Op.call { callee := Callee.builtin Builtin.append, args := #[Operand.tmp 43, Operand.tmp 45], argTypes := #[23, 23] }, type := 23, pos := "text.go:93", after := #[{ on := 4, ground := Ground.data }, { on := 6, ground := Ground.data }, { on := 5, ground := Ground.chain }], guard := none }) rfl (fun K hK => ?_) AllReadyH.nil
    refine step_append_lies _ (by rfl) _ _ _ (by rfl) (gs + 1) 64 i0 (.agg #[.string ⟨#[]⟩, .int .i64 0, .int .i64 0, .int .i64 0]) 4 40 Tryz.underlying23 hi hz0 hz1 hz2 rfl (by decide) _ _ _ (by rfl) HSv.out.b.1 ⟨w5.heap.size, 0, none⟩ 1 1 (bdE.cells ⟨x0, d1, d2, d3⟩) (by rfl) rfl ?c1 ?c2 (by decide) ?c4 ?c5 ?c6 _ rfl ?_
    case c1 => exact World.news_of_block NB.out
    case c2 => exact bdE.one ⟨x0, d1, d2, d3⟩
    case c4 => unfold maxLen; omega
    case c5 => omega
    case c6 => omega
    intro gg cp w7 hown hgrow hat hlt7
    have T7 := Lib.hid (HSv.out.stay1 hgrow)
    have SVn := Lib.hid (HSv.out.app1 (x := ⟨x0, d1, d2, d3⟩) HX.out hown hgrow)
    have FBn := Lib.hid (HSv.out.far1 (v' := (.slice (some ⟨gg, 0, none⟩) (s.bs.length + 1) cp)) hgrow g _ HFb.out.blk (by omega) (fun c fz e => by injection e with _ e2 _; revert e2; decide))
    have LW := Lib.hid (HBe.out.trans (HSv.out.low1 (v' := (.slice (some ⟨gg, 0, none⟩) (s.bs.length + 1) cp)) hgrow))
    clear hown hgrow hat hlt7
    refine hK.out _ _ ?_ (fun hHeld => ?_)
    · exact trivial
    clear hK K
    (try simp only [Act.put, List.setIfInBounds_toArray, List.set_cons_zero, List.set_cons_succ])
    refine wpAnyH_take (i := 8) (oi := { dst := some 47, op := Op.nilCheck (Operand.tmp 39), type := 0, pos := "text.go:93", after := #[{ on := 0, ground := Ground.data }, { on := 0, ground := Ground.phase }, { on := 1, ground := Ground.phase }, { on := 2, ground := Ground.phase }, { on := 3, ground := Ground.phase }, { on := 4, ground := Ground.phase }, { on := 5, ground := Ground.phase }, { on := 6, ground := Ground.phase }, { on := 7, ground := Ground.phase }], guard := none }) (v := ?_) rfl (by kernel_rfl) (by kernel_rfl) (by kernel_rfl) (fun _ _ _ h => h) (Or.inl ⟨by rfl, ?_⟩) (by assumption) ?_
    rotate_left
    · intro w hSw; (try dsimp only at hSw); go_simp; try with_reducible rfl
    (try simp only [Act.put, List.setIfInBounds_toArray, List.set_cons_zero, List.set_cons_succ])
    refine wpAnyH_take (i := 9) (oi := { dst := some 48, op := Op.fieldAddr 27 (Operand.tmp 47) 1, type := 0, pos := "text.go:93", after := #[{ on := 8, ground := Ground.data }, { on := 0, ground := Ground.phase }, { on := 1, ground := Ground.phase }, { on := 2, ground := Ground.phase }, { on := 3, ground := Ground.phase }, { on := 4, ground := Ground.phase }, { on := 5, ground := Ground.phase }, { on := 6, ground := Ground.phase }, { on := 7, ground := Ground.phase }], guard := none }) (v := ?_) rfl (by kernel_rfl) (by kernel_rfl) (by kernel_rfl) (fun _ _ _ h => h) (Or.inl ⟨by rfl, ?_⟩) (by assumption) ?_
    rotate_left
    · intro w hSw; (try dsimp only at hSw); go_simp; try with_reducible rfl
    (try simp only [Act.put, List.setIfInBounds_toArray, List.set_cons_zero, List.set_cons_succ])
    refine wpAnyH_ready (rs := [10]) (by kernel_rfl) (by simp) ?_
    refine AllReadyH.cons (o := { dst := none, op := Op.store 23 (Operand.tmp 48) (Operand.tmp 46), type := 0, pos := "text.go:93", after := #[{ on := 9, ground := Ground.data }, { on := 7, ground := Ground.data }, { on := 7, ground := Ground.chain }, { on := 0, ground := Ground.phase }, { on := 1, ground := Ground.phase }, { on := 2, ground := Ground.phase }, { on := 3, ground := Ground.phase }, { on := 4, ground := Ground.phase }, { on := 5, ground := Ground.phase }, { on := 6, ground := Ground.phase }, { on := 7, ground := Ground.phase }], guard := none }) rfl (fun K hK => ?_) AllReadyH.nil
    obtain ⟨t0, t1, t2, t3⟩ := T7.out.cells
    obtain ⟨f0, f1, f2, f3⟩ := T7.out.free
    have hzz := T7.out.lt
    go_simp
    refine hK.out _ _ ?_ (fun hHeld => ?_)
    · exact trivial
    clear t0 t1 t2 t3 f0 f1 f2 f3
    clear hK K
    (try simp only [Act.put, List.setIfInBounds_toArray, List.set_cons_zero, List.set_cons_succ])
    refine wpAnyH_done (by kernel_rfl) ?_ _
    have c1' := cell_of_row _ g 1 _ _ _ FBn.out
    go_wp2
    go_ret
    exact (by first | exact ⟨ER.out, LW.out, fun he => ⟨_, _, _, _, by rw [SN.out he]; exact SVn.out⟩⟩ | exact ⟨ER.out, LW.out.drew, fun he => ⟨_, _, _, _, by rw [SN.out he]; exact SVn.out⟩⟩)
  · go_simp
    refine (fbid_any HFb.out).mono ?_
    rintro ev w5 ⟨rfl, ⟨A5', n5', c5', hfb⟩, hg⟩
    replace HSv := Lib.hid (HSv.out.turn hg HFb.out.blk (by omega) (by decide) (by decide) (by decide) (by decide))
    replace HBe := Lib.hid (HBe.out.trans (g_below hg (by omega) (by omega)))
    have hsz5 := hg.size
    clear HFb
    have HFb := Lib.hid hfb
    clear hfb hg
    refine hK.out _ _ ?_ (fun hHeld => ?_)
    · exact trivial
    clear hK K
    (try simp only [Act.put, List.setIfInBounds_toArray, List.set_cons_zero, List.set_cons_succ])
    refine wpAnyH_ready (rs := [4, 6]) (by kernel_rfl) (by simp) ?_
    refine AllReadyH.cons (o := { dst := some 43, op := Op.load 23 (Operand.tmp 42), type := 23, pos := "text.go:93", after := #[{ on := 3, ground := Ground.data }], guard := none }) rfl (fun K hK => ?_) (AllReadyH.cons (o := { dst := some 45, op := Op.buildSlice 23 1 #[(0, Operand.tmp 44)], type := 23, pos := "text.go:93", after := #[{ on := 5, ground := Ground.data }], guard := none }) rfl (fun K hK => ?_) AllReadyH.nil)
    · obtain ⟨t0, t1, t2, t3⟩ := HSv.out.box.cells
      go_simp
      refine hK.out _ _ ?_ (fun hHeld => ?_)
      · exact trivial
      clear t0 t1 t2 t3
      clear hK K
      (try simp only [Act.put, List.setIfInBounds_toArray, List.set_cons_zero, List.set_cons_succ])
      refine wpAnyH_ready (rs := [6]) (by kernel_rfl) (by simp) ?_
      refine AllReadyH.cons (o := { dst := some 45, op := Op.buildSlice 23 1 #[(0, Operand.tmp 44)], type := 23, pos := "text.go:93", after := #[{ on := 5, ground := Ground.data }], guard := none }) rfl (fun K hK => ?_) AllReadyH.nil
      go_simp
      refine hK.out _ _ ?_ (fun hHeld => ?_)
      · exact trivial
      obtain ⟨W6, hW6⟩ : ∃ W6, W6 = w5.alloc (.cells #[.string (str x0), .int .i64 d1, .int .i64 d2, .int .i64 d3] 64) := ⟨_, rfl⟩
      have NB := Lib.hid (heap_new w5 (.cells #[.string (str x0), .int .i64 d1, .int .i64 d2, .int .i64 d3] 64))
      replace HSv := Lib.hid (HSv.out.keep (below_new w5 (.cells #[.string (str x0), .int .i64 d1, .int .i64 d2, .int .i64 d3] 64)))
      replace HFb := Lib.hid (HFb.out.keep (below_new w5 (.cells #[.string (str x0), .int .i64 d1, .int .i64 d2, .int .i64 d3] 64)))
      replace HBe := Lib.hid (HBe.out.trans ((below_new w5 (.cells #[.string (str x0), .int .i64 d1, .int .i64 d2, .int .i64 d3] 64)).mono (by omega)))
      have hsz6 := (below_new w5 (.cells #[.string (str x0), .int .i64 d1, .int .i64 d2, .int .i64 d3] 64)).size
      rw [← hW6] at NB HSv HFb HBe hsz6 ⊢
      clear hW6
      clear hK K
      (try simp only [Act.put, List.setIfInBounds_toArray, List.set_cons_zero, List.set_cons_succ])
      refine wpAnyH_ready (rs := [7]) (by kernel_rfl) (by simp) ?_
      refine AllReadyH.cons (o := { dst := some 46, op := Op.call { callee := Callee.builtin Builtin.append, args := #[Operand.tmp 43, Operand.tmp 45], argTypes := #[23, 23] }, type := 23, pos := "text.go:93", after := #[{ on := 4, ground := Ground.data }, { on := 6, ground := Ground.data }, { on := 5, ground := Ground.chain }], guard := none }) rfl (fun K hK => ?_) AllReadyH.nil
      refine step_append_lies _ (by rfl) _ _ _ (by rfl) (gs + 1) 64 i0 (.agg #[.string ⟨#[]⟩, .int .i64 0, .int .i64 0, .int .i64 0]) 4 40 Tryz.underlying23 hi hz0 hz1 hz2 rfl (by decide) _ _ _ (by rfl) HSv.out.b.1 ⟨w5.heap.size, 0, none⟩ 1 1 (bdE.cells ⟨x0, d1, d2, d3⟩) (by rfl) rfl ?c1 ?c2 (by decide) ?c4 ?c5 ?c6 _ rfl ?_
      case c1 => exact World.news_of_block NB.out
      case c2 => exact bdE.one ⟨x0, d1, d2, d3⟩
      case c4 => unfold maxLen; omega
      case c5 => omega
      case c6 => omega
      intro gg cp w7 hown hgrow hat hlt7
      have T7 := Lib.hid (HSv.out.stay1 hgrow)
      have SVn := Lib.hid (HSv.out.app1 (x := ⟨x0, d1, d2, d3⟩) HX.out hown hgrow)
      have FBn := Lib.hid (HSv.out.far1 (v' := (.slice (some ⟨gg, 0, none⟩) (s.bs.length + 1) cp)) hgrow g _ HFb.out.blk (by omega) (fun c fz e => by injection e with _ e2 _; revert e2; decide))
      have LW := Lib.hid (HBe.out.trans (HSv.out.low1 (v' := (.slice (some ⟨gg, 0, none⟩) (s.bs.length + 1) cp)) hgrow))
      clear hown hgrow hat hlt7
      refine hK.out _ _ ?_ (fun hHeld => ?_)
      · exact trivial
      clear hK K
      (try simp only [Act.put, List.setIfInBounds_toArray, List.set_cons_zero, List.set_cons_succ])
      refine wpAnyH_take (i := 8) (oi := { dst := some 47, op := Op.nilCheck (Operand.tmp 39), type := 0, pos := "text.go:93", after := #[{ on := 0, ground := Ground.data }, { on := 0, ground := Ground.phase }, { on := 1, ground := Ground.phase }, { on := 2, ground := Ground.phase }, { on := 3, ground := Ground.phase }, { on := 4, ground := Ground.phase }, { on := 5, ground := Ground.phase }, { on := 6, ground := Ground.phase }, { on := 7, ground := Ground.phase }], guard := none }) (v := ?_) rfl (by kernel_rfl) (by kernel_rfl) (by kernel_rfl) (fun _ _ _ h => h) (Or.inl ⟨by rfl, ?_⟩) (by assumption) ?_
      rotate_left
      · intro w hSw; (try dsimp only at hSw); go_simp; try with_reducible rfl
      (try simp only [Act.put, List.setIfInBounds_toArray, List.set_cons_zero, List.set_cons_succ])
      refine wpAnyH_take (i := 9) (oi := { dst := some 48, op := Op.fieldAddr 27 (Operand.tmp 47) 1, type := 0, pos := "text.go:93", after := #[{ on := 8, ground := Ground.data }, { on := 0, ground := Ground.phase }, { on := 1, ground := Ground.phase }, { on := 2, ground := Ground.phase }, { on := 3, ground := Ground.phase }, { on := 4, ground := Ground.phase }, { on := 5, ground := Ground.phase }, { on := 6, ground := Ground.phase }, { on := 7, ground := Ground.phase }], guard := none }) (v := ?_) rfl (by kernel_rfl) (by kernel_rfl) (by kernel_rfl) (fun _ _ _ h => h) (Or.inl ⟨by rfl, ?_⟩) (by assumption) ?_
      rotate_left
      · intro w hSw; (try dsimp only at hSw); go_simp; try with_reducible rfl
      (try simp only [Act.put, List.setIfInBounds_toArray, List.set_cons_zero, List.set_cons_succ])
      refine wpAnyH_ready (rs := [10]) (by kernel_rfl) (by simp) ?_
      refine AllReadyH.cons (o := { dst := none, op := Op.store 23 (Operand.tmp 48) (Operand.tmp 46), type := 0, pos := "text.go:93", after := #[{ on := 9, ground := Ground.data }, { on := 7, ground := Ground.data }, { on := 7, ground := Ground.chain }, { on := 0, ground := Ground.phase }, { on := 1, ground := Ground.phase }, { on := 2, ground := Ground.phase }, { on := 3, ground := Ground.phase }, { on := 4, ground := Ground.phase }, { on := 5, ground := Ground.phase }, { on := 6, ground := Ground.phase }, { on := 7, ground := Ground.phase }], guard := none }) rfl (fun K hK => ?_) AllReadyH.nil
      obtain ⟨t0, t1, t2, t3⟩ := T7.out.cells
      obtain ⟨f0, f1, f2, f3⟩ := T7.out.free
      have hzz := T7.out.lt
      go_simp
      refine hK.out _ _ ?_ (fun hHeld => ?_)
      · exact trivial
      clear t0 t1 t2 t3 f0 f1 f2 f3
      clear hK K
      (try simp only [Act.put, List.setIfInBounds_toArray, List.set_cons_zero, List.set_cons_succ])
      refine wpAnyH_done (by kernel_rfl) ?_ _
      have c1' := cell_of_row _ g 1 _ _ _ FBn.out
      go_wp2
      go_ret
      exact (by first | exact ⟨ER.out, LW.out, fun he => ⟨_, _, _, _, by rw [SN.out he]; exact SVn.out⟩⟩ | exact ⟨ER.out, LW.out.drew, fun he => ⟨_, _, _, _, by rw [SN.out he]; exact SVn.out⟩⟩)
    · go_simp
      refine hK.out _ _ ?_ (fun hHeld => ?_)
      · exact trivial
      obtain ⟨W6, hW6⟩ : ∃ W6, W6 = w5.alloc (.cells #[.string (str x0), .int .i64 d1, .int .i64 d2, .int .i64 d3] 64) := ⟨_, rfl⟩
      have NB := Lib.hid (heap_new w5 (.cells #[.string (str x0), .int .i64 d1, .int .i64 d2, .int .i64 d3] 64))
      replace HSv := Lib.hid (HSv.out.keep (below_new w5 (.cells #[.string (str x0), .int .i64 d1, .int .i64 d2, .int .i64 d3] 64)))
      replace HFb := Lib.hid (HFb.out.keep (below_new w5 (.cells #[.string (str x0), .int .i64 d1, .int .i64 d2, .int .i64 d3] 64)))
      replace HBe := Lib.hid (HBe.out.trans ((below_new w5 (.cells #[.string (str x0), .int .i64 d1, .int .i64 d2, .int .i64 d3] 64)).mono (by omega)))
      have hsz6 := (below_new w5 (.cells #[.string (str x0), .int .i64 d1, .int .i64 d2, .int .i64 d3] 64)).size
      rw [← hW6] at NB HSv HFb HBe hsz6 ⊢
      clear hW6
      clear hK K
      (try simp only [Act.put, List.setIfInBounds_toArray, List.set_cons_zero, List.set_cons_succ])
      refine wpAnyH_ready (rs := [4]) (by kernel_rfl) (by simp) ?_
      refine AllReadyH.cons (o := { dst := some 43, op := Op.load 23 (Operand.tmp 42), type := 23, pos := "text.go:93", after := #[{ on := 3, ground := Ground.data }], guard := none }) rfl (fun K hK => ?_) AllReadyH.nil
      obtain ⟨t0, t1, t2, t3⟩ := HSv.out.box.cells
      go_simp
      refine hK.out _ _ ?_ (fun hHeld => ?_)
      · exact trivial
      clear t0 t1 t2 t3
      clear hK K
      (try simp only [Act.put, List.setIfInBounds_toArray, List.set_cons_zero, List.set_cons_succ])
      refine wpAnyH_ready (rs := [7]) (by kernel_rfl) (by simp) ?_
      refine AllReadyH.cons (o := { dst := some 46, op := Op.call { callee := Callee.builtin Builtin.append, args := #[Operand.tmp 43, Operand.tmp 45], argTypes := #[23, 23] }, type := 23, pos := "text.go:93", after := #[{ on := 4, ground := Ground.data }, { on := 6, ground := Ground.data }, { on := 5, ground := Ground.chain }], guard := none }) rfl (fun K hK => ?_) AllReadyH.nil
      refine step_append_lies _ (by rfl) _ _ _ (by rfl) (gs + 1) 64 i0 (.agg #[.string ⟨#[]⟩, .int .i64 0, .int .i64 0, .int .i64 0]) 4 40 Tryz.underlying23 hi hz0 hz1 hz2 rfl (by decide) _ _ _ (by rfl) HSv.out.b.1 ⟨w5.heap.size, 0, none⟩ 1 1 (bdE.cells ⟨x0, d1, d2, d3⟩) (by rfl) rfl ?c1 ?c2 (by decide) ?c4 ?c5 ?c6 _ rfl ?_
      case c1 => exact World.news_of_block NB.out
      case c2 => exact bdE.one ⟨x0, d1, d2, d3⟩
      case c4 => unfold maxLen; omega
      case c5 => omega
      case c6 => omega
      intro gg cp w7 hown hgrow hat hlt7
      have T7 := Lib.hid (HSv.out.stay1 hgrow)
      have SVn := Lib.hid (HSv.out.app1 (x := ⟨x0, d1, d2, d3⟩) HX.out hown hgrow)
      have FBn := Lib.hid (HSv.out.far1 (v' := (.slice (some ⟨gg, 0, none⟩) (s.bs.length + 1) cp)) hgrow g _ HFb.out.blk (by omega) (fun c fz e => by injection e with _ e2 _; revert e2; decide))
      have LW := Lib.hid (HBe.out.trans (HSv.out.low1 (v' := (.slice (some ⟨gg, 0, none⟩) (s.bs.length + 1) cp)) hgrow))
      clear hown hgrow hat hlt7
      refine hK.out _ _ ?_ (fun hHeld => ?_)
      · exact trivial
      clear hK K
      (try simp only [Act.put, List.setIfInBounds_toArray, List.set_cons_zero, List.set_cons_succ])
      refine wpAnyH_take (i := 8) (oi := { dst := some 47, op := Op.nilCheck (Operand.tmp 39), type := 0, pos := "text.go:93", after := #[{ on := 0, ground := Ground.data }, { on := 0, ground := Ground.phase }, { on := 1, ground := Ground.phase }, { on := 2, ground := Ground.phase }, { on := 3, ground := Ground.phase }, { on := 4, ground := Ground.phase }, { on := 5, ground := Ground.phase }, { on := 6, ground := Ground.phase }, { on := 7, ground := Ground.phase }], guard := none }) (v := ?_) rfl (by kernel_rfl) (by kernel_rfl) (by kernel_rfl) (fun _ _ _ h => h) (Or.inl ⟨by rfl, ?_⟩) (by assumption) ?_
      rotate_left
      · intro w hSw; (try dsimp only at hSw); go_simp; try with_reducible rfl
      (try simp only [Act.put, List.setIfInBounds_toArray, List.set_cons_zero, List.set_cons_succ])
      refine wpAnyH_take (i := 9) (oi := { dst := some 48, op := Op.fieldAddr 27 (Operand.tmp 47) 1, type := 0, pos := "text.go:93", after := #[{ on := 8, ground := Ground.data }, { on := 0, ground := Ground.phase }, { on := 1, ground := Ground.phase }, { on := 2, ground := Ground.phase }, { on := 3, ground := Ground.phase }, { on := 4, ground := Ground.phase }, { on := 5, ground := Ground.phase }, { on := 6, ground := Ground.phase }, { on := 7, ground := Ground.phase }], guard := none }) (v := ?_) rfl (by kernel_rfl) (by kernel_rfl) (by kernel_rfl) (fun _ _ _ h => h) (Or.inl ⟨by rfl, ?_⟩) (by assumption) ?_
      rotate_left
      · intro w hSw; (try dsimp only at hSw); go_simp; try with_reducible rfl
      (try simp only [Act.put, List.setIfInBounds_toArray, List.set_cons_zero, List.set_cons_succ])
      refine wpAnyH_ready (rs := [10]) (by kernel_rfl) (by simp) ?_
      refine AllReadyH.cons (o := { dst := none, op := Op.store 23 (Operand.tmp 48) (Operand.tmp 46), type := 0, pos := "text.go:93", after := #[{ on := 9, ground := Ground.data }, { on := 7, ground := Ground.data }, { on := 7, ground := Ground.chain }, { on := 0, ground := Ground.phase }, { on := 1, ground := Ground.phase }, { on := 2, ground := Ground.phase }, { on := 3, ground := Ground.phase }, { on := 4, ground := Ground.phase }, { on := 5, ground := Ground.phase }, { on := 6, ground := Ground.phase }, { on := 7, ground := Ground.phase }], guard := none }) rfl (fun K hK => ?_) AllReadyH.nil
      obtain ⟨t0, t1, t2, t3⟩ := T7.out.cells
      obtain ⟨f0, f1, f2, f3⟩ := T7.out.free
      have hzz := T7.out.lt
      go_simp
      refine hK.out _ _ ?_ (fun hHeld => ?_)
      · exact trivial
      clear t0 t1 t2 t3 f0 f1 f2 f3
      clear hK K
      (try simp only [Act.put, List.setIfInBounds_toArray, List.set_cons_zero, List.set_cons_succ])
      refine wpAnyH_done (by kernel_rfl) ?_ _
      have c1' := cell_of_row _ g 1 _ _ _ FBn.out
      go_wp2
      go_ret
      exact (by first | exact ⟨ER.out, LW.out, fun he => ⟨_, _, _, _, by rw [SN.out he]; exact SVn.out⟩⟩ | exact ⟨ER.out, LW.out.drew, fun he => ⟨_, _, _, _, by rw [SN.out he]; exact SVn.out⟩⟩)
set_option maxRecDepth 100000 in
set_option maxHeartbeats 16000000 in
theorem pline_c (gs : Nat) (s : Su) (A1 A2 A3 A4 : Option Addr) (c1 c2 c3 c4 : Nat) (A : Option Addr) (n c : Nat) (x : List UInt8) (r : List (List UInt8)) (w : World) (h : SV w gs s (.slice A1 s.ps.length c1) (.slice A2 s.bs.length c2) (.slice A3 s.cs.length c3) (.slice A4 s.as_.length c4)) (hw : Lst strE w A n c (x :: r)) (hn5 : n ≤ 5000) (h1 : x = MU.wCap) (h2 : n = 4) (hbs : ∀ b ∈ s.bs, nameB b.name = true) (hbl : s.bs.length ≤ 5000) (_hps : s.ps.length ≤ 5000) (hrow : s.cs.length ≤ 5000) : Calls Tryz.prog 29 #[.pointer (some ⟨gs, 0, none⟩), .slice A n c] w (PLp gs s (x :: r) w) := by
  obtain ⟨ad, rfl, hbk, y0, hn1, hxl⟩ := (Wd.of hw).head
  have hlen := hw.len
  have hcap := hw.cap
  subst h2
  obtain ⟨x0, x1, x2, rfl⟩ : ∃ x0 x1 x2, r = [x0, x1, x2] := by
    match r, (show r.length = 3 by simp at hlen; omega) with
    | [x0, x1, x2], _ => exact ⟨x0, x1, x2, rfl⟩
  have h0 : x0.length ≤ 9223372036854775807 := hw.fine x0 (by simp)
  have hd1 := digE_rng x1
  have hd2 := digE_rng x2
  have hv0 := cpV_rng s.bs x0
  have LL := Lib.hid (lineLen_c (kw_c h1) w)
  have KW := kw_c h1
  obtain ⟨q1, q2, q3, q4⟩ := KW
  have LN0 := line_cap s x0 x1 x2 hbs
  subst h1
  have ER0 := Lib.hid LN0.1
  have SN0 := Lib.hid LN0.2
  have hc1 : c ≠ 1 := by omega
  have hg := h.box.lt
  have FB0 := Lib.hid (show FB (w.alloc (.cells #[.slice (some ⟨ad.block, ad.off + 1, none⟩) 3 (c - 1), .int .i64 0] 92)) w.heap.size (some ⟨ad.block, ad.off + 1, none⟩) 3 (c - 1) [x0, x1, x2] 0 from
    ⟨heap_new _ _, by have := ((Wd.of hw).below (below_new w (.cells #[.slice (some ⟨ad.block, ad.off + 1, none⟩) 3 (c - 1), .int .i64 0] 92))).tail; rw [if_neg hc1] at this; exact this⟩)
  have HS0 := Lib.hid (h.keep (below_new w (.cells #[.slice (some ⟨ad.block, ad.off + 1, none⟩) 3 (c - 1), .int .i64 0] 92)))
  have B0 := Lib.hid ((below_new w (.cells #[.slice (some ⟨ad.block, ad.off + 1, none⟩) 3 (c - 1), .int .i64 0] 92)).mono (Nat.le_of_lt hg))
  have Y0 : Hid ((w.alloc (.cells #[.slice (some ⟨ad.block, ad.off + 1, none⟩) 3 (c - 1), .int .i64 0] 92)).cell? ad = some (.string (str MU.wCap))) := Lib.hid (by rw [World.cell?_alloc_old _ _ _ (Nat.ne_of_lt hbk)]; exact y0)
  have LNB : Hid (LN bdE (w.alloc (.cells #[.slice (some ⟨ad.block, ad.off + 1, none⟩) 3 (c - 1), .int .i64 0] 92)) w.heap.size A2 s.bs.length c2 s.bs) := Lib.hid (by
    obtain ⟨Ax, cx, hvx, hlx⟩ := h.b.form (by omega)
    cases hvx
    exact (LN.of hlx).below (below_new w _))
  obtain ⟨i0, hi, hz0, hz1, hz2⟩ := info_parts infoCp
  clear hw h LN0
  go_enter Tryz.func29, Tryz.ntmps29
  go_wp2_with fail
  refine LL.out.mono ?_
  rintro ev w1 ⟨rfl, hw1⟩
  obtain rfl : w = w1 := hw1.symm
  clear hw1
  have hn1' : (1 : Int) ≤ (4 : Int) := by omega
  have hnc' : (4 : Int) ≤ (c : Int) := by omega
  go_upto_region 7 with (fail)
  obtain ⟨X, hX⟩ : ∃ X, X = w.alloc (.cells #[.slice (some ⟨ad.block, ad.off + 1, none⟩) 3 (c - 1), .int .i64 0] 92) := ⟨_, rfl⟩
  have hszX : w.heap.size < X.heap.size := by rw [hX]; simp
  rw [← hX] at FB0 HS0 B0 Y0 LNB ⊢
  generalize hgv : w.heap.size = g at *
  clear hX y0 LL
  have y0 := Y0.out
  go_wp2
  clear y0 Y0 q1 q2 q3 q4 hlen hxl hbk hn1 hcap hn1' hnc' hc1
  generalize hdd1 : (MU.digE x1).1 = d1 at *
  generalize hdd2 : (MU.digE x2).1 = d2 at *
  generalize hdd0 : cpV s.bs x0 = d0 at *
  have HX := Lib.hid (show cpE.fine ⟨d0, d1, d2⟩ from ⟨(by dsimp only; omega), (by dsimp only; omega), (by dsimp only; omega)⟩)
  have ER := Lib.hid (congrArg (fun e => Ending.returned (.int .i64 e)) ER0.out.symm)
  have SN := SN0
  have HSv := Lib.hid (HS0.out.keep (below_drawn X))
  have HFb := Lib.hid (FB0.out.keep (below_drawn X))
  have HBe := Lib.hid (B0.out.trans ((below_drawn X).mono (Nat.le_of_lt HS0.out.box.lt)))
  have HLN := Lib.hid (LNB.out.below ((below_drawn X).mono (Nat.le_of_lt hszX)))
  have HSx := Lib.hid (HSv.out.box.cells).2.1
  clear LNB
  have hgX : g < X.drew.heap.size := HFb.out.lt
  clear HS0 FB0 B0 hszX
  refine wp_region_held_drew (S := fun w' => w'.cell? ⟨gs, 1, none⟩ = some (.slice A2 s.bs.length c2)) (by kernel_rfl) HSx.out (fun hHeld => ?_)
  refine wpAnyH_take (i := 0) (oi := { dst := some 51, op := Op.move (Operand.tmp 0), type := 73, pos := "text.go:95", after := #[], guard := none }) (v := ?_) rfl (by kernel_rfl) (by kernel_rfl) (by kernel_rfl) (fun _ _ _ h => h) (Or.inl ⟨by rfl, ?_⟩) (by assumption) ?_
  rotate_left
  · intro w hSw; (try dsimp only at hSw); go_simp; try with_reducible rfl
  (try simp only [Act.put, List.setIfInBounds_toArray, List.set_cons_zero, List.set_cons_succ])
  refine wpAnyH_take (i := 1) (oi := { dst := some 52, op := Op.move (Operand.tmp 0), type := 73, pos := "text.go:95", after := #[], guard := none }) (v := ?_) rfl (by kernel_rfl) (by kernel_rfl) (by kernel_rfl) (fun _ _ _ h => h) (Or.inl ⟨by rfl, ?_⟩) (by assumption) ?_
  rotate_left
  · intro w hSw; (try dsimp only at hSw); go_simp; try with_reducible rfl
  (try simp only [Act.put, List.setIfInBounds_toArray, List.set_cons_zero, List.set_cons_succ])
  refine wpAnyH_take (i := 2) (oi := { dst := some 53, op := Op.nilCheck (Operand.tmp 52), type := 0, pos := "text.go:95", after := #[{ on := 1, ground := Ground.data }], guard := none }) (v := ?_) rfl (by kernel_rfl) (by kernel_rfl) (by kernel_rfl) (fun _ _ _ h => h) (Or.inl ⟨by rfl, ?_⟩) (by assumption) ?_
  rotate_left
  · intro w hSw; (try dsimp only at hSw); go_simp; try with_reducible rfl
  (try simp only [Act.put, List.setIfInBounds_toArray, List.set_cons_zero, List.set_cons_succ])
  refine wpAnyH_take (i := 3) (oi := { dst := some 54, op := Op.fieldAddr 27 (Operand.tmp 53) 2, type := 0, pos := "text.go:95", after := #[{ on := 2, ground := Ground.data }], guard := none }) (v := ?_) rfl (by kernel_rfl) (by kernel_rfl) (by kernel_rfl) (fun _ _ _ h => h) (Or.inl ⟨by rfl, ?_⟩) (by assumption) ?_
  rotate_left
  · intro w hSw; (try dsimp only at hSw); go_simp; try with_reducible rfl
  (try simp only [Act.put, List.setIfInBounds_toArray, List.set_cons_zero, List.set_cons_succ])
  refine wpAnyH_take (i := 5) (oi := { dst := some 56, op := Op.move (Operand.tmp 0), type := 73, pos := "text.go:95", after := #[], guard := none }) (v := ?_) rfl (by kernel_rfl) (by kernel_rfl) (by kernel_rfl) (fun _ _ _ h => h) (Or.inl ⟨by rfl, ?_⟩) (by assumption) ?_
  rotate_left
  · intro w hSw; (try dsimp only at hSw); go_simp; try with_reducible rfl
  (try simp only [Act.put, List.setIfInBounds_toArray, List.set_cons_zero, List.set_cons_succ])
  refine wpAnyH_take (i := 6) (oi := { dst := some 57, op := Op.nilCheck (Operand.tmp 56), type := 0, pos := "text.go:95", after := #[{ on := 5, ground := Ground.data }], guard := none }) (v := ?_) rfl (by kernel_rfl) (by kernel_rfl) (by kernel_rfl) (fun _ _ _ h => h) (Or.inl ⟨by rfl, ?_⟩) (by assumption) ?_
  rotate_left
  · intro w hSw; (try dsimp only at hSw); go_simp; try with_reducible rfl
  (try simp only [Act.put, List.setIfInBounds_toArray, List.set_cons_zero, List.set_cons_succ])
  refine wpAnyH_take (i := 7) (oi := { dst := some 58, op := Op.fieldAddr 27 (Operand.tmp 57) 1, type := 0, pos := "text.go:95", after := #[{ on := 6, ground := Ground.data }], guard := none }) (v := ?_) rfl (by kernel_rfl) (by kernel_rfl) (by kernel_rfl) (fun _ _ _ h => h) (Or.inl ⟨by rfl, ?_⟩) (by assumption) ?_
  rotate_left
  · intro w hSw; (try dsimp only at hSw); go_simp; try with_reducible rfl
  (try simp only [Act.put, List.setIfInBounds_toArray, List.set_cons_zero, List.set_cons_succ])
  refine wpAnyH_take (i := 8) (oi := { dst := some 59, op := Op.load 23 (Operand.tmp 58), type := 23, pos := "text.go:95", after := #[{ on := 7, ground := Ground.data }], guard := none }) (v := ?_) rfl (by kernel_rfl) (by kernel_rfl) (by kernel_rfl) (fun _ _ _ h => h) (Or.inl ⟨by rfl, ?_⟩) (by assumption) ?_
  rotate_left
  · intro w hSw; (try dsimp only at hSw); go_simp; try with_reducible rfl
  (try simp only [Act.put, List.setIfInBounds_toArray, List.set_cons_zero, List.set_cons_succ])
  refine wpAnyH_ready (rs := [4, 9]) (by kernel_rfl) (by simp) ?_
  refine AllReadyH.cons (o := { dst := some 55, op := Op.load 24 (Operand.tmp 54), type := 24, pos := "text.go:95", after := #[{ on := 3, ground := Ground.data }], guard := none }) rfl (fun K hK => ?_) (AllReadyH.cons (o := { dst := some 60, op := Op.call { callee := Callee.value (Operand.func 55), args := #[Operand.tmp 6, Operand.tmp 59], argTypes := #[92, 23] }, type := 66, pos := "text.go:95", after := #[{ on := 8, ground := Ground.data }], guard := none }) rfl (fun K hK => ?_) AllReadyH.nil)
  · obtain ⟨t0, t1, t2, t3⟩ := HSv.out.box.cells
    go_simp
    refine hK.out _ _ ?_ (fun hHeld => ?_)
    · exact HSx.out
    clear t0 t1 t2 t3
    clear hK K
    (try simp only [Act.put, List.setIfInBounds_toArray, List.set_cons_zero, List.set_cons_succ])
    refine wpAnyH_ready (rs := [9]) (by kernel_rfl) (by simp) ?_
    refine AllReadyH.cons (o := { dst := some 60, op := Op.call { callee := Callee.value (Operand.func 55), args := #[Operand.tmp 6, Operand.tmp 59], argTypes := #[92, 23] }, type := 66, pos := "text.go:95", after := #[{ on := 8, ground := Ground.data }], guard := none }) rfl (fun K hK => ?_) AllReadyH.nil
    go_simp
    refine (fcap_any HFb.out A2 s.bs.length c2 s.bs HLN.out).mono ?_
    rintro ev w5 ⟨rfl, ⟨A5', n5', c5', hfb⟩, hg⟩
    replace HSv := Lib.hid (HSv.out.turn hg HFb.out.blk (by omega) (by decide) (by decide) (by decide) (by decide))
    replace HBe := Lib.hid (HBe.out.trans (g_below hg (by omega) (by omega)))
    have hsz5 := hg.size
    clear HFb
    have HFb := Lib.hid hfb
    clear hfb hg
    clear HLN
    clear HSx
    have HSx := Lib.hid (HSv.out.box.cells).2.1
    refine hK.out _ _ ?_ (fun hHeld => ?_)
    · exact HSx.out
    clear hK K
    (try simp only [Act.put, List.setIfInBounds_toArray, List.set_cons_zero, List.set_cons_succ])
    refine wpAnyH_ready (rs := [10]) (by kernel_rfl) (by simp) ?_
    refine AllReadyH.cons (o := { dst := some 61, op := Op.buildSlice 24 1 #[(0, Operand.tmp 60)], type := 24, pos := "text.go:95", after := #[{ on := 9, ground := Ground.data }], guard := none }) rfl (fun K hK => ?_) AllReadyH.nil
    go_simp
    have HSy := Lib.hid (show (w5.alloc (.cells #[.int .i64 d0, .int .i64 d1, .int .i64 d2] 66)).cell? ⟨gs, 1, none⟩ = some (.slice A2 s.bs.length c2) by rw [World.cell?_alloc_old _ _ _ (Nat.ne_of_lt (HSv.out.box.lt))]; exact HSx.out)
    clear HSx
    have HSx := HSy
    clear HSy
    refine hK.out _ _ ?_ (fun hHeld => ?_)
    · exact HSx.out
    obtain ⟨W6, hW6⟩ : ∃ W6, W6 = w5.alloc (.cells #[.int .i64 d0, .int .i64 d1, .int .i64 d2] 66) := ⟨_, rfl⟩
    have NB := Lib.hid (heap_new w5 (.cells #[.int .i64 d0, .int .i64 d1, .int .i64 d2] 66))
    replace HSv := Lib.hid (HSv.out.keep (below_new w5 (.cells #[.int .i64 d0, .int .i64 d1, .int .i64 d2] 66)))
    replace HFb := Lib.hid (HFb.out.keep (below_new w5 (.cells #[.int .i64 d0, .int .i64 d1, .int .i64 d2] 66)))
    replace HBe := Lib.hid (HBe.out.trans ((below_new w5 (.cells #[.int .i64 d0, .int .i64 d1, .int .i64 d2] 66)).mono (by omega)))
    have hsz6 := (below_new w5 (.cells #[.int .i64 d0, .int .i64 d1, .int .i64 d2] 66)).size
    rw [← hW6] at NB HSv HFb HBe hsz6 ⊢
    clear hW6
    clear HSx
    have HSx := Lib.hid (HSv.out.box.cells).2.1
    clear hK K
    (try simp only [Act.put, List.setIfInBounds_toArray, List.set_cons_zero, List.set_cons_succ])
    refine wpAnyH_ready (rs := [11]) (by kernel_rfl) (by simp) ?_
    refine AllReadyH.cons (o := { dst := some 62, op := Op.call { callee := Callee.builtin Builtin.append, args := #[Operand.tmp 55, Operand.tmp 61], argTypes := #[24, 24] }, type := 24, pos := "text.go:95", after := #[{ on := 4, ground := Ground.data }, { on := 10, ground := Ground.data }, { on := 9, ground := Ground.chain }], guard := none }) rfl (fun K hK => ?_) AllReadyH.nil
    refine step_append_lies _ (by rfl) _ _ _ (by rfl) (gs + 1) 66 i0 (.agg #[.int .i64 0, .int .i64 0, .int .i64 0]) 3 24 Tryz.underlying24 hi hz0 hz1 hz2 rfl (by decide) _ _ _ (by rfl) HSv.out.c.1 ⟨w5.heap.size, 0, none⟩ 1 1 (cpE.cells ⟨d0, d1, d2⟩) (by rfl) rfl ?c1 ?c2 (by decide) ?c4 ?c5 ?c6 _ rfl ?_
    case c1 => exact World.news_of_block NB.out
    case c2 => exact cpE.one ⟨d0, d1, d2⟩
    case c4 => unfold maxLen; omega
    case c5 => omega
    case c6 => omega
    intro gg cp w7 hown hgrow hat hlt7
    have T7 := Lib.hid (HSv.out.stay2 hgrow)
    have SVn := Lib.hid (HSv.out.app2 (x := ⟨d0, d1, d2⟩) HX.out hown hgrow)
    have FBn := Lib.hid (HSv.out.far2 (v' := (.slice (some ⟨gg, 0, none⟩) (s.cs.length + 1) cp)) hgrow g _ HFb.out.blk (by omega) (fun c fz e => by injection e with _ e2 _; revert e2; decide))
    have LW := Lib.hid (HBe.out.trans (HSv.out.low2 (v' := (.slice (some ⟨gg, 0, none⟩) (s.cs.length + 1) cp)) hgrow))
    have HSz := Lib.hid (T7.out.cells).2.1
    clear hown hgrow hat hlt7
    clear HSx
    have HSx := HSz
    clear HSz
    refine hK.out _ _ ?_ (fun hHeld => ?_)
    · exact HSx.out
    clear hK K
    (try simp only [Act.put, List.setIfInBounds_toArray, List.set_cons_zero, List.set_cons_succ])
    refine wpAnyH_take (i := 12) (oi := { dst := some 63, op := Op.nilCheck (Operand.tmp 51), type := 0, pos := "text.go:95", after := #[{ on := 0, ground := Ground.data }, { on := 0, ground := Ground.phase }, { on := 1, ground := Ground.phase }, { on := 2, ground := Ground.phase }, { on := 3, ground := Ground.phase }, { on := 4, ground := Ground.phase }, { on := 5, ground := Ground.phase }, { on := 6, ground := Ground.phase }, { on := 7, ground := Ground.phase }, { on := 8, ground := Ground.phase }, { on := 9, ground := Ground.phase }, { on := 10, ground := Ground.phase }, { on := 11, ground := Ground.phase }], guard := none }) (v := ?_) rfl (by kernel_rfl) (by kernel_rfl) (by kernel_rfl) (fun _ _ _ h => h) (Or.inl ⟨by rfl, ?_⟩) (by assumption) ?_
    rotate_left
    · intro w hSw; (try dsimp only at hSw); go_simp; try with_reducible rfl
    (try simp only [Act.put, List.setIfInBounds_toArray, List.set_cons_zero, List.set_cons_succ])
    refine wpAnyH_take (i := 13) (oi := { dst := some 64, op := Op.fieldAddr 27 (Operand.tmp 63) 2, type := 0, pos := "text.go:95", after := #[{ on := 12, ground := Ground.data }, { on := 0, ground := Ground.phase }, { on := 1, ground := Ground.phase }, { on := 2, ground := Ground.phase }, { on := 3, ground := Ground.phase }, { on := 4, ground := Ground.phase }, { on := 5, ground := Ground.phase }, { on := 6, ground := Ground.phase }, { on := 7, ground := Ground.phase }, { on := 8, ground := Ground.phase }, { on := 9, ground := Ground.phase }, { on := 10, ground := Ground.phase }, { on := 11, ground := Ground.phase }], guard := none }) (v := ?_) rfl (by kernel_rfl) (by kernel_rfl) (by kernel_rfl) (fun _ _ _ h => h) (Or.inl ⟨by rfl, ?_⟩) (by assumption) ?_
    rotate_left
    · intro w hSw; (try dsimp only at hSw); go_simp; try with_reducible rfl
    (try simp only [Act.put, List.setIfInBounds_toArray, List.set_cons_zero, List.set_cons_succ])
    refine wpAnyH_ready (rs := [14]) (by kernel_rfl) (by simp) ?_
    refine AllReadyH.cons (o := { dst := none, op := Op.store 24 (Operand.tmp 64) (Operand.tmp 62), type := 0, pos := "text.go:95", after := #[{ on := 13, ground := Ground.data }, { on := 11, ground := Ground.data }, { on := 11, ground := Ground.chain }, { on := 0, ground := Ground.phase }, { on := 1, ground := Ground.phase }, { on := 2, ground := Ground.phase }, { on := 3, ground := Ground.phase }, { on := 4, ground := Ground.phase }, { on := 5, ground := Ground.phase }, { on := 6, ground := Ground.phase }, { on := 7, ground := Ground.phase }, { on := 8, ground := Ground.phase }, { on := 9, ground := Ground.phase }, { on := 10, ground := Ground.phase }, { on := 11, ground := Ground.phase }], guard := none }) rfl (fun K hK => ?_) AllReadyH.nil
    obtain ⟨t0, t1, t2, t3⟩ := T7.out.cells
    obtain ⟨f0, f1, f2, f3⟩ := T7.out.free
    have hzz := T7.out.lt
    go_simp
    have HSz := Lib.hid (SVn.out.box.cells).2.1
    clear HSx
    have HSx := HSz
    clear HSz
    refine hK.out _ _ ?_ (fun hHeld => ?_)
    · exact HSx.out
    clear t0 t1 t2 t3 f0 f1 f2 f3
    clear hK K
    (try simp only [Act.put, List.setIfInBounds_toArray, List.set_cons_zero, List.set_cons_succ])
    refine wpAnyH_done (by kernel_rfl) ?_ _
    have c1' := cell_of_row _ g 1 _ _ _ FBn.out
    go_wp2
    go_ret
    exact (by first | exact ⟨ER.out, LW.out, fun he => ⟨_, _, _, _, by rw [SN.out he]; exact SVn.out⟩⟩ | exact ⟨ER.out, LW.out.drew, fun he => ⟨_, _, _, _, by rw [SN.out he]; exact SVn.out⟩⟩)
  · go_simp
    refine (fcap_any HFb.out A2 s.bs.length c2 s.bs HLN.out).mono ?_
    rintro ev w5 ⟨rfl, ⟨A5', n5', c5', hfb⟩, hg⟩
    replace HSv := Lib.hid (HSv.out.turn hg HFb.out.blk (by omega) (by decide) (by decide) (by decide) (by decide))
    replace HBe := Lib.hid (HBe.out.trans (g_below hg (by omega) (by omega)))
    have hsz5 := hg.size
    clear HFb
    have HFb := Lib.hid hfb
    clear hfb hg
    clear HLN
    clear HSx
    have HSx := Lib.hid (HSv.out.box.cells).2.1
    refine hK.out _ _ ?_ (fun hHeld => ?_)
    · exact HSx.out
    clear hK K
    (try simp only [Act.put, List.setIfInBounds_toArray, List.set_cons_zero, List.set_cons_succ])
    refine wpAnyH_ready (rs := [4, 10]) (by kernel_rfl) (by simp) ?_
    refine AllReadyH.cons (o := { dst := some 55, op := Op.load 24 (Operand.tmp 54), type := 24, pos := "text.go:95", after := #[{ on := 3, ground := Ground.data }], guard := none }) rfl (fun K hK => ?_) (AllReadyH.cons (o := { dst := some 61, op := Op.buildSlice 24 1 #[(0, Operand.tmp 60)], type := 24, pos := "text.go:95", after := #[{ on := 9, ground := Ground.data }], guard := none }) rfl (fun K hK => ?_) AllReadyH.nil)
    · obtain ⟨t0, t1, t2, t3⟩ := HSv.out.box.cells
      go_simp
      refine hK.out _ _ ?_ (fun hHeld => ?_)
      · exact HSx.out
      clear t0 t1 t2 t3
      clear hK K
      (try simp only [Act.put, List.setIfInBounds_toArray, List.set_cons_zero, List.set_cons_succ])
      refine wpAnyH_ready (rs := [10]) (by kernel_rfl) (by simp) ?_
      refine AllReadyH.cons (o := { dst := some 61, op := Op.buildSlice 24 1 #[(0, Operand.tmp 60)], type := 24, pos := "text.go:95", after := #[{ on := 9, ground := Ground.data }], guard := none }) rfl (fun K hK => ?_) AllReadyH.nil
      go_simp
      have HSy := Lib.hid (show (w5.alloc (.cells #[.int .i64 d0, .int .i64 d1, .int .i64 d2] 66)).cell? ⟨gs, 1, none⟩ = some (.slice A2 s.bs.length c2) by rw [World.cell?_alloc_old _ _ _ (Nat.ne_of_lt (HSv.out.box.lt))]; exact HSx.out)
      clear HSx
      have HSx := HSy
      clear HSy
      refine hK.out _ _ ?_ (fun hHeld => ?_)
      · exact HSx.out
      obtain ⟨W6, hW6⟩ : ∃ W6, W6 = w5.alloc (.cells #[.int .i64 d0, .int .i64 d1, .int .i64 d2] 66) := ⟨_, rfl⟩
      have NB := Lib.hid (heap_new w5 (.cells #[.int .i64 d0, .int .i64 d1, .int .i64 d2] 66))
      replace HSv := Lib.hid (HSv.out.keep (below_new w5 (.cells #[.int .i64 d0, .int .i64 d1, .int .i64 d2] 66)))
      replace HFb := Lib.hid (HFb.out.keep (below_new w5 (.cells #[.int .i64 d0, .int .i64 d1, .int .i64 d2] 66)))
      replace HBe := Lib.hid (HBe.out.trans ((below_new w5 (.cells #[.int .i64 d0, .int .i64 d1, .int .i64 d2] 66)).mono (by omega)))
      have hsz6 := (below_new w5 (.cells #[.int .i64 d0, .int .i64 d1, .int .i64 d2] 66)).size
      rw [← hW6] at NB HSv HFb HBe hsz6 ⊢
      clear hW6
      clear HSx
      have HSx := Lib.hid (HSv.out.box.cells).2.1
      clear hK K
      (try simp only [Act.put, List.setIfInBounds_toArray, List.set_cons_zero, List.set_cons_succ])
      refine wpAnyH_ready (rs := [11]) (by kernel_rfl) (by simp) ?_
      refine AllReadyH.cons (o := { dst := some 62, op := Op.call { callee := Callee.builtin Builtin.append, args := #[Operand.tmp 55, Operand.tmp 61], argTypes := #[24, 24] }, type := 24, pos := "text.go:95", after := #[{ on := 4, ground := Ground.data }, { on := 10, ground := Ground.data }, { on := 9, ground := Ground.chain }], guard := none }) rfl (fun K hK => ?_) AllReadyH.nil
      refine step_append_lies _ (by rfl) _ _ _ (by rfl) (gs + 1) 66 i0 (.agg #[.int .i64 0, .int .i64 0, .int .i64 0]) 3 24 Tryz.underlying24 hi hz0 hz1 hz2 rfl (by decide) _ _ _ (by rfl) HSv.out.c.1 ⟨w5.heap.size, 0, none⟩ 1 1 (cpE.cells ⟨d0, d1, d2⟩) (by rfl) rfl ?c1 ?c2 (by decide) ?c4 ?c5 ?c6 _ rfl ?_
      case c1 => exact World.news_of_block NB.out
      case c2 => exact cpE.one ⟨d0, d1, d2⟩
      case c4 => unfold maxLen; omega
      case c5 => omega
      case c6 => omega
      intro gg cp w7 hown hgrow hat hlt7
      have T7 := Lib.hid (HSv.out.stay2 hgrow)
      have SVn := Lib.hid (HSv.out.app2 (x := ⟨d0, d1, d2⟩) HX.out hown hgrow)
      have FBn := Lib.hid (HSv.out.far2 (v' := (.slice (some ⟨gg, 0, none⟩) (s.cs.length + 1) cp)) hgrow g _ HFb.out.blk (by omega) (fun c fz e => by injection e with _ e2 _; revert e2; decide))
      have LW := Lib.hid (HBe.out.trans (HSv.out.low2 (v' := (.slice (some ⟨gg, 0, none⟩) (s.cs.length + 1) cp)) hgrow))
      have HSz := Lib.hid (T7.out.cells).2.1
      clear hown hgrow hat hlt7
      clear HSx
      have HSx := HSz
      clear HSz
      refine hK.out _ _ ?_ (fun hHeld => ?_)
      · exact HSx.out
      clear hK K
      (try simp only [Act.put, List.setIfInBounds_toArray, List.set_cons_zero, List.set_cons_succ])
      refine wpAnyH_take (i := 12) (oi := { dst := some 63, op := Op.nilCheck (Operand.tmp 51), type := 0, pos := "text.go:95", after := #[{ on := 0, ground := Ground.data }, { on := 0, ground := Ground.phase }, { on := 1, ground := Ground.phase }, { on := 2, ground := Ground.phase }, { on := 3, ground := Ground.phase }, { on := 4, ground := Ground.phase }, { on := 5, ground := Ground.phase }, { on := 6, ground := Ground.phase }, { on := 7, ground := Ground.phase }, { on := 8, ground := Ground.phase }, { on := 9, ground := Ground.phase }, { on := 10, ground := Ground.phase }, { on := 11, ground := Ground.phase }], guard := none }) (v := ?_) rfl (by kernel_rfl) (by kernel_rfl) (by kernel_rfl) (fun _ _ _ h => h) (Or.inl ⟨by rfl, ?_⟩) (by assumption) ?_
      rotate_left
      · intro w hSw; (try dsimp only at hSw); go_simp; try with_reducible rfl
      (try simp only [Act.put, List.setIfInBounds_toArray, List.set_cons_zero, List.set_cons_succ])
      refine wpAnyH_take (i := 13) (oi := { dst := some 64, op := Op.fieldAddr 27 (Operand.tmp 63) 2, type := 0, pos := "text.go:95", after := #[{ on := 12, ground := Ground.data }, { on := 0, ground := Ground.phase }, { on := 1, ground := Ground.phase }, { on := 2, ground := Ground.phase }, { on := 3, ground := Ground.phase }, { on := 4, ground := Ground.phase }, { on := 5, ground := Ground.phase }, { on := 6, ground := Ground.phase }, { on := 7, ground := Ground.phase }, { on := 8, ground := Ground.phase }, { on := 9, ground := Ground.phase }, { on := 10, ground := Ground.phase }, { on := 11, ground := Ground.phase }], guard := none }) (v := ?_) rfl (by kernel_rfl) (by kernel_rfl) (by kernel_rfl) (fun _ _ _ h => h) (Or.inl ⟨by rfl, ?_⟩) (by assumption) ?_
      rotate_left
      · intro w hSw; (try dsimp only at hSw); go_simp; try with_reducible rfl
      (try simp only [Act.put, List.setIfInBounds_toArray, List.set_cons_zero, List.set_cons_succ])
      refine wpAnyH_ready (rs := [14]) (by kernel_rfl) (by simp) ?_
      refine AllReadyH.cons (o := { dst := none, op := Op.store 24 (Operand.tmp 64) (Operand.tmp 62), type := 0, pos := "text.go:95", after := #[{ on := 13, ground := Ground.data }, { on := 11, ground := Ground.data }, { on := 11, ground := Ground.chain }, { on := 0, ground := Ground.phase }, { on := 1, ground := Ground.phase }, { on := 2, ground := Ground.phase }, { on := 3, ground := Ground.phase }, { on := 4, ground := Ground.phase }, { on := 5, ground := Ground.phase }, { on := 6, ground := Ground.phase }, { on := 7, ground := Ground.phase }, { on := 8, ground := Ground.phase }, { on := 9, ground := Ground.phase }, { on := 10, ground := Ground.phase }, { on := 11, ground := Ground.phase }], guard := none }) rfl (fun K hK => ?_) AllReadyH.nil
      obtain ⟨t0, t1, t2, t3⟩ := T7.out.cells
      obtain ⟨f0, f1, f2, f3⟩ := T7.out.free
      have hzz := T7.out.lt
      go_simp
      have HSz := Lib.hid (SVn.out.box.cells).2.1
      clear HSx
      have HSx := HSz
      clear HSz
      refine hK.out _ _ ?_ (fun hHeld => ?_)
      · exact HSx.out
      clear t0 t1 t2 t3 f0 f1 f2 f3
      clear hK K
      (try simp only [Act.put, List.setIfInBounds_toArray, List.set_cons_zero, List.set_cons_succ])
      refine wpAnyH_done (by kernel_rfl) ?_ _
      have c1' := cell_of_row _ g 1 _ _ _ FBn.out
      go_wp2
      go_ret
      exact (by first | exact ⟨ER.out, LW.out, fun he => ⟨_, _, _, _, by rw [SN.out he]; exact SVn.out⟩⟩ | exact ⟨ER.out, LW.out.drew, fun he => ⟨_, _, _, _, by rw [SN.out he]; exact SVn.out⟩⟩)
    · go_simp
      have HSy := Lib.hid (show (w5.alloc (.cells #[.int .i64 d0, .int .i64 d1, .int .i64 d2] 66)).cell? ⟨gs, 1, none⟩ = some (.slice A2 s.bs.length c2) by rw [World.cell?_alloc_old _ _ _ (Nat.ne_of_lt (HSv.out.box.lt))]; exact HSx.out)
      clear HSx
      have HSx := HSy
      clear HSy
      refine hK.out _ _ ?_ (fun hHeld => ?_)
      · exact HSx.out
      obtain ⟨W6, hW6⟩ : ∃ W6, W6 = w5.alloc (.cells #[.int .i64 d0, .int .i64 d1, .int .i64 d2] 66) := ⟨_, rfl⟩
      have NB := Lib.hid (heap_new w5 (.cells #[.int .i64 d0, .int .i64 d1, .int .i64 d2] 66))
      replace HSv := Lib.hid (HSv.out.keep (below_new w5 (.cells #[.int .i64 d0, .int .i64 d1, .int .i64 d2] 66)))
      replace HFb := Lib.hid (HFb.out.keep (below_new w5 (.cells #[.int .i64 d0, .int .i64 d1, .int .i64 d2] 66)))
      replace HBe := Lib.hid (HBe.out.trans ((below_new w5 (.cells #[.int .i64 d0, .int .i64 d1, .int .i64 d2] 66)).mono (by omega)))
      have hsz6 := (below_new w5 (.cells #[.int .i64 d0, .int .i64 d1, .int .i64 d2] 66)).size
      rw [← hW6] at NB HSv HFb HBe hsz6 ⊢
      clear hW6
      clear HSx
      have HSx := Lib.hid (HSv.out.box.cells).2.1
      clear hK K
      (try simp only [Act.put, List.setIfInBounds_toArray, List.set_cons_zero, List.set_cons_succ])
      refine wpAnyH_ready (rs := [4]) (by kernel_rfl) (by simp) ?_
      refine AllReadyH.cons (o := { dst := some 55, op := Op.load 24 (Operand.tmp 54), type := 24, pos := "text.go:95", after := #[{ on := 3, ground := Ground.data }], guard := none }) rfl (fun K hK => ?_) AllReadyH.nil
      obtain ⟨t0, t1, t2, t3⟩ := HSv.out.box.cells
      go_simp
      refine hK.out _ _ ?_ (fun hHeld => ?_)
      · exact HSx.out
      clear t0 t1 t2 t3
      clear hK K
      (try simp only [Act.put, List.setIfInBounds_toArray, List.set_cons_zero, List.set_cons_succ])
      refine wpAnyH_ready (rs := [11]) (by kernel_rfl) (by simp) ?_
      refine AllReadyH.cons (o := { dst := some 62, op := Op.call { callee := Callee.builtin Builtin.append, args := #[Operand.tmp 55, Operand.tmp 61], argTypes := #[24, 24] }, type := 24, pos := "text.go:95", after := #[{ on := 4, ground := Ground.data }, { on := 10, ground := Ground.data }, { on := 9, ground := Ground.chain }], guard := none }) rfl (fun K hK => ?_) AllReadyH.nil
      refine step_append_lies _ (by rfl) _ _ _ (by rfl) (gs + 1) 66 i0 (.agg #[.int .i64 0, .int .i64 0, .int .i64 0]) 3 24 Tryz.underlying24 hi hz0 hz1 hz2 rfl (by decide) _ _ _ (by rfl) HSv.out.c.1 ⟨w5.heap.size, 0, none⟩ 1 1 (cpE.cells ⟨d0, d1, d2⟩) (by rfl) rfl ?c1 ?c2 (by decide) ?c4 ?c5 ?c6 _ rfl ?_
      case c1 => exact World.news_of_block NB.out
      case c2 => exact cpE.one ⟨d0, d1, d2⟩
      case c4 => unfold maxLen; omega
      case c5 => omega
      case c6 => omega
      intro gg cp w7 hown hgrow hat hlt7
      have T7 := Lib.hid (HSv.out.stay2 hgrow)
      have SVn := Lib.hid (HSv.out.app2 (x := ⟨d0, d1, d2⟩) HX.out hown hgrow)
      have FBn := Lib.hid (HSv.out.far2 (v' := (.slice (some ⟨gg, 0, none⟩) (s.cs.length + 1) cp)) hgrow g _ HFb.out.blk (by omega) (fun c fz e => by injection e with _ e2 _; revert e2; decide))
      have LW := Lib.hid (HBe.out.trans (HSv.out.low2 (v' := (.slice (some ⟨gg, 0, none⟩) (s.cs.length + 1) cp)) hgrow))
      have HSz := Lib.hid (T7.out.cells).2.1
      clear hown hgrow hat hlt7
      clear HSx
      have HSx := HSz
      clear HSz
      refine hK.out _ _ ?_ (fun hHeld => ?_)
      · exact HSx.out
      clear hK K
      (try simp only [Act.put, List.setIfInBounds_toArray, List.set_cons_zero, List.set_cons_succ])
      refine wpAnyH_take (i := 12) (oi := { dst := some 63, op := Op.nilCheck (Operand.tmp 51), type := 0, pos := "text.go:95", after := #[{ on := 0, ground := Ground.data }, { on := 0, ground := Ground.phase }, { on := 1, ground := Ground.phase }, { on := 2, ground := Ground.phase }, { on := 3, ground := Ground.phase }, { on := 4, ground := Ground.phase }, { on := 5, ground := Ground.phase }, { on := 6, ground := Ground.phase }, { on := 7, ground := Ground.phase }, { on := 8, ground := Ground.phase }, { on := 9, ground := Ground.phase }, { on := 10, ground := Ground.phase }, { on := 11, ground := Ground.phase }], guard := none }) (v := ?_) rfl (by kernel_rfl) (by kernel_rfl) (by kernel_rfl) (fun _ _ _ h => h) (Or.inl ⟨by rfl, ?_⟩) (by assumption) ?_
      rotate_left
      · intro w hSw; (try dsimp only at hSw); go_simp; try with_reducible rfl
      (try simp only [Act.put, List.setIfInBounds_toArray, List.set_cons_zero, List.set_cons_succ])
      refine wpAnyH_take (i := 13) (oi := { dst := some 64, op := Op.fieldAddr 27 (Operand.tmp 63) 2, type := 0, pos := "text.go:95", after := #[{ on := 12, ground := Ground.data }, { on := 0, ground := Ground.phase }, { on := 1, ground := Ground.phase }, { on := 2, ground := Ground.phase }, { on := 3, ground := Ground.phase }, { on := 4, ground := Ground.phase }, { on := 5, ground := Ground.phase }, { on := 6, ground := Ground.phase }, { on := 7, ground := Ground.phase }, { on := 8, ground := Ground.phase }, { on := 9, ground := Ground.phase }, { on := 10, ground := Ground.phase }, { on := 11, ground := Ground.phase }], guard := none }) (v := ?_) rfl (by kernel_rfl) (by kernel_rfl) (by kernel_rfl) (fun _ _ _ h => h) (Or.inl ⟨by rfl, ?_⟩) (by assumption) ?_
      rotate_left
      · intro w hSw; (try dsimp only at hSw); go_simp; try with_reducible rfl
      (try simp only [Act.put, List.setIfInBounds_toArray, List.set_cons_zero, List.set_cons_succ])
      refine wpAnyH_ready (rs := [14]) (by kernel_rfl) (by simp) ?_
      refine AllReadyH.cons (o := { dst := none, op := Op.store 24 (Operand.tmp 64) (Operand.tmp 62), type := 0, pos := "text.go:95", after := #[{ on := 13, ground := Ground.data }, { on := 11, ground := Ground.data }, { on := 11, ground := Ground.chain }, { on := 0, ground := Ground.phase }, { on := 1, ground := Ground.phase }, { on := 2, ground := Ground.phase }, { on := 3, ground := Ground.phase }, { on := 4, ground := Ground.phase }, { on := 5, ground := Ground.phase }, { on := 6, ground := Ground.phase }, { on := 7, ground := Ground.phase }, { on := 8, ground := Ground.phase }, { on := 9, ground := Ground.phase }, { on := 10, ground := Ground.phase }, { on := 11, ground := Ground.phase }], guard := none }) rfl (fun K hK => ?_) AllReadyH.nil
      obtain ⟨t0, t1, t2, t3⟩ := T7.out.cells
      obtain ⟨f0, f1, f2, f3⟩ := T7.out.free
      have hzz := T7.out.lt
      go_simp
      have HSz := Lib.hid (SVn.out.box.cells).2.1
      clear HSx
      have HSx := HSz
      clear HSz
      refine hK.out _ _ ?_ (fun hHeld => ?_)
      · exact HSx.out
      clear t0 t1 t2 t3 f0 f1 f2 f3
      clear hK K
      (try simp only [Act.put, List.setIfInBounds_toArray, List.set_cons_zero, List.set_cons_succ])
      refine wpAnyH_done (by kernel_rfl) ?_ _
      have c1' := cell_of_row _ g 1 _ _ _ FBn.out
      go_wp2
      go_ret
      exact (by first | exact ⟨ER.out, LW.out, fun he => ⟨_, _, _, _, by rw [SN.out he]; exact SVn.out⟩⟩ | exact ⟨ER.out, LW.out.drew, fun he => ⟨_, _, _, _, by rw [SN.out he]; exact SVn.out⟩⟩)
set_option maxRecDepth 100000 in
set_option maxHeartbeats 16000000 in
theorem pline_a (gs : Nat) (s : Su) (A1 A2 A3 A4 : Option Addr) (c1 c2 c3 c4 : Nat) (A : Option Addr) (n c : Nat) (x : List UInt8) (r : List (List UInt8)) (w : World) (h : SV w gs s (.slice A1 s.ps.length c1) (.slice A2 s.bs.length c2) (.slice A3 s.cs.length c3) (.slice A4 s.as_.length c4)) (hw : Lst strE w A n c (x :: r)) (hn5 : n ≤ 5000) (h1 : x = MU.wAside) (h2 : n = 4) (hps : s.ps.length ≤ 5000) (hrow : s.as_.length ≤ 5000) : Calls Tryz.prog 29 #[.pointer (some ⟨gs, 0, none⟩), .slice A n c] w (PLp gs s (x :: r) w) := by
  obtain ⟨ad, rfl, hbk, y0, hn1, hxl⟩ := (Wd.of hw).head
  have hlen := hw.len
  have hcap := hw.cap
  subst h2
  obtain ⟨x0, x1, x2, rfl⟩ : ∃ x0 x1 x2, r = [x0, x1, x2] := by
    match r, (show r.length = 3 by simp at hlen; omega) with
    | [x0, x1, x2], _ => exact ⟨x0, x1, x2, rfl⟩
  have h0 : x0.length ≤ 9223372036854775807 := hw.fine x0 (by simp)
  have hd1 := digE_rng x1
  have hd2 := digE_rng x2
  have hv0 := asV_rng s.ps x0
  have LL := Lib.hid (lineLen_a (kw_a h1) w)
  have KW := kw_a h1
  obtain ⟨q1, q2, q3, q4⟩ := KW
  have LN0 := line_as s x0 x1 x2
  subst h1
  have ER0 := Lib.hid LN0.1
  have SN0 := Lib.hid LN0.2
  have hc1 : c ≠ 1 := by omega
  have hg := h.box.lt
  have FB0 := Lib.hid (show FB (w.alloc (.cells #[.slice (some ⟨ad.block, ad.off + 1, none⟩) 3 (c - 1), .int .i64 0] 92)) w.heap.size (some ⟨ad.block, ad.off + 1, none⟩) 3 (c - 1) [x0, x1, x2] 0 from
    ⟨heap_new _ _, by have := ((Wd.of hw).below (below_new w (.cells #[.slice (some ⟨ad.block, ad.off + 1, none⟩) 3 (c - 1), .int .i64 0] 92))).tail; rw [if_neg hc1] at this; exact this⟩)
  have HS0 := Lib.hid (h.keep (below_new w (.cells #[.slice (some ⟨ad.block, ad.off + 1, none⟩) 3 (c - 1), .int .i64 0] 92)))
  have B0 := Lib.hid ((below_new w (.cells #[.slice (some ⟨ad.block, ad.off + 1, none⟩) 3 (c - 1), .int .i64 0] 92)).mono (Nat.le_of_lt hg))
  have Y0 : Hid ((w.alloc (.cells #[.slice (some ⟨ad.block, ad.off + 1, none⟩) 3 (c - 1), .int .i64 0] 92)).cell? ad = some (.string (str MU.wAside))) := Lib.hid (by rw [World.cell?_alloc_old _ _ _ (Nat.ne_of_lt hbk)]; exact y0)
  have LNB : Hid (LN prE (w.alloc (.cells #[.slice (some ⟨ad.block, ad.off + 1, none⟩) 3 (c - 1), .int .i64 0] 92)) w.heap.size A1 s.ps.length c1 s.ps) := Lib.hid (by
    obtain ⟨Ax, cx, hvx, hlx⟩ := h.p.form (by omega)
    cases hvx
    exact (LN.of hlx).below (below_new w _))
  obtain ⟨i0, hi, hz0, hz1, hz2⟩ := info_parts infoAs
  clear hw h LN0
  go_enter Tryz.func29, Tryz.ntmps29
  go_wp2_with fail
  refine LL.out.mono ?_
  rintro ev w1 ⟨rfl, hw1⟩
  obtain rfl : w = w1 := hw1.symm
  clear hw1
  have hn1' : (1 : Int) ≤ (4 : Int) := by omega
  have hnc' : (4 : Int) ≤ (c : Int) := by omega
  go_upto_region 7 with (fail)
  obtain ⟨X, hX⟩ : ∃ X, X = w.alloc (.cells #[.slice (some ⟨ad.block, ad.off + 1, none⟩) 3 (c - 1), .int .i64 0] 92) := ⟨_, rfl⟩
  have hszX : w.heap.size < X.heap.size := by rw [hX]; simp
  rw [← hX] at FB0 HS0 B0 Y0 LNB ⊢
  generalize hgv : w.heap.size = g at *
  clear hX y0 LL
  have y0 := Y0.out
  go_wp2
  clear y0 Y0 q1 q2 q3 q4 hlen hxl hbk hn1 hcap hn1' hnc' hc1
  generalize hdd1 : (MU.digE x1).1 = d1 at *
  generalize hdd2 : (MU.digE x2).1 = d2 at *
  generalize hdd0 : asV s.ps x0 = d0 at *
  have HX := Lib.hid (show asdE.fine ⟨d0, d1, d2⟩ from ⟨(by dsimp only; omega), (by dsimp only; omega), (by dsimp only; omega)⟩)
  have ER := Lib.hid (congrArg (fun e => Ending.returned (.int .i64 e)) ER0.out.symm)
  have SN := SN0
  have HSv := Lib.hid (HS0.out.keep (below_drawn X))
  have HFb := Lib.hid (FB0.out.keep (below_drawn X))
  have HBe := Lib.hid (B0.out.trans ((below_drawn X).mono (Nat.le_of_lt HS0.out.box.lt)))
  have HLN := Lib.hid (LNB.out.below ((below_drawn X).mono (Nat.le_of_lt hszX)))
  have HSx := Lib.hid (HSv.out.box.cells).1
  clear LNB
  have hgX : g < X.drew.heap.size := HFb.out.lt
  clear HS0 FB0 B0 hszX
  refine wp_region_held_drew (S := fun w' => w'.cell? ⟨gs, 0, none⟩ = some (.slice A1 s.ps.length c1)) (by kernel_rfl) HSx.out (fun hHeld => ?_)
  refine wpAnyH_take (i := 0) (oi := { dst := some 67, op := Op.move (Operand.tmp 0), type := 73, pos := "text.go:97", after := #[], guard := none }) (v := ?_) rfl (by kernel_rfl) (by kernel_rfl) (by kernel_rfl) (fun _ _ _ h => h) (Or.inl ⟨by rfl, ?_⟩) (by assumption) ?_
  rotate_left
  · intro w hSw; (try dsimp only at hSw); go_simp; try with_reducible rfl
  (try simp only [Act.put, List.setIfInBounds_toArray, List.set_cons_zero, List.set_cons_succ])
  refine wpAnyH_take (i := 1) (oi := { dst := some 68, op := Op.move (Operand.tmp 0), type := 73, pos := "text.go:97", after := #[], guard := none }) (v := ?_) rfl (by kernel_rfl) (by kernel_rfl) (by kernel_rfl) (fun _ _ _ h => h) (Or.inl ⟨by rfl, ?_⟩) (by assumption) ?_
  rotate_left
  · intro w hSw; (try dsimp only at hSw); go_simp; try with_reducible rfl
  (try simp only [Act.put, List.setIfInBounds_toArray, List.set_cons_zero, List.set_cons_succ])
  refine wpAnyH_take (i := 2) (oi := { dst := some 69, op := Op.nilCheck (Operand.tmp 68), type := 0, pos := "text.go:97", after := #[{ on := 1, ground := Ground.data }], guard := none }) (v := ?_) rfl (by kernel_rfl) (by kernel_rfl) (by kernel_rfl) (fun _ _ _ h => h) (Or.inl ⟨by rfl, ?_⟩) (by assumption) ?_
  rotate_left
  · intro w hSw; (try dsimp only at hSw); go_simp; try with_reducible rfl
  (try simp only [Act.put, List.setIfInBounds_toArray, List.set_cons_zero, List.set_cons_succ])
  refine wpAnyH_take (i := 3) (oi := { dst := some 70, op := Op.fieldAddr 27 (Operand.tmp 69) 3, type := 0, pos := "text.go:97", after := #[{ on := 2, ground := Ground.data }], guard := none }) (v := ?_) rfl (by kernel_rfl) (by kernel_rfl) (by kernel_rfl) (fun _ _ _ h => h) (Or.inl ⟨by rfl, ?_⟩) (by assumption) ?_
  rotate_left
  · intro w hSw; (try dsimp only at hSw); go_simp; try with_reducible rfl
  (try simp only [Act.put, List.setIfInBounds_toArray, List.set_cons_zero, List.set_cons_succ])
  refine wpAnyH_take (i := 5) (oi := { dst := some 72, op := Op.move (Operand.tmp 0), type := 73, pos := "text.go:97", after := #[], guard := none }) (v := ?_) rfl (by kernel_rfl) (by kernel_rfl) (by kernel_rfl) (fun _ _ _ h => h) (Or.inl ⟨by rfl, ?_⟩) (by assumption) ?_
  rotate_left
  · intro w hSw; (try dsimp only at hSw); go_simp; try with_reducible rfl
  (try simp only [Act.put, List.setIfInBounds_toArray, List.set_cons_zero, List.set_cons_succ])
  refine wpAnyH_take (i := 6) (oi := { dst := some 73, op := Op.nilCheck (Operand.tmp 72), type := 0, pos := "text.go:97", after := #[{ on := 5, ground := Ground.data }], guard := none }) (v := ?_) rfl (by kernel_rfl) (by kernel_rfl) (by kernel_rfl) (fun _ _ _ h => h) (Or.inl ⟨by rfl, ?_⟩) (by assumption) ?_
  rotate_left
  · intro w hSw; (try dsimp only at hSw); go_simp; try with_reducible rfl
  (try simp only [Act.put, List.setIfInBounds_toArray, List.set_cons_zero, List.set_cons_succ])
  refine wpAnyH_take (i := 7) (oi := { dst := some 74, op := Op.fieldAddr 27 (Operand.tmp 73) 0, type := 0, pos := "text.go:97", after := #[{ on := 6, ground := Ground.data }], guard := none }) (v := ?_) rfl (by kernel_rfl) (by kernel_rfl) (by kernel_rfl) (fun _ _ _ h => h) (Or.inl ⟨by rfl, ?_⟩) (by assumption) ?_
  rotate_left
  · intro w hSw; (try dsimp only at hSw); go_simp; try with_reducible rfl
  (try simp only [Act.put, List.setIfInBounds_toArray, List.set_cons_zero, List.set_cons_succ])
  refine wpAnyH_take (i := 8) (oi := { dst := some 75, op := Op.load 22 (Operand.tmp 74), type := 22, pos := "text.go:97", after := #[{ on := 7, ground := Ground.data }], guard := none }) (v := ?_) rfl (by kernel_rfl) (by kernel_rfl) (by kernel_rfl) (fun _ _ _ h => h) (Or.inl ⟨by rfl, ?_⟩) (by assumption) ?_
  rotate_left
  · intro w hSw; (try dsimp only at hSw); go_simp; try with_reducible rfl
  (try simp only [Act.put, List.setIfInBounds_toArray, List.set_cons_zero, List.set_cons_succ])
  refine wpAnyH_ready (rs := [4, 9]) (by kernel_rfl) (by simp) ?_
  refine AllReadyH.cons (o := { dst := some 71, op := Op.load 25 (Operand.tmp 70), type := 25, pos := "text.go:97", after := #[{ on := 3, ground := Ground.data }], guard := none }) rfl (fun K hK => ?_) (AllReadyH.cons (o := { dst := some 76, op := Op.call { callee := Callee.value (Operand.func 56), args := #[Operand.tmp 6, Operand.tmp 75], argTypes := #[92, 22] }, type := 68, pos := "text.go:97", after := #[{ on := 8, ground := Ground.data }], guard := none }) rfl (fun K hK => ?_) AllReadyH.nil)
  · obtain ⟨t0, t1, t2, t3⟩ := HSv.out.box.cells
    go_simp
    refine hK.out _ _ ?_ (fun hHeld => ?_)
    · exact HSx.out
    clear t0 t1 t2 t3
    clear hK K
    (try simp only [Act.put, List.setIfInBounds_toArray, List.set_cons_zero, List.set_cons_succ])
    refine wpAnyH_ready (rs := [9]) (by kernel_rfl) (by simp) ?_
    refine AllReadyH.cons (o := { dst := some 76, op := Op.call { callee := Callee.value (Operand.func 56), args := #[Operand.tmp 6, Operand.tmp 75], argTypes := #[92, 22] }, type := 68, pos := "text.go:97", after := #[{ on := 8, ground := Ground.data }], guard := none }) rfl (fun K hK => ?_) AllReadyH.nil
    go_simp
    refine (fasd_any HFb.out A1 s.ps.length c1 s.ps HLN.out hps).mono ?_
    rintro ev w5 ⟨rfl, ⟨A5', n5', c5', hfb⟩, hg⟩
    replace HSv := Lib.hid (HSv.out.turn hg HFb.out.blk (by omega) (by decide) (by decide) (by decide) (by decide))
    replace HBe := Lib.hid (HBe.out.trans (g_below hg (by omega) (by omega)))
    have hsz5 := hg.size
    clear HFb
    have HFb := Lib.hid hfb
    clear hfb hg
    clear HLN
    clear HSx
    have HSx := Lib.hid (HSv.out.box.cells).1
    refine hK.out _ _ ?_ (fun hHeld => ?_)
    · exact HSx.out
    clear hK K
    (try simp only [Act.put, List.setIfInBounds_toArray, List.set_cons_zero, List.set_cons_succ])
    refine wpAnyH_ready (rs := [10]) (by kernel_rfl) (by simp) ?_
    refine AllReadyH.cons (o := { dst := some 77, op := Op.buildSlice 25 1 #[(0, Operand.tmp 76)], type := 25, pos := "text.go:97", after := #[{ on := 9, ground := Ground.data }], guard := none }) rfl (fun K hK => ?_) AllReadyH.nil
    go_simp
    have HSy := Lib.hid (show (w5.alloc (.cells #[.int .i64 d0, .int .i64 d1, .int .i64 d2] 68)).cell? ⟨gs, 0, none⟩ = some (.slice A1 s.ps.length c1) by rw [World.cell?_alloc_old _ _ _ (Nat.ne_of_lt (HSv.out.box.lt))]; exact HSx.out)
    clear HSx
    have HSx := HSy
    clear HSy
    refine hK.out _ _ ?_ (fun hHeld => ?_)
    · exact HSx.out
    obtain ⟨W6, hW6⟩ : ∃ W6, W6 = w5.alloc (.cells #[.int .i64 d0, .int .i64 d1, .int .i64 d2] 68) := ⟨_, rfl⟩
    have NB := Lib.hid (heap_new w5 (.cells #[.int .i64 d0, .int .i64 d1, .int .i64 d2] 68))
    replace HSv := Lib.hid (HSv.out.keep (below_new w5 (.cells #[.int .i64 d0, .int .i64 d1, .int .i64 d2] 68)))
    replace HFb := Lib.hid (HFb.out.keep (below_new w5 (.cells #[.int .i64 d0, .int .i64 d1, .int .i64 d2] 68)))
    replace HBe := Lib.hid (HBe.out.trans ((below_new w5 (.cells #[.int .i64 d0, .int .i64 d1, .int .i64 d2] 68)).mono (by omega)))
    have hsz6 := (below_new w5 (.cells #[.int .i64 d0, .int .i64 d1, .int .i64 d2] 68)).size
    rw [← hW6] at NB HSv HFb HBe hsz6 ⊢
    clear hW6
    clear HSx
    have HSx := Lib.hid (HSv.out.box.cells).1
    clear hK K
    (try simp only [Act.put, List.setIfInBounds_toArray, List.set_cons_zero, List.set_cons_succ])
    refine wpAnyH_ready (rs := [11]) (by kernel_rfl) (by simp) ?_
    refine AllReadyH.cons (o := { dst := some 78, op := Op.call { callee := Callee.builtin Builtin.append, args := #[Operand.tmp 71, Operand.tmp 77], argTypes := #[25, 25] }, type := 25, pos := "text.go:97", after := #[{ on := 4, ground := Ground.data }, { on := 10, ground := Ground.data }, { on := 9, ground := Ground.chain }], guard := none }) rfl (fun K hK => ?_) AllReadyH.nil
    refine step_append_lies _ (by rfl) _ _ _ (by rfl) (gs + 1) 68 i0 (.agg #[.int .i64 0, .int .i64 0, .int .i64 0]) 3 24 Tryz.underlying25 hi hz0 hz1 hz2 rfl (by decide) _ _ _ (by rfl) HSv.out.a.1 ⟨w5.heap.size, 0, none⟩ 1 1 (asdE.cells ⟨d0, d1, d2⟩) (by rfl) rfl ?c1 ?c2 (by decide) ?c4 ?c5 ?c6 _ rfl ?_
    case c1 => exact World.news_of_block NB.out
    case c2 => exact asdE.one ⟨d0, d1, d2⟩
    case c4 => unfold maxLen; omega
    case c5 => omega
    case c6 => omega
    intro gg cp w7 hown hgrow hat hlt7
    have T7 := Lib.hid (HSv.out.stay3 hgrow)
    have SVn := Lib.hid (HSv.out.app3 (x := ⟨d0, d1, d2⟩) HX.out hown hgrow)
    have FBn := Lib.hid (HSv.out.far3 (v' := (.slice (some ⟨gg, 0, none⟩) (s.as_.length + 1) cp)) hgrow g _ HFb.out.blk (by omega) (fun c fz e => by injection e with _ e2 _; revert e2; decide))
    have LW := Lib.hid (HBe.out.trans (HSv.out.low3 (v' := (.slice (some ⟨gg, 0, none⟩) (s.as_.length + 1) cp)) hgrow))
    have HSz := Lib.hid (T7.out.cells).1
    clear hown hgrow hat hlt7
    clear HSx
    have HSx := HSz
    clear HSz
    refine hK.out _ _ ?_ (fun hHeld => ?_)
    · exact HSx.out
    clear hK K
    (try simp only [Act.put, List.setIfInBounds_toArray, List.set_cons_zero, List.set_cons_succ])
    refine wpAnyH_take (i := 12) (oi := { dst := some 79, op := Op.nilCheck (Operand.tmp 67), type := 0, pos := "text.go:97", after := #[{ on := 0, ground := Ground.data }, { on := 0, ground := Ground.phase }, { on := 1, ground := Ground.phase }, { on := 2, ground := Ground.phase }, { on := 3, ground := Ground.phase }, { on := 4, ground := Ground.phase }, { on := 5, ground := Ground.phase }, { on := 6, ground := Ground.phase }, { on := 7, ground := Ground.phase }, { on := 8, ground := Ground.phase }, { on := 9, ground := Ground.phase }, { on := 10, ground := Ground.phase }, { on := 11, ground := Ground.phase }], guard := none }) (v := ?_) rfl (by kernel_rfl) (by kernel_rfl) (by kernel_rfl) (fun _ _ _ h => h) (Or.inl ⟨by rfl, ?_⟩) (by assumption) ?_
    rotate_left
    · intro w hSw; (try dsimp only at hSw); go_simp; try with_reducible rfl
    (try simp only [Act.put, List.setIfInBounds_toArray, List.set_cons_zero, List.set_cons_succ])
    refine wpAnyH_take (i := 13) (oi := { dst := some 80, op := Op.fieldAddr 27 (Operand.tmp 79) 3, type := 0, pos := "text.go:97", after := #[{ on := 12, ground := Ground.data }, { on := 0, ground := Ground.phase }, { on := 1, ground := Ground.phase }, { on := 2, ground := Ground.phase }, { on := 3, ground := Ground.phase }, { on := 4, ground := Ground.phase }, { on := 5, ground := Ground.phase }, { on := 6, ground := Ground.phase }, { on := 7, ground := Ground.phase }, { on := 8, ground := Ground.phase }, { on := 9, ground := Ground.phase }, { on := 10, ground := Ground.phase }, { on := 11, ground := Ground.phase }], guard := none }) (v := ?_) rfl (by kernel_rfl) (by kernel_rfl) (by kernel_rfl) (fun _ _ _ h => h) (Or.inl ⟨by rfl, ?_⟩) (by assumption) ?_
    rotate_left
    · intro w hSw; (try dsimp only at hSw); go_simp; try with_reducible rfl
    (try simp only [Act.put, List.setIfInBounds_toArray, List.set_cons_zero, List.set_cons_succ])
    refine wpAnyH_ready (rs := [14]) (by kernel_rfl) (by simp) ?_
    refine AllReadyH.cons (o := { dst := none, op := Op.store 25 (Operand.tmp 80) (Operand.tmp 78), type := 0, pos := "text.go:97", after := #[{ on := 13, ground := Ground.data }, { on := 11, ground := Ground.data }, { on := 11, ground := Ground.chain }, { on := 0, ground := Ground.phase }, { on := 1, ground := Ground.phase }, { on := 2, ground := Ground.phase }, { on := 3, ground := Ground.phase }, { on := 4, ground := Ground.phase }, { on := 5, ground := Ground.phase }, { on := 6, ground := Ground.phase }, { on := 7, ground := Ground.phase }, { on := 8, ground := Ground.phase }, { on := 9, ground := Ground.phase }, { on := 10, ground := Ground.phase }, { on := 11, ground := Ground.phase }], guard := none }) rfl (fun K hK => ?_) AllReadyH.nil
    obtain ⟨t0, t1, t2, t3⟩ := T7.out.cells
    obtain ⟨f0, f1, f2, f3⟩ := T7.out.free
    have hzz := T7.out.lt
    go_simp
    have HSz := Lib.hid (SVn.out.box.cells).1
    clear HSx
    have HSx := HSz
    clear HSz
    refine hK.out _ _ ?_ (fun hHeld => ?_)
    · exact HSx.out
    clear t0 t1 t2 t3 f0 f1 f2 f3
    clear hK K
    (try simp only [Act.put, List.setIfInBounds_toArray, List.set_cons_zero, List.set_cons_succ])
    refine wpAnyH_done (by kernel_rfl) ?_ _
    have c1' := cell_of_row _ g 1 _ _ _ FBn.out
    go_wp2
    go_ret
    exact (by first | exact ⟨ER.out, LW.out, fun he => ⟨_, _, _, _, by rw [SN.out he]; exact SVn.out⟩⟩ | exact ⟨ER.out, LW.out.drew, fun he => ⟨_, _, _, _, by rw [SN.out he]; exact SVn.out⟩⟩)
  · go_simp
    refine (fasd_any HFb.out A1 s.ps.length c1 s.ps HLN.out hps).mono ?_
    rintro ev w5 ⟨rfl, ⟨A5', n5', c5', hfb⟩, hg⟩
    replace HSv := Lib.hid (HSv.out.turn hg HFb.out.blk (by omega) (by decide) (by decide) (by decide) (by decide))
    replace HBe := Lib.hid (HBe.out.trans (g_below hg (by omega) (by omega)))
    have hsz5 := hg.size
    clear HFb
    have HFb := Lib.hid hfb
    clear hfb hg
    clear HLN
    clear HSx
    have HSx := Lib.hid (HSv.out.box.cells).1
    refine hK.out _ _ ?_ (fun hHeld => ?_)
    · exact HSx.out
    clear hK K
    (try simp only [Act.put, List.setIfInBounds_toArray, List.set_cons_zero, List.set_cons_succ])
    refine wpAnyH_ready (rs := [4, 10]) (by kernel_rfl) (by simp) ?_
    refine AllReadyH.cons (o := { dst := some 71, op := Op.load 25 (Operand.tmp 70), type := 25, pos := "text.go:97", after := #[{ on := 3, ground := Ground.data }], guard := none }) rfl (fun K hK => ?_) (AllReadyH.cons (o := { dst := some 77, op := Op.buildSlice 25 1 #[(0, Operand.tmp 76)], type := 25, pos := "text.go:97", after := #[{ on := 9, ground := Ground.data }], guard := none }) rfl (fun K hK => ?_) AllReadyH.nil)
    · obtain ⟨t0, t1, t2, t3⟩ := HSv.out.box.cells
      go_simp
      refine hK.out _ _ ?_ (fun hHeld => ?_)
      · exact HSx.out
      clear t0 t1 t2 t3
      clear hK K
      (try simp only [Act.put, List.setIfInBounds_toArray, List.set_cons_zero, List.set_cons_succ])
      refine wpAnyH_ready (rs := [10]) (by kernel_rfl) (by simp) ?_
      refine AllReadyH.cons (o := { dst := some 77, op := Op.buildSlice 25 1 #[(0, Operand.tmp 76)], type := 25, pos := "text.go:97", after := #[{ on := 9, ground := Ground.data }], guard := none }) rfl (fun K hK => ?_) AllReadyH.nil
      go_simp
      have HSy := Lib.hid (show (w5.alloc (.cells #[.int .i64 d0, .int .i64 d1, .int .i64 d2] 68)).cell? ⟨gs, 0, none⟩ = some (.slice A1 s.ps.length c1) by rw [World.cell?_alloc_old _ _ _ (Nat.ne_of_lt (HSv.out.box.lt))]; exact HSx.out)
      clear HSx
      have HSx := HSy
      clear HSy
      refine hK.out _ _ ?_ (fun hHeld => ?_)
      · exact HSx.out
      obtain ⟨W6, hW6⟩ : ∃ W6, W6 = w5.alloc (.cells #[.int .i64 d0, .int .i64 d1, .int .i64 d2] 68) := ⟨_, rfl⟩
      have NB := Lib.hid (heap_new w5 (.cells #[.int .i64 d0, .int .i64 d1, .int .i64 d2] 68))
      replace HSv := Lib.hid (HSv.out.keep (below_new w5 (.cells #[.int .i64 d0, .int .i64 d1, .int .i64 d2] 68)))
      replace HFb := Lib.hid (HFb.out.keep (below_new w5 (.cells #[.int .i64 d0, .int .i64 d1, .int .i64 d2] 68)))
      replace HBe := Lib.hid (HBe.out.trans ((below_new w5 (.cells #[.int .i64 d0, .int .i64 d1, .int .i64 d2] 68)).mono (by omega)))
      have hsz6 := (below_new w5 (.cells #[.int .i64 d0, .int .i64 d1, .int .i64 d2] 68)).size
      rw [← hW6] at NB HSv HFb HBe hsz6 ⊢
      clear hW6
      clear HSx
      have HSx := Lib.hid (HSv.out.box.cells).1
      clear hK K
      (try simp only [Act.put, List.setIfInBounds_toArray, List.set_cons_zero, List.set_cons_succ])
      refine wpAnyH_ready (rs := [11]) (by kernel_rfl) (by simp) ?_
      refine AllReadyH.cons (o := { dst := some 78, op := Op.call { callee := Callee.builtin Builtin.append, args := #[Operand.tmp 71, Operand.tmp 77], argTypes := #[25, 25] }, type := 25, pos := "text.go:97", after := #[{ on := 4, ground := Ground.data }, { on := 10, ground := Ground.data }, { on := 9, ground := Ground.chain }], guard := none }) rfl (fun K hK => ?_) AllReadyH.nil
      refine step_append_lies _ (by rfl) _ _ _ (by rfl) (gs + 1) 68 i0 (.agg #[.int .i64 0, .int .i64 0, .int .i64 0]) 3 24 Tryz.underlying25 hi hz0 hz1 hz2 rfl (by decide) _ _ _ (by rfl) HSv.out.a.1 ⟨w5.heap.size, 0, none⟩ 1 1 (asdE.cells ⟨d0, d1, d2⟩) (by rfl) rfl ?c1 ?c2 (by decide) ?c4 ?c5 ?c6 _ rfl ?_
      case c1 => exact World.news_of_block NB.out
      case c2 => exact asdE.one ⟨d0, d1, d2⟩
      case c4 => unfold maxLen; omega
      case c5 => omega
      case c6 => omega
      intro gg cp w7 hown hgrow hat hlt7
      have T7 := Lib.hid (HSv.out.stay3 hgrow)
      have SVn := Lib.hid (HSv.out.app3 (x := ⟨d0, d1, d2⟩) HX.out hown hgrow)
      have FBn := Lib.hid (HSv.out.far3 (v' := (.slice (some ⟨gg, 0, none⟩) (s.as_.length + 1) cp)) hgrow g _ HFb.out.blk (by omega) (fun c fz e => by injection e with _ e2 _; revert e2; decide))
      have LW := Lib.hid (HBe.out.trans (HSv.out.low3 (v' := (.slice (some ⟨gg, 0, none⟩) (s.as_.length + 1) cp)) hgrow))
      have HSz := Lib.hid (T7.out.cells).1
      clear hown hgrow hat hlt7
      clear HSx
      have HSx := HSz
      clear HSz
      refine hK.out _ _ ?_ (fun hHeld => ?_)
      · exact HSx.out
      clear hK K
      (try simp only [Act.put, List.setIfInBounds_toArray, List.set_cons_zero, List.set_cons_succ])
      refine wpAnyH_take (i := 12) (oi := { dst := some 79, op := Op.nilCheck (Operand.tmp 67), type := 0, pos := "text.go:97", after := #[{ on := 0, ground := Ground.data }, { on := 0, ground := Ground.phase }, { on := 1, ground := Ground.phase }, { on := 2, ground := Ground.phase }, { on := 3, ground := Ground.phase }, { on := 4, ground := Ground.phase }, { on := 5, ground := Ground.phase }, { on := 6, ground := Ground.phase }, { on := 7, ground := Ground.phase }, { on := 8, ground := Ground.phase }, { on := 9, ground := Ground.phase }, { on := 10, ground := Ground.phase }, { on := 11, ground := Ground.phase }], guard := none }) (v := ?_) rfl (by kernel_rfl) (by kernel_rfl) (by kernel_rfl) (fun _ _ _ h => h) (Or.inl ⟨by rfl, ?_⟩) (by assumption) ?_
      rotate_left
      · intro w hSw; (try dsimp only at hSw); go_simp; try with_reducible rfl
      (try simp only [Act.put, List.setIfInBounds_toArray, List.set_cons_zero, List.set_cons_succ])
      refine wpAnyH_take (i := 13) (oi := { dst := some 80, op := Op.fieldAddr 27 (Operand.tmp 79) 3, type := 0, pos := "text.go:97", after := #[{ on := 12, ground := Ground.data }, { on := 0, ground := Ground.phase }, { on := 1, ground := Ground.phase }, { on := 2, ground := Ground.phase }, { on := 3, ground := Ground.phase }, { on := 4, ground := Ground.phase }, { on := 5, ground := Ground.phase }, { on := 6, ground := Ground.phase }, { on := 7, ground := Ground.phase }, { on := 8, ground := Ground.phase }, { on := 9, ground := Ground.phase }, { on := 10, ground := Ground.phase }, { on := 11, ground := Ground.phase }], guard := none }) (v := ?_) rfl (by kernel_rfl) (by kernel_rfl) (by kernel_rfl) (fun _ _ _ h => h) (Or.inl ⟨by rfl, ?_⟩) (by assumption) ?_
      rotate_left
      · intro w hSw; (try dsimp only at hSw); go_simp; try with_reducible rfl
      (try simp only [Act.put, List.setIfInBounds_toArray, List.set_cons_zero, List.set_cons_succ])
      refine wpAnyH_ready (rs := [14]) (by kernel_rfl) (by simp) ?_
      refine AllReadyH.cons (o := { dst := none, op := Op.store 25 (Operand.tmp 80) (Operand.tmp 78), type := 0, pos := "text.go:97", after := #[{ on := 13, ground := Ground.data }, { on := 11, ground := Ground.data }, { on := 11, ground := Ground.chain }, { on := 0, ground := Ground.phase }, { on := 1, ground := Ground.phase }, { on := 2, ground := Ground.phase }, { on := 3, ground := Ground.phase }, { on := 4, ground := Ground.phase }, { on := 5, ground := Ground.phase }, { on := 6, ground := Ground.phase }, { on := 7, ground := Ground.phase }, { on := 8, ground := Ground.phase }, { on := 9, ground := Ground.phase }, { on := 10, ground := Ground.phase }, { on := 11, ground := Ground.phase }], guard := none }) rfl (fun K hK => ?_) AllReadyH.nil
      obtain ⟨t0, t1, t2, t3⟩ := T7.out.cells
      obtain ⟨f0, f1, f2, f3⟩ := T7.out.free
      have hzz := T7.out.lt
      go_simp
      have HSz := Lib.hid (SVn.out.box.cells).1
      clear HSx
      have HSx := HSz
      clear HSz
      refine hK.out _ _ ?_ (fun hHeld => ?_)
      · exact HSx.out
      clear t0 t1 t2 t3 f0 f1 f2 f3
      clear hK K
      (try simp only [Act.put, List.setIfInBounds_toArray, List.set_cons_zero, List.set_cons_succ])
      refine wpAnyH_done (by kernel_rfl) ?_ _
      have c1' := cell_of_row _ g 1 _ _ _ FBn.out
      go_wp2
      go_ret
      exact (by first | exact ⟨ER.out, LW.out, fun he => ⟨_, _, _, _, by rw [SN.out he]; exact SVn.out⟩⟩ | exact ⟨ER.out, LW.out.drew, fun he => ⟨_, _, _, _, by rw [SN.out he]; exact SVn.out⟩⟩)
    · go_simp
      have HSy := Lib.hid (show (w5.alloc (.cells #[.int .i64 d0, .int .i64 d1, .int .i64 d2] 68)).cell? ⟨gs, 0, none⟩ = some (.slice A1 s.ps.length c1) by rw [World.cell?_alloc_old _ _ _ (Nat.ne_of_lt (HSv.out.box.lt))]; exact HSx.out)
      clear HSx
      have HSx := HSy
      clear HSy
      refine hK.out _ _ ?_ (fun hHeld => ?_)
      · exact HSx.out
      obtain ⟨W6, hW6⟩ : ∃ W6, W6 = w5.alloc (.cells #[.int .i64 d0, .int .i64 d1, .int .i64 d2] 68) := ⟨_, rfl⟩
      have NB := Lib.hid (heap_new w5 (.cells #[.int .i64 d0, .int .i64 d1, .int .i64 d2] 68))
      replace HSv := Lib.hid (HSv.out.keep (below_new w5 (.cells #[.int .i64 d0, .int .i64 d1, .int .i64 d2] 68)))
      replace HFb := Lib.hid (HFb.out.keep (below_new w5 (.cells #[.int .i64 d0, .int .i64 d1, .int .i64 d2] 68)))
      replace HBe := Lib.hid (HBe.out.trans ((below_new w5 (.cells #[.int .i64 d0, .int .i64 d1, .int .i64 d2] 68)).mono (by omega)))
      have hsz6 := (below_new w5 (.cells #[.int .i64 d0, .int .i64 d1, .int .i64 d2] 68)).size
      rw [← hW6] at NB HSv HFb HBe hsz6 ⊢
      clear hW6
      clear HSx
      have HSx := Lib.hid (HSv.out.box.cells).1
      clear hK K
      (try simp only [Act.put, List.setIfInBounds_toArray, List.set_cons_zero, List.set_cons_succ])
      refine wpAnyH_ready (rs := [4]) (by kernel_rfl) (by simp) ?_
      refine AllReadyH.cons (o := { dst := some 71, op := Op.load 25 (Operand.tmp 70), type := 25, pos := "text.go:97", after := #[{ on := 3, ground := Ground.data }], guard := none }) rfl (fun K hK => ?_) AllReadyH.nil
      obtain ⟨t0, t1, t2, t3⟩ := HSv.out.box.cells
      go_simp
      refine hK.out _ _ ?_ (fun hHeld => ?_)
      · exact HSx.out
      clear t0 t1 t2 t3
      clear hK K
      (try simp only [Act.put, List.setIfInBounds_toArray, List.set_cons_zero, List.set_cons_succ])
      refine wpAnyH_ready (rs := [11]) (by kernel_rfl) (by simp) ?_
      refine AllReadyH.cons (o := { dst := some 78, op := Op.call { callee := Callee.builtin Builtin.append, args := #[Operand.tmp 71, Operand.tmp 77], argTypes := #[25, 25] }, type := 25, pos := "text.go:97", after := #[{ on := 4, ground := Ground.data }, { on := 10, ground := Ground.data }, { on := 9, ground := Ground.chain }], guard := none }) rfl (fun K hK => ?_) AllReadyH.nil
      refine step_append_lies _ (by rfl) _ _ _ (by rfl) (gs + 1) 68 i0 (.agg #[.int .i64 0, .int .i64 0, .int .i64 0]) 3 24 Tryz.underlying25 hi hz0 hz1 hz2 rfl (by decide) _ _ _ (by rfl) HSv.out.a.1 ⟨w5.heap.size, 0, none⟩ 1 1 (asdE.cells ⟨d0, d1, d2⟩) (by rfl) rfl ?c1 ?c2 (by decide) ?c4 ?c5 ?c6 _ rfl ?_
      case c1 => exact World.news_of_block NB.out
      case c2 => exact asdE.one ⟨d0, d1, d2⟩
      case c4 => unfold maxLen; omega
      case c5 => omega
      case c6 => omega
      intro gg cp w7 hown hgrow hat hlt7
      have T7 := Lib.hid (HSv.out.stay3 hgrow)
      have SVn := Lib.hid (HSv.out.app3 (x := ⟨d0, d1, d2⟩) HX.out hown hgrow)
      have FBn := Lib.hid (HSv.out.far3 (v' := (.slice (some ⟨gg, 0, none⟩) (s.as_.length + 1) cp)) hgrow g _ HFb.out.blk (by omega) (fun c fz e => by injection e with _ e2 _; revert e2; decide))
      have LW := Lib.hid (HBe.out.trans (HSv.out.low3 (v' := (.slice (some ⟨gg, 0, none⟩) (s.as_.length + 1) cp)) hgrow))
      have HSz := Lib.hid (T7.out.cells).1
      clear hown hgrow hat hlt7
      clear HSx
      have HSx := HSz
      clear HSz
      refine hK.out _ _ ?_ (fun hHeld => ?_)
      · exact HSx.out
      clear hK K
      (try simp only [Act.put, List.setIfInBounds_toArray, List.set_cons_zero, List.set_cons_succ])
      refine wpAnyH_take (i := 12) (oi := { dst := some 79, op := Op.nilCheck (Operand.tmp 67), type := 0, pos := "text.go:97", after := #[{ on := 0, ground := Ground.data }, { on := 0, ground := Ground.phase }, { on := 1, ground := Ground.phase }, { on := 2, ground := Ground.phase }, { on := 3, ground := Ground.phase }, { on := 4, ground := Ground.phase }, { on := 5, ground := Ground.phase }, { on := 6, ground := Ground.phase }, { on := 7, ground := Ground.phase }, { on := 8, ground := Ground.phase }, { on := 9, ground := Ground.phase }, { on := 10, ground := Ground.phase }, { on := 11, ground := Ground.phase }], guard := none }) (v := ?_) rfl (by kernel_rfl) (by kernel_rfl) (by kernel_rfl) (fun _ _ _ h => h) (Or.inl ⟨by rfl, ?_⟩) (by assumption) ?_
      rotate_left
      · intro w hSw; (try dsimp only at hSw); go_simp; try with_reducible rfl
      (try simp only [Act.put, List.setIfInBounds_toArray, List.set_cons_zero, List.set_cons_succ])
      refine wpAnyH_take (i := 13) (oi := { dst := some 80, op := Op.fieldAddr 27 (Operand.tmp 79) 3, type := 0, pos := "text.go:97", after := #[{ on := 12, ground := Ground.data }, { on := 0, ground := Ground.phase }, { on := 1, ground := Ground.phase }, { on := 2, ground := Ground.phase }, { on := 3, ground := Ground.phase }, { on := 4, ground := Ground.phase }, { on := 5, ground := Ground.phase }, { on := 6, ground := Ground.phase }, { on := 7, ground := Ground.phase }, { on := 8, ground := Ground.phase }, { on := 9, ground := Ground.phase }, { on := 10, ground := Ground.phase }, { on := 11, ground := Ground.phase }], guard := none }) (v := ?_) rfl (by kernel_rfl) (by kernel_rfl) (by kernel_rfl) (fun _ _ _ h => h) (Or.inl ⟨by rfl, ?_⟩) (by assumption) ?_
      rotate_left
      · intro w hSw; (try dsimp only at hSw); go_simp; try with_reducible rfl
      (try simp only [Act.put, List.setIfInBounds_toArray, List.set_cons_zero, List.set_cons_succ])
      refine wpAnyH_ready (rs := [14]) (by kernel_rfl) (by simp) ?_
      refine AllReadyH.cons (o := { dst := none, op := Op.store 25 (Operand.tmp 80) (Operand.tmp 78), type := 0, pos := "text.go:97", after := #[{ on := 13, ground := Ground.data }, { on := 11, ground := Ground.data }, { on := 11, ground := Ground.chain }, { on := 0, ground := Ground.phase }, { on := 1, ground := Ground.phase }, { on := 2, ground := Ground.phase }, { on := 3, ground := Ground.phase }, { on := 4, ground := Ground.phase }, { on := 5, ground := Ground.phase }, { on := 6, ground := Ground.phase }, { on := 7, ground := Ground.phase }, { on := 8, ground := Ground.phase }, { on := 9, ground := Ground.phase }, { on := 10, ground := Ground.phase }, { on := 11, ground := Ground.phase }], guard := none }) rfl (fun K hK => ?_) AllReadyH.nil
      obtain ⟨t0, t1, t2, t3⟩ := T7.out.cells
      obtain ⟨f0, f1, f2, f3⟩ := T7.out.free
      have hzz := T7.out.lt
      go_simp
      have HSz := Lib.hid (SVn.out.box.cells).1
      clear HSx
      have HSx := HSz
      clear HSz
      refine hK.out _ _ ?_ (fun hHeld => ?_)
      · exact HSx.out
      clear t0 t1 t2 t3 f0 f1 f2 f3
      clear hK K
      (try simp only [Act.put, List.setIfInBounds_toArray, List.set_cons_zero, List.set_cons_succ])
      refine wpAnyH_done (by kernel_rfl) ?_ _
      have c1' := cell_of_row _ g 1 _ _ _ FBn.out
      go_wp2
      go_ret
      exact (by first | exact ⟨ER.out, LW.out, fun he => ⟨_, _, _, _, by rw [SN.out he]; exact SVn.out⟩⟩ | exact ⟨ER.out, LW.out.drew, fun he => ⟨_, _, _, _, by rw [SN.out he]; exact SVn.out⟩⟩)
end Go.Proofs.YtigfgeanofccgaaGreatDoor
