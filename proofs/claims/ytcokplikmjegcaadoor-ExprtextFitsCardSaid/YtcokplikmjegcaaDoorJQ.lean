/- PFmt, RTree12, RNum12, joined: no claim of its own. -/
import Derived.Test.YtcokplikmjegcaaDoorJN
import Derived.Test.YtcokplikmjegcaaDoorJP
import Derived.Test.YtcokplikmjegcaaDoorJG
import Derived.Test.YtcokplikmjegcaaDoorJI
import Derived.Test.YtcokplikmjegcaaDoorJE
import Derived.Test.YtcokplikmjegcaaDoorJA
import Derived.IntWalk
import Derived.Laws.BytesArg
namespace Go.Proofs.YtcokplikmjegcaaDoor
open Go.RowKit
open MC (Pr)
open ME (F Nd)
/-- What Format hands back. -/
noncomputable def fmtV (L : List Pr) (n : Nd) : Value := .tuple #[.string (str (MX.fmtE L n).1), .int .i64 (MX.fmtE L n).2]
theorem ret_fmt {L : List Pr} {n : Nd} {s : List UInt8} {e : Int} (h : MX.fmtE L n = (s, e)) : Ending.returned (.tuple #[.string (str s), .int .i64 e]) = .returned (fmtV L n) := by unfold fmtV; rw [h]
theorem Lay.six_pre {w : World} {ok : Nat → Prop} : ∀ (t : FT) {a : Addr}, Lay w ok a t → ∀ z ∈ t.f.pre, z.b.length = 6
  | .nil, _, _ => fun z hz => by cases hz
  | .cons o b v A c k r, _, h => fun z hz => by
    have hz : z ∈ (⟨o, b, v, k.f⟩ : Nd) :: (k.f.pre ++ r.f.pre) := hz
    rcases List.mem_cons.1 hz with rfl | hz
    · exact h.1.2.2.1
    · rcases List.mem_append.1 hz with hz | hz
      · rcases h.2.2.2.1 with hk | ⟨ad, _, hk⟩
        · subst hk; cases hz
        · exact Lay.six_pre k hk z hz
      · exact Lay.six_pre r h.2.2.2.2 z hz
theorem NT.Ok.six_pre {x : NT} {w : World} {ok : Nat → Prop} (h : x.Ok w ok) : ∀ z ∈ x.n.pre, z.b.length = 6 := fun z hz => by
  rcases List.mem_cons.1 hz with rfl | hz
  · exact h.six
  · rcases h.kids.lay with hk | ⟨ad, _, hk⟩
    · rw [show x.n.k = x.k.f from rfl, hk] at hz; cases hz
    · exact Lay.six_pre x.k hk z hz
theorem str_ne {l : List UInt8} (h : l ≠ []) : ((str l).toList == ([] : List UInt8)) = false := by rw [ByteArray.toList_eq, str_data]; exact beq_eq_false_iff_ne.2 h
theorem textL_ne {L : List Pr} {b : List Int} : MC.textL L b ≠ [] := by unfold MC.textL; simp
set_option maxRecDepth 100000 in
set_option maxHeartbeats 8000000 in
theorem format12_any (A : Option Addr) (n cp : Nat) (L : List Pr) (x : NT) (hx : x.size ≤ 2000000) (w : World) (hp : Prs w A n cp L) (hok : x.Ok w (fun _ => True)) (ht : Tab w) (hops : Ops w) :
    Calls Tryd.prog 7 #[.slice A n cp, x.val] w (Gives (fmtV L x.n) w) := by
  obtain ⟨o, bb, v, A1, c1, k⟩ := x
  obtain ⟨x0, x1, x2, x3, x4, x5, rfl⟩ := six hok.six
  have h6 : ∀ z ∈ (NT.n (⟨o, [x0, x1, x2, x3, x4, x5], v, A1, c1, k⟩ : NT)).pre, z.b.length = 6 := hok.six_pre
  have B0 := Lib.hid (below_new w (.cells #[.int .i64 o, .int .i64 x0, .int .i64 x1, .int .i64 x2, .int .i64 x3, .int .i64 x4, .int .i64 x5, .int .i64 v, .slice A1 k.len c1] 27))
  have X0 : Hid (B9 (w.alloc (.cells #[.int .i64 o, .int .i64 x0, .int .i64 x1, .int .i64 x2, .int .i64 x3, .int .i64 x4, .int .i64 x5, .int .i64 v, .slice A1 k.len c1] 27)) w.heap.size (.int .i64 o) (.int .i64 x0) (.int .i64 x1) (.int .i64 x2) (.int .i64 x3) (.int .i64 x4) (.int .i64 x5) (.int .i64 v) (.slice A1 k.len c1)) := Lib.hid (heap_new _ _)
  have CL := Lib.hid (fun w' (hb : Below w.heap.size w w') => check_any A n cp L w' (hp.keep hb))
  have CX := Lib.hid (fun w' (hb : Below w.heap.size w w') => echeck_any (⟨o, [x0, x1, x2, x3, x4, x5], v, A1, c1, k⟩ : NT) hx w' (fun _ => True) (hok.below hb))
  have CP := Lib.hid (fun w' (hb : Below w.heap.size w w') => prod_any (⟨o, [x0, x1, x2, x3, x4, x5], v, A1, c1, k⟩ : NT) hx w' (fun _ => True) (hok.below hb))
  have HP := Lib.hid hp
  have HO := Lib.hid hok
  have HT := Lib.hid ht
  have HQ := Lib.hid hops
  rw [NT.val_lit] at CX CP ⊢
  clear hp hok ht hops
  go_enter Tryd.func7, Tryd.ntmps7
  go_upto_region 1 with (fail)
  obtain ⟨W0, hW0⟩ : ∃ W0, W0 = w.alloc (.cells #[.int .i64 o, .int .i64 x0, .int .i64 x1, .int .i64 x2, .int .i64 x3, .int .i64 x4, .int .i64 x5, .int .i64 v, .slice A1 k.len c1] 27) := ⟨_, rfl⟩
  rw [← hW0] at B0 X0 ⊢
  clear hW0
  go_wp2_with fail
  refine (CL.out _ B0.out).mono ?_
  rintro ev w1 ⟨rfl, hb⟩
  have B1 := Lib.hid (B0.out.trans (hb.mono B0.out.size))
  have X1 := Lib.hid (X0.out.keep hb)
  clear hb B0 X0 CL
  by_cases hL : MC.chkL L = 0
  case neg =>
    have hne : (MC.chkL L != 0) = true := bne_iff_ne.2 hL
    have R := Lib.hid (ret_fmt (L := L) (n := NT.n (⟨o, [x0, x1, x2, x3, x4, x5], v, A1, c1, k⟩ : NT)) (s := []) (e := MC.chkL L) (by unfold MX.fmtE; rw [if_pos hL]))
    generalize MC.chkL L = kk at *
    clear hL CX CP
    go_wp2
    refine bodyPost_ret (v := .tuple #[.string ⟨#[]⟩, .int .i64 kk]) (by simp [results, Tryd.results7, go_sem]) rfl ?_
    exact ⟨R.out, B1.out⟩
  rw [hL]
  obtain ⟨a0, a1, a2, a3, a4, a5, a6, a7, a8⟩ := X1.out.cells
  go_wp2_with fail
  refine (CX.out _ B1.out).mono ?_
  rintro ev w2 ⟨rfl, hb⟩
  have B2 := Lib.hid (B1.out.trans (hb.mono B1.out.size))
  have X2 := Lib.hid (X1.out.keep hb)
  clear hb B1 X1 CX a0 a1 a2 a3 a4 a5 a6 a7 a8
  by_cases hN : ME.checkE (NT.n (⟨o, [x0, x1, x2, x3, x4, x5], v, A1, c1, k⟩ : NT)) = 0
  case neg =>
    have hne : (ME.checkE (NT.n (⟨o, [x0, x1, x2, x3, x4, x5], v, A1, c1, k⟩ : NT)) != 0) = true := bne_iff_ne.2 hN
    have R := Lib.hid (ret_fmt (L := L) (n := NT.n (⟨o, [x0, x1, x2, x3, x4, x5], v, A1, c1, k⟩ : NT)) (s := []) (e := ME.checkE (NT.n (⟨o, [x0, x1, x2, x3, x4, x5], v, A1, c1, k⟩ : NT))) (by unfold MX.fmtE; rw [if_neg (by simpa using hL), if_pos hN]))
    generalize ME.checkE (NT.n (⟨o, [x0, x1, x2, x3, x4, x5], v, A1, c1, k⟩ : NT)) = kk at *
    clear hL hN CP
    go_wp2
    refine bodyPost_ret (v := .tuple #[.string ⟨#[]⟩, .int .i64 kk]) (by simp [results, Tryd.results7, go_sem]) rfl ?_
    exact ⟨R.out, B2.out⟩
  rw [hN]
  have FI := Lib.hid (MX.fit_iff hL hN h6)
  obtain ⟨a0, a1, a2, a3, a4, a5, a6, a7, a8⟩ := X2.out.cells
  obtain ⟨p0, p1, p2, p3, p4, p5, hpl⟩ : ∃ p0 p1 p2 p3 p4 p5, ME.prodL (NT.n (⟨o, [x0, x1, x2, x3, x4, x5], v, A1, c1, k⟩ : NT)).pre ME.zero6 = [p0, p1, p2, p3, p4, p5] := by
    have : ∀ (l : List Nd) (z : List Int), z.length = 6 → (ME.prodL l z).length = 6 := by
      intro l
      induction l with
      | nil => intro z h; exact h
      | cons y r ih => intro z _; exact ih _ rfl
    have h := this (NT.n (⟨o, [x0, x1, x2, x3, x4, x5], v, A1, c1, k⟩ : NT)).pre ME.zero6 rfl
    match hq : ME.prodL (NT.n (⟨o, [x0, x1, x2, x3, x4, x5], v, A1, c1, k⟩ : NT)).pre ME.zero6, h with
    | [p0, p1, p2, p3, p4, p5], _ => exact ⟨p0, p1, p2, p3, p4, p5, rfl⟩
  rw [hpl] at FI CP
  go_wp2_with fail
  refine (CP.out _ B2.out).mono ?_
  rintro ev w3 ⟨rfl, hb⟩
  have B3 := Lib.hid (B2.out.trans (hb.mono B2.out.size))
  have X3 := Lib.hid (X2.out.keep hb)
  clear hb B2 X2 CP a0 a1 a2 a3 a4 a5 a6 a7 a8 hpl
  have CF := Lib.hid (fun w' (hb : Below w.heap.size w w') => format_any A n cp L p0 p1 p2 p3 p4 p5 w' (HP.out.keep hb))
  simp only [aggB]
  go_wp2_with fail
  refine (CF.out _ B3.out).mono ?_
  rintro ev w4 ⟨rfl, hb⟩
  have B4 := Lib.hid (B3.out.trans (hb.mono B3.out.size))
  have X4 := Lib.hid (X3.out.keep hb)
  clear hb B3 X3 CF
  by_cases hF : MC.Fits L [p0, p1, p2, p3, p4, p5]
  case neg =>
    have hs : ((str (MC.fmtL L [p0, p1, p2, p3, p4, p5])).toList == ([] : List UInt8)) = true := by rw [fmt_no hF, ByteArray.toList_eq, str_data]; rfl
    have R := Lib.hid (ret_fmt (L := L) (n := NT.n (⟨o, [x0, x1, x2, x3, x4, x5], v, A1, c1, k⟩ : NT)) (s := []) (e := 4) (by unfold MX.fmtE; rw [if_neg (by simpa using hL), if_neg (by simpa using hN), if_pos (fun h => hF (FI.out.2 h))]))
    generalize str (MC.fmtL L [p0, p1, p2, p3, p4, p5]) = sf at *
    clear hL hN hF FI
    go_wp2
    refine bodyPost_ret (v := .tuple #[.string ⟨#[]⟩, .int .i64 4]) (by simp [results, Tryd.results7, go_sem]) rfl ?_
    exact ⟨R.out, B4.out⟩
  have hFN := FI.out.1 hF
  have hs : ((str (MC.fmtL L [p0, p1, p2, p3, p4, p5])).toList == ([] : List UInt8)) = false := by rw [fmt_yes hF]; exact str_ne textL_ne
  have HOK := MX.ok_of hN hFN h6
  have hlen := MX.tx_len HOK
  have hsz := (ME.checkE_zero.1 hN).2.1
  have hlen' : (MX.txN L (NT.n (⟨o, [x0, x1, x2, x3, x4, x5], v, A1, c1, k⟩ : NT))).length ≤ 10000 := by omega
  have EF := Lib.hid (show MX.fmtE L (NT.n (⟨o, [x0, x1, x2, x3, x4, x5], v, A1, c1, k⟩ : NT)) = if 4000 < (MX.txN L (NT.n (⟨o, [x0, x1, x2, x3, x4, x5], v, A1, c1, k⟩ : NT))).length then ([], 3) else (MX.txN L (NT.n (⟨o, [x0, x1, x2, x3, x4, x5], v, A1, c1, k⟩ : NT)), 0) by unfold MX.fmtE; rw [if_neg (by simpa using hL), if_neg (by simpa using hN), if_neg (by simpa using hFN)])
  have hTN : MX.txN L (NT.n (⟨o, [x0, x1, x2, x3, x4, x5], v, A1, c1, k⟩ : NT)) ≠ [] := MX.tx_ne
  have WB := below_new w4 (.cells #[.slice A n cp, .pointer none, .slice none 0 0] 48)
  have B5 := B4.out.trans (WB.mono B4.out.size)
  have X5 := Lib.hid (X4.out.keep WB)
  have hb4 : w.heap.size < w4.heap.size := X4.out.lt
  have HW := Lib.hid (write_any w4.heap.size A n cp L 2000000 (⟨o, [x0, x1, x2, x3, x4, x5], v, A1, c1, k⟩ : NT) [] (w4.alloc (.cells #[.slice A n cp, .pointer none, .slice none 0 0] 48)) hx
    (fun w' hb => by
      have hb' : Below w.heap.size w w' := B5.trans (hb.mono (Nat.le_of_lt hb4))
      exact ⟨HP.out.keep hb', HT.out.keep hb', HQ.out.keep hb'⟩)
    (HO.out.keep (fun j _ hj => B5.block j hj) B5.size (fun j _ hj => by show j < _; omega)) HOK (Wr.new w4 _) (by simp only [List.length_nil]; omega))
  rw [NT.val_lit, List.nil_append] at HW
  clear HOK hFN hF FI hlen hsz hL hN WB h6
  generalize str (MC.fmtL L [p0, p1, p2, p3, p4, p5]) = sf at *
  generalize htx : MX.txN L (NT.n (⟨o, [x0, x1, x2, x3, x4, x5], v, A1, c1, k⟩ : NT)) = tx at *
  clear htx
  go_upto_region 10 with (fail)
  have B5h := Lib.hid B5
  clear B5
  obtain ⟨W5, hW5⟩ : ∃ W5, W5 = w4.alloc (.cells #[.slice A n cp, .pointer none, .slice none 0 0] 48) := ⟨_, rfl⟩
  rw [← hW5] at HW X5 B5h ⊢
  clear hW5
  generalize w4.heap.size = b at *
  obtain ⟨a0, a1, a2, a3, a4, a5, a6, a7, a8⟩ := X5.out.cells
  go_wp2_with fail
  refine HW.out.mono ?_
  rintro ev w6 ⟨rfl, hw, hO⟩
  have B6 := Lib.hid (B5h.out.trans (hO.below.mono (Nat.le_of_lt hb4)))
  have LN := Lib.hid (len1 b (.slice A n cp) tx w6 hw)
  have SN := Lib.hid (string1 b (.slice A n cp) tx w6 hw hTN)
  clear hw hO HW X5 B5h a0 a1 a2 a3 a4 a5 a6 a7 a8
  go_wp2_with fail
  refine LN.out.mono ?_
  rintro ev w7 ⟨rfl, hw7⟩
  obtain rfl : w6 = w7 := hw7.symm
  clear LN hw7
  by_cases h4 : 4000 < tx.length
  · have R := Lib.hid (ret_fmt (EF.out.trans (if_pos h4)))
    have h4' : (4000 : Int) < (tx.length : Int) := by omega
    clear EF SN h4
    generalize (tx.length : Int) = q at *
    go_wp2
    refine bodyPost_ret (v := .tuple #[.string ⟨#[]⟩, .int .i64 3]) (by simp [results, Tryd.results7, go_sem]) rfl ?_
    exact ⟨R.out, B6.out⟩
  · have R := Lib.hid (ret_fmt (EF.out.trans (if_neg h4)))
    have h4' : ¬ (4000 : Int) < (tx.length : Int) := by omega
    clear EF h4
    generalize (tx.length : Int) = q at *
    go_wp2_with fail
    refine SN.out.mono ?_
    rintro ev w8 ⟨rfl, hb8⟩
    have B8 := Lib.hid (B6.out.trans (hb8.mono (Nat.le_of_lt hb4)))
    clear hb8 SN B6
    go_wp2
    refine bodyPost_ret (v := .tuple #[.string (str tx), .int .i64 0]) (by simp [results, Tryd.results7, go_sem]) rfl ?_
    exact ⟨R.out, B8.out⟩
end Go.Proofs.YtcokplikmjegcaaDoor
namespace Go.Proofs.YtcokplikmjegcaaDoor
open Go.RowKit
open MC (Pr)
open ME (F Nd)
def allFit (L : List Pr) (l : List Nd) : Bool := l.all fun x => fitsB L x.b
theorem allFit_iff {L : List Pr} {n : Nd} (h6 : ∀ x ∈ n.pre, x.b.length = 6) : allFit L n.pre = true ↔ MX.FitN L n := by
  unfold allFit MX.FitN
  rw [List.all_eq_true]
  exact ⟨fun h x hx => (fitsB_iff (h6 x hx)).1 (h x hx), fun h x hx => (fitsB_iff (h6 x hx)).2 (h x hx)⟩
set_option maxRecDepth 100000 in
set_option maxHeartbeats 4000000 in
theorem rweigh_any : ∀ (N : Nat) (x : NT), x.size ≤ N → ∀ (m : Nat), 1 ≤ m → m ≤ 1000 → ∀ (w : World) (ok : Nat → Prop), x.Ok w ok → Calls Tryd.prog 5 #[x.val, .int .i64 (m : Int)] w (Gives (.int .i64 ((min x.size m : Nat) : Int)) w) := by
  intro N
  induction N with
  | zero => intro x hx; unfold NT.size at hx; omega
  | succ N ih =>
    intro x hx m hm1 hm2 w ok hok
    have IH := Lib.hid ih
    have hsz : x.k.size ≤ N := by unfold NT.size at hx; omega
    clear ih hx
    obtain ⟨o, bb, v, A1, c1, k⟩ := x
    obtain ⟨x0, x1, x2, x3, x4, x5, rfl⟩ := six hok.six
    have hn := hok.kids.few
    have hcap := hok.kids.cap
    dsimp only at hn hcap hsz
    have B0 := Lib.hid (below_new w (.cells #[.int .i64 o, .int .i64 x0, .int .i64 x1, .int .i64 x2, .int .i64 x3, .int .i64 x4, .int .i64 x5, .int .i64 v, .slice A1 k.len c1] 27))
    have X0 : Hid (B9 (w.alloc (.cells #[.int .i64 o, .int .i64 x0, .int .i64 x1, .int .i64 x2, .int .i64 x3, .int .i64 x4, .int .i64 x5, .int .i64 v, .slice A1 k.len c1] 27)) w.heap.size (.int .i64 o) (.int .i64 x0) (.int .i64 x1) (.int .i64 x2) (.int .i64 x3) (.int .i64 x4) (.int .i64 x5) (.int .i64 v) (.slice A1 k.len c1)) := Lib.hid (heap_new _ _)
    have RS0 := Lib.hid ((hok.below B0.out).kids.rest)
    have EZ : Hid (NT.size (⟨o, [x0, x1, x2, x3, x4, x5], v, A1, c1, k⟩ : NT) = 1 + k.size) := Lib.hid (by unfold NT.size; exact Nat.add_comm _ _)
    rw [NT.val_lit]
    generalize NT.size (⟨o, [x0, x1, x2, x3, x4, x5], v, A1, c1, k⟩ : NT) = Z at *
    clear hok
    go_enter Tryd.func5, Tryd.ntmps5
    go_upto_region 1 with (fail)
    obtain ⟨W0, hW0⟩ : ∃ W0, W0 = w.alloc (.cells #[.int .i64 o, .int .i64 x0, .int .i64 x1, .int .i64 x2, .int .i64 x3, .int .i64 x4, .int .i64 x5, .int .i64 v, .slice A1 k.len c1] 27) := ⟨_, rfl⟩
    rw [← hW0] at B0 X0 RS0 ⊢
    clear hW0
    go_wp2
    go_loopw [5, 6] (fun nv i wr => ∃ (q : Nat) (rs : FT) (d : Nat), q ≤ k.len ∧ rs.size ≤ N ∧ 1 ≤ d ∧ d ≤ m ∧ i = .int .i64 q ∧ nv = .int .i64 d ∧ Hid (Rest wr ok A1 q rs k.len) ∧ Hid (B9 wr w.heap.size (.int .i64 o) (.int .i64 x0) (.int .i64 x1) (.int .i64 x2) (.int .i64 x3) (.int .i64 x4) (.int .i64 x5) (.int .i64 v) (.slice A1 k.len c1)) ∧ Hid (Below w.heap.size w wr) ∧ Hid (min Z m = min (d + rs.size) m)) (fun _ i _ => k.len - (intOf i).toNat)
    case atStart => exact ⟨0, k, 1, Nat.zero_le _, hsz, Nat.le_refl _, hm1, rfl, rfl, RS0, X0, B0, Lib.hid (by rw [EZ.out])⟩
    case round =>
      clear RS0 X0 B0 EZ
      obtain ⟨q, rs, d, hq, hrs, hd1, hdm, rfl, rfl, RS, XB, HB, HR⟩ := hrel
      obtain ⟨a0, a1, a2, a3, a4, a5, a6, a7, a8⟩ := XB.out.cells
      by_cases hlt : q < k.len
      · have hlt' : (q : Int) < (k.len : Int) := by omega
        by_cases hdl : d < m
        · have hdl' : (d : Int) < (m : Int) := by omega
          obtain ⟨ad, oy, y0, y1, y2, y3, y4, y5, vy, Ay, cy, ky, r', rfl, rfl, hoky, hnx, hbk, _, z0, z1, z2, z3, z4, z5, z6, z7, z8⟩ := RS.out.open_ hlt
          have hs2 : NT.size (⟨oy, [y0, y1, y2, y3, y4, y5], vy, Ay, cy, ky⟩ : NT) ≤ N := by unfold FT.size at hrs; unfold NT.size; show ky.size + 1 ≤ N; omega
          have hr2 : r'.size ≤ N := by unfold FT.size at hrs; omega
          have CW := IH.out (⟨oy, [y0, y1, y2, y3, y4, y5], vy, Ay, cy, ky⟩ : NT) hs2 (m - d) (by omega) (by omega) wr ok hoky
          rw [NT.val_lit, show ((m - d : Nat) : Int) = (m : Int) - (d : Int) by omega] at CW
          have CW := Lib.hid CW
          have hsy : FT.size (.cons oy [y0, y1, y2, y3, y4, y5] vy Ay cy ky r') = NT.size (⟨oy, [y0, y1, y2, y3, y4, y5], vy, Ay, cy, ky⟩ : NT) + r'.size := by unfold NT.size; rw [FT.size]; show 1 + ky.size + r'.size = ky.size + 1 + r'.size; omega
          rw [hsy] at HR
          have RN := Lib.hid hnx
          clear hoky hnx RS hsy hs2
          generalize NT.size (⟨oy, [y0, y1, y2, y3, y4, y5], vy, Ay, cy, ky⟩ : NT) = sy at *
          have hw1 : IntKind.i64.wrap ((m : Int) - (d : Int)) = (m : Int) - (d : Int) := IntWalk.i64_in _ (by omega)
          obtain ⟨e, he⟩ : ∃ e, e = min sy (m - d) := ⟨_, rfl⟩
          rw [← he] at CW
          have HE := Lib.hid he
          have hem : e ≤ m - d := by omega
          clear he
          have hw2 : IntKind.i64.wrap ((d : Int) + (e : Int)) = (d : Int) + (e : Int) := IntWalk.i64_in _ (by omega)
          go_wp2_with fail
          refine CW.out.mono ?_
          rintro ev w4 ⟨rfl, hb⟩
          have B4 := Lib.hid (HB.out.trans (hb.mono HB.out.size))
          have X4 := Lib.hid (XB.out.keep hb)
          have R4 := Lib.hid (RN.out.below hb)
          have HR4 : Hid (min Z m = min (d + e + r'.size) m) := Lib.hid (by have := HE.out; rw [HR.out]; omega)
          clear hb CW HB XB RN a0 a1 a2 a3 a4 a5 a6 a7 a8 z0 z1 z2 z3 z4 z5 z6 z7 z8 HR HE
          go_wp2
          go_roundw
          case rel => exact ⟨q + 1, r', d + e, by omega, hr2, by omega, by omega, by go_num, by go_num, R4, X4, B4, HR4⟩
          case measure => simp [intOf]; omega
        · obtain rfl : d = m := by omega
          have ER : Hid (min Z d = d) := Lib.hid (by rw [HR.out]; omega)
          clear HR RS
          generalize min Z d = mz at *
          go_wp2
          go_ret
          exact ⟨by rw [ER.out]; rfl, HB.out⟩
      · obtain ⟨rfl, _⟩ := RS.out.end_ hlt
        have hlt' : ¬ (q : Int) < (k.len : Int) := by omega
        have ER : Hid (min Z m = d) := Lib.hid (by rw [HR.out]; show min (d + 0) m = d; omega)
        have hmd : min (d : Int) (m : Int) = (d : Int) := by omega
        clear HR RS
        generalize min Z m = mz at *
        go_wp2
        go_ret
        exact ⟨by rw [ER.out]; rfl, HB.out⟩
end Go.Proofs.YtcokplikmjegcaaDoor
namespace Go.Proofs.YtcokplikmjegcaaDoor
open Go.RowKit
def boolOf : Value → Nat
  | .bool true => 1
  | _ => 0
theorem dec_cut (q : Nat) : MU.dec q = (if q / 10 = 0 then [] else MU.dec (q / 10)) ++ [UInt8.ofNat (48 + q % 10)] := by
  by_cases h : q < 10
  · rw [if_pos (by omega), MU.dec_small h, Nat.mod_eq_of_lt h]; rfl
  · rw [if_neg (by omega), MU.dec_big (by omega)]
end Go.Proofs.YtcokplikmjegcaaDoor
