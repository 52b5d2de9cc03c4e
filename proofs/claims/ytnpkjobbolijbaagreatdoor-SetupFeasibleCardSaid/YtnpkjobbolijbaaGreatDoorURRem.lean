/- The reference's Remaining: no claim of its own. -/
import Derived.Test.YtnpkjobbolijbaaGreatDoorURFeas
namespace Go.Proofs.YtnpkjobbolijbaaGreatDoor
open Go.RowKit
open MU (Su Cp As)
/-- The units left when i bundles are taken off, and of the next the first j products. -/
def remK (s : Su) (l : List (List Int)) (i j : Nat) : List Int := (List.range 6).map fun m => MB.at_ (MC.supB s.ps) m - MU.totK l m (if m < j then i + 1 else i)
theorem at_rng (f : Nat → Int) {m : Nat} (h : m < 6) : MB.at_ ((List.range 6).map f) m = f m := by
  have : m = 0 ∨ m = 1 ∨ m = 2 ∨ m = 3 ∨ m = 4 ∨ m = 5 := by omega
  rcases this with rfl | rfl | rfl | rfl | rfl | rfl <;> rfl
theorem remK_len (s : Su) (l : List (List Int)) (i j : Nat) : (remK s l i j).length = 6 := rfl
theorem remK_at (s : Su) (l : List (List Int)) (i j : Nat) {m : Nat} (h : m < 6) : MB.at_ (remK s l i j) m = MB.at_ (MC.supB s.ps) m - MU.totK l m (if m < j then i + 1 else i) := at_rng _ h
theorem remK_zero (s : Su) (l : List (List Int)) : remK s l 0 0 = MC.supB s.ps :=
  MB.ext6 (remK_len _ _ _ _) (MC.supB_length _) fun m hm => by rw [remK_at s l 0 0 hm, if_neg (by omega)]; show _ - 0 = _; omega
theorem remK_set {s : Su} {l : List (List Int)} {i j : Nat} {x : List Int} (hx : l[i]? = some x) (hj : j < 6) : (remK s l i j).set j (MB.at_ (remK s l i j) j - MB.at_ x j) = remK s l i (j + 1) :=
  MB.ext6 (by rw [List.length_set]; rfl) (remK_len _ _ _ _) fun m hm => by
    rw [MC.at_set (by rw [remK_len]; exact hj), remK_at s l i (j + 1) hm]
    by_cases e : m = j
    · subst e
      rw [if_pos rfl, if_pos (by omega), remK_at s l i m hm, if_neg (by omega), MU.totK_at hx]; omega
    · rw [if_neg e, remK_at s l i j hm]
      by_cases g : m < j
      · rw [if_pos g, if_pos (by omega)]
      · rw [if_neg g, if_neg (by omega)]
theorem remK_next (s : Su) (l : List (List Int)) (i : Nat) : remK s l i 6 = remK s l (i + 1) 0 :=
  MB.ext6 (remK_len _ _ _ _) (remK_len _ _ _ _) fun m hm => by rw [remK_at s l i 6 hm, remK_at s l (i + 1) 0 hm, if_pos hm, if_neg (by omega)]
theorem remB_yes {s : Su} {l : List (List Int)} (h : MU.feasE s l = 0) : remK s l l.length 0 = MU.remB s l := by
  unfold MU.remB
  rw [if_pos h]
  exact MB.ext6 (remK_len _ _ _ _) rfl fun m hm => by rw [remK_at s l _ 0 hm, if_neg (by omega), at_rng _ hm]
theorem remB_no {s : Su} {l : List (List Int)} (h : MU.feasE s l ≠ 0) : [0, 0, 0, 0, 0, 0] = MU.remB s l := by unfold MU.remB; rw [if_neg h]; rfl
/-- What lies while the units are taken off. -/
structure Rmb (wo : World) (v1 v2 v3 v4 : Value) (b : List Int) (Bs : Nat) (wr : World) : Prop where
  box : TB wr wo.heap.size 27 v1 v2 v3 v4
  res : BB wr (wo.heap.size + 1) 39 [0, 0, 0, 0, 0, 0]
  un : BB wr Bs 39 b
  below : Below wo.heap.size wo wr
  far : wo.heap.size + 1 < Bs
theorem Rmb.set {wo wr : World} {v1 v2 v3 v4 : Value} {b : List Int} {Bs : Nat} (h : Rmb wo v1 v2 v3 v4 b Bs wr) (k : Nat) (x : Int) : Rmb wo v1 v2 v3 v4 (b.set k x) Bs (wr.setCell ⟨Bs, k, none⟩ (.int .i64 x)) := by
  have := h.far
  exact ⟨h.box.other _ (by omega), h.res.other _ (by omega), h.un.set k x, h.below.setCell (p := ⟨Bs, k, none⟩) (by show _ ≤ Bs; omega) _, h.far⟩
theorem Rmb.drew {wo wr : World} {v1 v2 v3 v4 : Value} {b : List Int} {Bs : Nat} (h : Rmb wo v1 v2 v3 v4 b Bs wr) : Rmb wo v1 v2 v3 v4 b Bs wr.drew := ⟨h.box, h.res.drew, h.un.drew, h.below.drew, h.far⟩
theorem rrem_results {w : World} {R1 : Nat} {z0 z1 z2 z3 z4 z5 : Int} (tmps : Array Value) (h2 : tmps.getD 4 undef = .pointer (some ⟨R1, 0, none⟩)) (b1 : BB w R1 39 [z0, z1, z2, z3, z4, z5]) :
    (results Tryz.f26 tmps).run Tryz.prog w = .ok (.agg #[.int .i64 z0, .int .i64 z1, .int .i64 z2, .int .i64 z3, .int .i64 z4, .int .i64 z5]) w := by
  have h2' : tmps[4]?.getD undef = .pointer (some ⟨R1, 0, none⟩) := by simpa using h2
  obtain ⟨r0, r1, r2, r3, r4, r5⟩ := cells6 b1
  simp [results, Tryz.results26, h2', go_sem, r0, r1, r2, r3, r4, r5]
set_option maxRecDepth 100000 in
set_option maxHeartbeats 8000000 in
theorem rrem_any (A1 : Option Addr) (n1 c1 : Nat) (A2 : Option Addr) (n2 c2 : Nat) (A3 : Option Addr) (n3 c3 : Nat) (A4 : Option Addr) (n4 c4 : Nat) (s : Su) (A : Option Addr) (n c : Nat) (l : List (List Int)) (w : World) (h : SuAt w A1 n1 c1 A2 n2 c2 A3 n3 c3 A4 n4 c4 s) (h' : Lst bunE w A n c l) :
    Calls Tryz.prog 26 #[.agg #[.slice A1 n1 c1, .slice A2 n2 c2, .slice A3 n3 c3, .slice A4 n4 c4], .slice A n c] w (Gives (aggB (MU.remB s l)) w) := by
  have hn := h'.few
  have hc := h'.cap
  have HL := Lib.hid h'.len
  have H := Lib.hid h
  have H' := Lib.hid h'
  clear h h'
  have FE := Lib.hid (fun w' (hb : Below w.heap.size w w') => rfeas_any A1 n1 c1 A2 n2 c2 A3 n3 c3 A4 n4 c4 s A n c l w' (H.out.keep hb) (H'.out.keep hb))
  have SP := Lib.hid (fun w' (hb : Below w.heap.size w w') => rsupply_any A1 n1 c1 s.ps w' (H.out.ps.keep hb))
  have T0 := Lib.hid ((TB.new w 27 (.slice A1 n1 c1) (.slice A2 n2 c2) (.slice A3 n3 c3) (.slice A4 n4 c4)).keep (below_new _ (.cells #[.int .i64 0, .int .i64 0, .int .i64 0, .int .i64 0, .int .i64 0, .int .i64 0] 39)))
  have N0 := Lib.hid (BB.new (w.alloc (.cells #[.slice A1 n1 c1, .slice A2 n2 c2, .slice A3 n3 c3, .slice A4 n4 c4] 27)) 39 0 0 0 0 0 0)
  rw [World.size_alloc] at N0
  have B0 := Lib.hid (below_two w (.cells #[.slice A1 n1 c1, .slice A2 n2 c2, .slice A3 n3 c3, .slice A4 n4 c4] 27) (.cells #[.int .i64 0, .int .i64 0, .int .i64 0, .int .i64 0, .int .i64 0, .int .i64 0] 39))
  go_enter Tryz.func26, Tryz.ntmps26
  obtain ⟨er, her⟩ : ∃ er, MU.feasE s l = er := ⟨_, rfl⟩
  have HE := Lib.hid her
  rw [her] at FE
  clear her
  go_upto_region 1 with (fail)
  generalize (w.alloc (.cells #[.slice A1 n1 c1, .slice A2 n2 c2, .slice A3 n3 c3, .slice A4 n4 c4] 27)).alloc (.cells #[.int .i64 0, .int .i64 0, .int .i64 0, .int .i64 0, .int .i64 0, .int .i64 0] 39) = W0 at *
  obtain ⟨x0, x1, x2, x3⟩ := T0.out.cells
  go_wp2_with fail
  refine (FE.out _ B0.out).mono ?_
  rintro ev w1 ⟨rfl, hb⟩
  have T1 := Lib.hid (T0.out.keep hb)
  have N1 := Lib.hid (N0.out.keep hb N0.out.lt)
  have B1 := Lib.hid (B0.out.trans (hb.mono B0.out.size))
  clear hb FE T0 N0 B0 x0 x1 x2 x3
  obtain ⟨x0, x1, x2, x3⟩ := T1.out.cells
  by_cases h1 : er = 0
  · subst h1
    obtain ⟨hs, hls, heach, _⟩ := MU.feasE_zero HE.out
    have GS := Lib.hid (MU.chkS_good hs)
    have HLN := Lib.hid (show n ≤ 8 by rw [← HL.out, hls]; exact (MR.chk_good GS.out.bs).few)
    have HOK := Lib.hid (show ∀ i, i < n → MB.okB (l.getD i []) = true from fun i hi => (MU.allowE_zero (heach i (by rw [HL.out]; exact hi))).2.2.1)
    have HRB := Lib.hid (remB_yes HE.out)
    rw [HL.out] at HRB
    clear hs hls heach
    obtain ⟨p0, p1, p2, p3, p4, p5, hp⟩ := six (MC.supB_length s.ps)
    rw [hp, aggB_lit] at SP
    have HP := Lib.hid hp
    clear hp
    go_wp2_with fail
    refine (SP.out _ B1.out).mono ?_
    rintro ev w4 ⟨rfl, hb⟩
    have hb2 := hb.trans ((below_new w4 (.cells #[.int .i64 p0, .int .i64 p1, .int .i64 p2, .int .i64 p3, .int .i64 p4, .int .i64 p5] 39)).mono hb.size)
    have RM := Lib.hid (show Rmb w (.slice A1 n1 c1) (.slice A2 n2 c2) (.slice A3 n3 c3) (.slice A4 n4 c4) (remK s l 0 0) w4.heap.size
        (w4.alloc (.cells #[.int .i64 p0, .int .i64 p1, .int .i64 p2, .int .i64 p3, .int .i64 p4, .int .i64 p5] 39)) from by
      rw [remK_zero, HP.out]
      exact ⟨T1.out.keep hb2, N1.out.keep hb2 N1.out.lt, BB.new _ _ _ _ _ _ _ _, B1.out.trans (hb2.mono B1.out.size), by have := N1.out.lt; have := hb.size; omega⟩)
    clear hb hb2 SP T1 N1 B1 x0 x1 x2 x3 HP
    go_wp2
    generalize w4.alloc (.cells #[.int .i64 p0, .int .i64 p1, .int .i64 p2, .int .i64 p3, .int .i64 p4, .int .i64 p5] 39) = W4 at *
    generalize w4.heap.size = Bs at *
    go_loopw [6] (fun t wr => ∃ i : Nat, i ≤ n ∧ t = .int .i64 i ∧ Hid (Rmb w (.slice A1 n1 c1) (.slice A2 n2 c2) (.slice A3 n3 c3) (.slice A4 n4 c4) (remK s l i 0) Bs wr)) (fun t _ => n - (intOf t).toNat)
    case atStart => exact ⟨0, Nat.zero_le _, rfl, RM⟩
    case round =>
      obtain ⟨i, hi, rfl, HR⟩ := hrel
      clear RM
      by_cases hit : i < n
      · go_wp2
        go_loopw [7] (fun t wr => ∃ j : Nat, j ≤ 6 ∧ t = .int .i64 j ∧ Hid (Rmb w (.slice A1 n1 c1) (.slice A2 n2 c2) (.slice A3 n3 c3) (.slice A4 n4 c4) (remK s l i j) Bs wr)) (fun t _ => 6 - (intOf t).toNat)
        case atStart => exact ⟨0, Nat.zero_le _, rfl, HR⟩
        case round =>
          obtain ⟨j, hj, rfl, HS⟩ := hrel
          by_cases hjt : j < 6
          · have hjt' : (j : Int) < 6 := by omega
            obtain ⟨ad, x, rfl, q1, hx6, hbk, z1⟩ := bun_cell (H'.out.keep HS.out.below) hit hjt
            have g1 := HS.out.un.cell hjt
            have g2 := HS.out.un.free j
            have hz := HS.out.un.lt
            have HST := Lib.hid (remK_set (s := s) q1 hjt)
            have t1 := tot_rng hjt i fun i' hi' => HOK.out i' (by omega)
            have s1 := sup_rng GS.out j
            have e1 := remK_at s l i j hjt
            rw [if_neg (by omega)] at e1
            have hxr := MC.okB_at (HOK.out i hit) j
            rw [List.getD_eq_getElem?_getD, q1, Option.getD_some] at hxr
            have h8 := HLN.out
            have HW := sub_wrap (x := MB.at_ (remK s l i j) j) (u := MB.at_ x j) (by rw [e1]; omega) (by omega)
            have HN := Lib.hid (HS.out.set j (MB.at_ (remK s l i j) j - MB.at_ x j))
            rw [HST.out] at HN
            clear q1 hx6 hbk t1 s1 e1 hxr h8 HST HS
            generalize MB.at_ (remK s l i j) j = rj at *
            generalize MB.at_ x j = xj at *
            go_wp2
            go_region
            go_wp2
            go_roundw
            case rel => exact ⟨j + 1, by omega, by go_num, HN.out.drew⟩
            case measure => simp [intOf]; omega
          · obtain rfl : j = 6 := by omega
            rw [remK_next] at HS
            go_wp2
            go_roundw
            case rel => exact ⟨i + 1, by omega, by go_num, HS⟩
            case measure => simp [intOf]; omega
      · obtain rfl : i = n := by omega
        obtain ⟨z0, z1, z2, z3, z4, z5, hz⟩ := six (remK_len s l i 0)
        have O3 := HR.out
        rw [hz] at O3
        have HZ := Lib.hid (hz.symm.trans HRB.out)
        obtain ⟨c0, c1', c2', c3', c4', c5⟩ := cells6 O3.un
        obtain ⟨r0, r1, r2, r3, r4, r5⟩ := cells6 O3.res
        obtain ⟨g0, g1, g2, g3, g4, g5⟩ := free6 O3.res
        have l1 := O3.res.lt
        have HBl := Lib.hid O3.below
        have HRO := Lib.hid O3.res
        clear hz O3 HR
        go_wp2
        exact bodyPost_ret (rrem_results _ rfl (HRO.out.six z0 z1 z2 z3 z4 z5)) rfl ⟨ret_agg (xs := [z0, z1, z2, z3, z4, z5]) HZ.out, below_six HBl.out _ (by omega) _ _ _ _ _ _⟩
  · have hne : (er != 0) = true := bne_iff_ne.2 h1
    have HZ := Lib.hid (remB_no (s := s) (l := l) (by rw [HE.out]; exact h1))
    obtain ⟨r0, r1, r2, r3, r4, r5⟩ := cells6 N1.out
    obtain ⟨g0, g1, g2, g3, g4, g5⟩ := free6 N1.out
    have l1 := N1.out.lt
    go_wp2
    exact bodyPost_ret (rrem_results _ rfl (N1.out.six 0 0 0 0 0 0)) rfl ⟨ret_agg (xs := [0, 0, 0, 0, 0, 0]) HZ.out, below_six B1.out _ (by omega) _ _ _ _ _ _⟩
end Go.Proofs.YtnpkjobbolijbaaGreatDoor
