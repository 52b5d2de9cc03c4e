/- Supply of both: no claim of its own. -/
import Derived.Test.YtdlpolnnhhnecaaDoorCPrim
import Derived.Test.YtdlpolnnhhnecaaDoorBArith
namespace Go.Proofs.YtdlpolnnhhnecaaDoor
open Go.RowKit
open MC (Pr)
theorem Prs.empty {w : World} {n c : Nat} {l : List Pr} (h : Prs w none n c l) : n = 0 := by
  rcases Nat.eq_zero_or_pos n with e | e
  · exact e
  · obtain ⟨ad, ea, _⟩ := h.reads.2 e
    cases ea
/-- What has been done when k supplies are done. -/
structure Supd (B : Nat) (wo : World) (L : List Pr) (wr : World) (k : Nat) : Prop where
  here : BB wr (B + 1) 29 (MC.supU L k)
  res : BB wr B 29 [0, 0, 0, 0, 0, 0]
  below : Below wo.heap.size wo wr
  base : wo.heap.size ≤ B
theorem sup_start (w : World) (L : List Pr) : Supd w.heap.size w L ((w.alloc (.cells #[.int .i64 0, .int .i64 0, .int .i64 0, .int .i64 0, .int .i64 0, .int .i64 0] 29)).alloc (.cells #[.int .i64 0, .int .i64 0, .int .i64 0, .int .i64 0, .int .i64 0, .int .i64 0] 29)) 0 :=
  ⟨(two_boxes w _ _ 0 0 0 0 0 0 0 0 0 0 0 0).2, (two_boxes w _ _ 0 0 0 0 0 0 0 0 0 0 0 0).1, below_two _ _ _, Nat.le_refl _⟩
theorem Supd.alloc {B : Nat} {wo wr : World} {L : List Pr} {k : Nat} (h : Supd B wo L wr k) (o : Obj) : Supd B wo L (wr.alloc o) k :=
  ⟨h.here.alloc o, h.res.alloc o, h.below.trans ((below_new wr o).mono h.below.size), h.base⟩
theorem Supd.step {B : Nat} {wo wr : World} {L : List Pr} {k : Nat} {p : Pr} (h : Supd B wo L wr k) (hk : k < 6) (hp : L[k]? = some p) : Supd B wo L (wr.setCell ⟨B + 1, k, none⟩ (.int .i64 p.supply)) (k + 1) := by
  refine ⟨?_, h.res.other _ (by omega), h.below.setCell (p := ⟨B + 1, k, none⟩) (by show _ ≤ B + 1; have := h.base; omega) _, h.base⟩
  have := h.here.set k p.supply
  rwa [MC.supU_step hp hk] at this
set_option maxRecDepth 100000 in
set_option maxHeartbeats 2000000 in
theorem supply_any (A : Option Addr) (n c : Nat) (L : List Pr) (w : World) (h : Prs w A n c L) :
    Calls Tryd.prog 15 #[.slice A n c] w (Gives (aggB (MC.supB L)) w) := by
  have hn := h.few
  have hc := h.cap
  have HL := Lib.hid h.len
  have H := Lib.hid h
  have HS := Lib.hid (sup_start w L)
  clear h
  go_enter Tryd.func15, Tryd.ntmps15
  go_wp2
  case inr =>
    obtain ⟨W, hW⟩ : ∃ W, W = ((w.alloc (.cells #[.int .i64 0, .int .i64 0, .int .i64 0, .int .i64 0, .int .i64 0, .int .i64 0] 29)).alloc (.cells #[.int .i64 0, .int .i64 0, .int .i64 0, .int .i64 0, .int .i64 0, .int .i64 0] 29)) := ⟨_, rfl⟩
    rw [← hW] at HS ⊢
    clear hW
    go_loopw [12] (fun i wr => ∃ (k : Nat), k ≤ n ∧ i = .int .i64 k ∧ Hid (Supd w.heap.size w L wr k)) (fun i _ => n - (intOf i).toNat)
    case atStart => exact ⟨0, by omega, rfl, HS⟩
    case round =>
      rename_i _ wr
      obtain ⟨k, hk, rfl, HD⟩ := hrel
      clear HS
      by_cases hlt : k < n
      · obtain ⟨ad, p, rfl, q1, hbk, x0, x1, x2, x3, x4⟩ := (H.out.keep HD.out.below).at_ (k := k) (by omega)
        have hB := HD.out.here.lt
        have g2 := HD.out.here.free k
        have hsz := HD.out.here.lt
        have c9 := HD.out.here.cell (k := k) (by omega)
        have G := Lib.hid ((HD.out.step (by omega) q1).alloc (.cells #[.string (str p.name), .int .i64 p.supply, .int .i64 p.reserve, .int .i64 p.points, .int .i64 p.group] 62))
        clear q1 hbk HD
        obtain ⟨pn, ps, pr, pp, pg⟩ := p
        simp only at *
        generalize str pn = s at *
        go_wp2
        go_roundw
        case rel => exact ⟨k + 1, by omega, by go_num, G⟩
        case measure => simp [intOf]; omega
      · have hkn : k = n := by omega
        subst hkn
        have HE := Lib.hid (MC.supU_end (l := L) (k := k) (.inl HL.out.symm) (by omega) (by rw [HL.out]; omega))
        obtain ⟨z0, z1, z2, z3, z4, z5, hz⟩ := six HD.out.here.2
        have hh := HD.out.here
        rw [hz] at hh HE
        obtain ⟨c0, c1, c2, c3, c4, c5⟩ := cells6 hh
        obtain ⟨r0, r1, r2, r3, r4, r5⟩ := cells6 HD.out.res
        obtain ⟨g0, g1, g2, g3, g4, g5⟩ := free6 HD.out.res
        have hsz := HD.out.res.lt
        have HBl := Lib.hid HD.out.below
        clear hz hh HD
        go_wp2
        refine bodyPost_ret (v := .agg #[.int .i64 z0, .int .i64 z1, .int .i64 z2, .int .i64 z3, .int .i64 z4, .int .i64 z5]) (by simp [results, Tryd.results15, go_sem, r0, r1, r2, r3, r4, r5]) rfl ⟨ret_agg (xs := [z0, z1, z2, z3, z4, z5]) HE.out, ?_⟩
        exact below_six HBl.out _ (by omega) _ _ _ _ _ _
  case inl =>
    obtain ⟨W, hW⟩ : ∃ W, W = ((w.alloc (.cells #[.int .i64 0, .int .i64 0, .int .i64 0, .int .i64 0, .int .i64 0, .int .i64 0] 29)).alloc (.cells #[.int .i64 0, .int .i64 0, .int .i64 0, .int .i64 0, .int .i64 0, .int .i64 0] 29)) := ⟨_, rfl⟩
    rw [← hW] at HS ⊢
    clear hW
    go_loopw [12] (fun i wr => ∃ (k : Nat), k ≤ 6 ∧ i = .int .i64 k ∧ Hid (Supd w.heap.size w L wr k)) (fun i _ => 6 - (intOf i).toNat)
    case atStart => exact ⟨0, by omega, rfl, HS⟩
    case round =>
      rename_i _ wr
      obtain ⟨k, hk, rfl, HD⟩ := hrel
      clear HS
      by_cases hlt : k < 6
      · obtain ⟨ad, p, rfl, q1, hbk, x0, x1, x2, x3, x4⟩ := (H.out.keep HD.out.below).at_ (k := k) (by omega)
        have hB := HD.out.here.lt
        have g2 := HD.out.here.free k
        have hsz := HD.out.here.lt
        have c9 := HD.out.here.cell (k := k) (by omega)
        have G := Lib.hid ((HD.out.step (by omega) q1).alloc (.cells #[.string (str p.name), .int .i64 p.supply, .int .i64 p.reserve, .int .i64 p.points, .int .i64 p.group] 62))
        clear q1 hbk HD
        obtain ⟨pn, ps, pr, pp, pg⟩ := p
        simp only at *
        generalize str pn = s at *
        go_wp2
        go_roundw
        case rel => exact ⟨k + 1, by omega, by go_num, G⟩
        case measure => simp [intOf]; omega
      · obtain rfl : k = 6 := by omega
        have HE := Lib.hid (MC.supU_end (l := L) (k := 6) (.inr rfl) (by omega) (by rw [HL.out]; omega))
        obtain ⟨z0, z1, z2, z3, z4, z5, hz⟩ := six HD.out.here.2
        have hh := HD.out.here
        rw [hz] at hh HE
        obtain ⟨c0, c1, c2, c3, c4, c5⟩ := cells6 hh
        obtain ⟨r0, r1, r2, r3, r4, r5⟩ := cells6 HD.out.res
        obtain ⟨g0, g1, g2, g3, g4, g5⟩ := free6 HD.out.res
        have hsz := HD.out.res.lt
        have HBl := Lib.hid HD.out.below
        clear hz hh HD
        go_wp2
        refine bodyPost_ret (v := .agg #[.int .i64 z0, .int .i64 z1, .int .i64 z2, .int .i64 z3, .int .i64 z4, .int .i64 z5]) (by simp [results, Tryd.results15, go_sem, r0, r1, r2, r3, r4, r5]) rfl ⟨ret_agg (xs := [z0, z1, z2, z3, z4, z5]) HE.out, ?_⟩
        exact below_six HBl.out _ (by omega) _ _ _ _ _ _
set_option maxRecDepth 100000 in
set_option maxHeartbeats 2000000 in
theorem rsupply_any (A : Option Addr) (n c : Nat) (L : List Pr) (w : World) (h : Prs w A n c L) :
    Calls Tryd.prog 16 #[.slice A n c] w (Gives (aggB (MC.supB L)) w) := by
  have hn := h.few
  have hc := h.cap
  have HL := Lib.hid h.len
  have H := Lib.hid h
  have HS := Lib.hid (sup_start w L)
  clear h
  go_enter Tryd.func16, Tryd.ntmps16
  go_wp2
  obtain ⟨W, hW⟩ : ∃ W, W = ((w.alloc (.cells #[.int .i64 0, .int .i64 0, .int .i64 0, .int .i64 0, .int .i64 0, .int .i64 0] 29)).alloc (.cells #[.int .i64 0, .int .i64 0, .int .i64 0, .int .i64 0, .int .i64 0, .int .i64 0] 29)) := ⟨_, rfl⟩
  rw [← hW] at HS ⊢
  clear hW
  go_loopw [4] (fun i wr => ∃ (k : Nat), k ≤ 6 ∧ k ≤ n ∧ i = .int .i64 k ∧ Hid (Supd w.heap.size w L wr k)) (fun i _ => 6 - (intOf i).toNat)
  case atStart => exact ⟨0, by omega, by omega, rfl, HS⟩
  case round =>
    rename_i _ wr
    obtain ⟨k, hk, hkn, rfl, HD⟩ := hrel
    clear HS
    by_cases hlt : k < n
    · by_cases hl6 : k < 6
      · obtain ⟨ad, p, rfl, q1, hbk, x0, x1, x2, x3, x4⟩ := (H.out.keep HD.out.below).at_ hlt
        have g1 := HD.out.here.free k
        have hsz := HD.out.here.lt
        have c9 := HD.out.here.cell (k := k) hl6
        have G := Lib.hid (HD.out.step hl6 q1)
        clear q1 hbk x0 x2 x3 x4 HD
        go_wp2
        go_roundw
        case rel => exact ⟨k + 1, by omega, by omega, by go_num, G⟩
        case measure => simp [intOf]; omega
      · obtain rfl : k = 6 := by omega
        have HE := Lib.hid (MC.supU_end (l := L) (k := 6) (.inr rfl) (by omega) (by rw [HL.out]; omega))
        obtain ⟨z0, z1, z2, z3, z4, z5, hz⟩ := six HD.out.here.2
        have hh := HD.out.here
        rw [hz] at hh HE
        obtain ⟨c0, c1, c2, c3, c4, c5⟩ := cells6 hh
        obtain ⟨r0, r1, r2, r3, r4, r5⟩ := cells6 HD.out.res
        obtain ⟨g0, g1, g2, g3, g4, g5⟩ := free6 HD.out.res
        have hsz := HD.out.res.lt
        have HBl := Lib.hid HD.out.below
        clear hz hh HD
        go_wp2
        refine bodyPost_ret (v := .agg #[.int .i64 z0, .int .i64 z1, .int .i64 z2, .int .i64 z3, .int .i64 z4, .int .i64 z5]) (by simp [results, Tryd.results16, go_sem, r0, r1, r2, r3, r4, r5]) rfl ⟨ret_agg (xs := [z0, z1, z2, z3, z4, z5]) HE.out, ?_⟩
        exact below_six HBl.out _ (by omega) _ _ _ _ _ _
    · obtain rfl : k = n := by omega
      have HE := Lib.hid (MC.supU_end (l := L) (k := k) (.inl HL.out.symm) (by omega) (by rw [HL.out]; omega))
      obtain ⟨z0, z1, z2, z3, z4, z5, hz⟩ := six HD.out.here.2
      have hh := HD.out.here
      rw [hz] at hh HE
      obtain ⟨c0, c1, c2, c3, c4, c5⟩ := cells6 hh
      obtain ⟨r0, r1, r2, r3, r4, r5⟩ := cells6 HD.out.res
      obtain ⟨g0, g1, g2, g3, g4, g5⟩ := free6 HD.out.res
      have hsz := HD.out.res.lt
      have HBl := Lib.hid HD.out.below
      clear hz hh HD
      go_wp2
      refine bodyPost_ret (v := .agg #[.int .i64 z0, .int .i64 z1, .int .i64 z2, .int .i64 z3, .int .i64 z4, .int .i64 z5]) (by simp [results, Tryd.results16, go_sem, r0, r1, r2, r3, r4, r5]) rfl ⟨ret_agg (xs := [z0, z1, z2, z3, z4, z5]) HE.out, ?_⟩
      exact below_six HBl.out _ (by omega) _ _ _ _ _ _
end Go.Proofs.YtdlpolnnhhnecaaDoor
