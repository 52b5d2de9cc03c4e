/- UAny, UPCaps, UPAsides, joined: no claim of its own. -/
import Derived.Test.YtigfgeanofccgaaGreatDoorJUb
import Derived.Test.YtigfgeanofccgaaGreatDoorCItoa
import Derived.Deep.DeepCutAuto
import Derived.Test.YtigfgeanofccgaaGreatDoorJCc
import Derived.Test.YtigfgeanofccgaaGreatDoorJRc
namespace Go.Proofs.YtigfgeanofccgaaGreatDoor
open Go.RowKit
open MU (Su Cp As)
/-- Where the first is; -1 if there is none. -/
def idxI {α : Type} (P : α → Bool) (l : List α) : Int := match l.findIdx? P with
  | some k => (k : Int)
  | none => -1
theorem idxI_hit {α : Type} {P : α → Bool} {l : List α} {k : Nat} {x : α} (h : l[k]? = some x) (hx : P x = true) (hn : ∀ d ∈ l.take k, P d = false) : idxI P l = (k : Int) := by
  have : l.findIdx? P = some k := by
    rw [List.findIdx?_eq_some_iff_getElem]
    obtain ⟨hk, e⟩ := List.getElem?_eq_some_iff.1 h
    refine ⟨hk, by rw [e]; exact hx, fun j hj => ?_⟩
    have := hn (l[j]'(by omega)) (List.mem_of_getElem? (i := j) (by rw [List.getElem?_take_of_lt hj]; exact List.getElem?_eq_getElem _))
    rw [this]; decide
  unfold idxI; rw [this]
theorem idxI_miss {α : Type} {P : α → Bool} {l : List α} (h : ∀ d ∈ l, P d = false) : idxI P l = -1 := by
  have : l.findIdx? P = none := List.findIdx?_eq_none_iff.2 h
  unfold idxI; rw [this]
theorem idxI_any {α : Type} (P : α → Bool) (l : List α) : decide (0 ≤ idxI P l) = l.any P := by
  unfold idxI
  cases e : l.findIdx? P with
  | none =>
    have := List.findIdx?_eq_none_iff.1 e
    rw [show l.any P = false from List.any_eq_false.2 fun x hx => by rw [this x hx]; decide]
    exact decide_eq_false (by simp)
  | some k =>
    obtain ⟨hk, h1, _⟩ := List.findIdx?_eq_some_iff_getElem.1 e
    rw [show l.any P = true from List.any_eq_true.2 ⟨_, List.getElem_mem hk, h1⟩]
    exact decide_eq_true (by simp)
theorem take_more {α : Type} {P : α → Bool} {l : List α} {k : Nat} {x : α} (h : l[k]? = some x) (hn : ∀ d ∈ l.take k, P d = false) (hx : P x = false) : ∀ d ∈ l.take (k + 1), P d = false := by
  intro d hd
  rw [List.take_add_one, h] at hd
  rcases List.mem_append.1 hd with g | g
  · exact hn d g
  · rw [show d = x by simpa using g]; exact hx
def sameCap (c0 c1 : Int) (d : Cp) : Bool := decide (d.bidder = c0) && decide (d.group = c1)
set_option maxRecDepth 100000 in
theorem sameCap_any (d0 d1 d2 c0 c1 c2 : Int) (B : Nat) (w : World) (hB : w.heap[B]? = some (.cells #[.int .i64 c0, .int .i64 c1, .int .i64 c2] 66 (0, 0))) : Calls Tryz.prog 68 #[.agg #[.int .i64 d0, .int .i64 d1, .int .i64 d2], .pointer (some ⟨B, 0, none⟩)] w (Gives (.bool (sameCap c0 c1 ⟨d0, d1, d2⟩)) w) := by
  have hlt : B < w.heap.size := (Array.getElem?_eq_some_iff.1 hB).1
  have K1 := Lib.hid (heap_new w (.cells #[.int .i64 d0, .int .i64 d1, .int .i64 d2] 66))
  have HB := Lib.hid (below_new w (.cells #[.int .i64 d0, .int .i64 d1, .int .i64 d2] 66))
  have K2 := Lib.hid ((HB.out.block B hlt).trans hB)
  clear hB
  go_enter Tryz.func68, Tryz.ntmps68
  go_upto_region 1 with (fail)
  obtain ⟨X, hX⟩ : ∃ X, X = w.alloc (.cells #[.int .i64 d0, .int .i64 d1, .int .i64 d2] 66) := ⟨_, rfl⟩
  rw [← hX] at K1 K2 HB ⊢
  clear hX
  have y0 : X.cell? ⟨w.heap.size, 0, none⟩ = some (.int .i64 d0) := by rw [cell_of_row _ _ _ _ _ _ K1.out]; rfl
  have y1 : X.cell? ⟨w.heap.size, 1, none⟩ = some (.int .i64 d1) := by rw [cell_of_row _ _ _ _ _ _ K1.out]; rfl
  have z0 : X.cell? ⟨B, 0, none⟩ = some (.int .i64 c0) := by rw [cell_of_row _ _ _ _ _ _ K2.out]; rfl
  have z1 : X.cell? ⟨B, 1, none⟩ = some (.int .i64 c1) := by rw [cell_of_row _ _ _ _ _ _ K2.out]; rfl
  by_cases h0 : d0 = c0
  · have e0 : (d0 == c0) = true := beq_iff_eq.2 h0
    by_cases h1 : d1 = c1
    · have e1 : (d1 == c1) = true := beq_iff_eq.2 h1
      have G := Lib.hid (show Ending.returned (.bool true) = .returned (.bool (sameCap c0 c1 ⟨d0, d1, d2⟩)) by unfold sameCap; rw [decide_eq_true h0, decide_eq_true h1]; rfl)
      clear h0 h1
      go_wp2
      go_ret
      exact ⟨G.out, HB.out⟩
    · have e1 : (d1 == c1) = false := beq_eq_false_iff_ne.2 h1
      have G := Lib.hid (show Ending.returned (.bool false) = .returned (.bool (sameCap c0 c1 ⟨d0, d1, d2⟩)) by unfold sameCap; rw [decide_eq_false h1, Bool.and_false])
      clear h0 h1
      go_wp2
      go_ret
      exact ⟨G.out, HB.out⟩
  · have e0 : (d0 == c0) = false := beq_eq_false_iff_ne.2 h0
    have G := Lib.hid (show Ending.returned (.bool false) = .returned (.bool (sameCap c0 c1 ⟨d0, d1, d2⟩)) by unfold sameCap; rw [decide_eq_false h0, Bool.false_and])
    clear h0
    go_wp2
    go_ret
    exact ⟨G.out, HB.out⟩
set_option maxRecDepth 100000 in
set_option maxHeartbeats 2000000 in
theorem idxCap_any (c0 c1 c2 : Int) (B : Nat) (A : Option Addr) (n c : Nat) (l : List Cp) (w : World) (h : Lst cpE w A n c l) (hB : w.heap[B]? = some (.cells #[.int .i64 c0, .int .i64 c1, .int .i64 c2] 66 (0, 0))) :
    Calls Tryz.prog 91 #[.slice A n c, (.func (.func 68) #[] #[.pointer (some ⟨B, 0, none⟩)])] w (Gives (.int .i64 (idxI (sameCap c0 c1) l)) w) := by
  have hn := h.few
  have hc := h.cap
  have hlt : B < w.heap.size := (Array.getElem?_eq_some_iff.1 hB).1
  have HL := Lib.hid h.len
  have H := Lib.hid h
  have SA := Lib.hid (fun d0 d1 d2 w' (hb : Below w.heap.size w w') => sameCap_any d0 d1 d2 c0 c1 c2 B w' ((hb.block B hlt).trans hB))
  clear h hB hlt
  go_enter Tryz.func91, Tryz.ntmps91
  go_wp2
  go_loopw [8] (fun i wr => ∃ k : Nat, k ≤ n ∧ i = .int .i64 k ∧ Hid (∀ d ∈ l.take k, sameCap c0 c1 d = false) ∧ Hid (Below w.heap.size w wr)) (fun i _ => n - (intOf i).toNat)
  case atStart => exact ⟨0, Nat.zero_le _, rfl, Lib.hid (by simp), Lib.hid (Below.refl _ _)⟩
  case round =>
    rename_i _ wr
    obtain ⟨k, hk, rfl, HN, HB⟩ := hrel
    by_cases hlt : k < n
    · obtain ⟨ad, p, rfl, q1, hfi, hbk, y0, y1, y2⟩ := cp_at (H.out.keep HB.out) hlt
      have HQ := Lib.hid q1
      have CS := Lib.hid (SA.out p.bidder p.group p.units wr HB.out)
      clear q1 hfi hbk
      obtain ⟨v, hv⟩ : ∃ v, sameCap c0 c1 p = v := ⟨_, rfl⟩
      have HV := Lib.hid hv
      have CS2 : Hid (Calls Tryz.prog 68 #[.agg #[.int .i64 p.bidder, .int .i64 p.group, .int .i64 p.units], .pointer (some ⟨B, 0, none⟩)] wr (Gives (.bool v) wr)) := Lib.hid (by rw [← hv]; exact CS.out)
      clear CS hv
      obtain ⟨p0, p1, p2⟩ := p
      simp only at *
      go_wp2_with fail
      refine CS2.out.mono ?_
      rintro ev w1 ⟨rfl, hb⟩
      have B1 := Lib.hid (HB.out.trans (hb.mono HB.out.size))
      clear hb CS2 y0 y1 y2 SA HB
      cases v with
      | true =>
        have G := Lib.hid (ret_int (k := .i64) (idxI_hit HQ.out HV.out HN.out).symm)
        clear HV HQ HN
        go_wp2
        go_ret
        exact ⟨G.out, B1.out⟩
      | false =>
        have G := Lib.hid (take_more HQ.out HN.out HV.out)
        clear HV HQ HN
        go_wp2
        go_roundw
        case rel => exact ⟨k + 1, by omega, by go_num, G, B1⟩
        case measure => simp [intOf]; omega
    · obtain rfl : k = n := by omega
      have G := Lib.hid (ret_int (k := .i64) (idxI_miss (P := sameCap c0 c1) (l := l) (by have := HN.out; rwa [List.take_of_length_le (by rw [HL.out]; exact Nat.le_refl _)] at this)).symm)
      clear HN SA
      go_wp2
      go_ret
      exact ⟨G.out, HB.out⟩
set_option maxRecDepth 100000 in
theorem anyCap_any (c0 c1 c2 : Int) (B : Nat) (A : Option Addr) (n c : Nat) (l : List Cp) (w : World) (h : Lst cpE w A n c l) (hB : w.heap[B]? = some (.cells #[.int .i64 c0, .int .i64 c1, .int .i64 c2] 66 (0, 0))) :
    Calls Tryz.prog 69 #[.slice A n c, (.func (.func 68) #[] #[.pointer (some ⟨B, 0, none⟩)])] w (Gives (.bool (l.any (sameCap c0 c1))) w) := by
  have C := Lib.hid (idxCap_any c0 c1 c2 B A n c l w h hB)
  have E := Lib.hid (idxI_any (sameCap c0 c1) l)
  clear h hB
  generalize idxI (sameCap c0 c1) l = z at *
  go_enter Tryz.func69, Tryz.ntmps69
  go_wp2_with fail
  refine C.out.mono ?_
  rintro ev w1 ⟨rfl, hb⟩
  have B1 := Lib.hid hb
  clear hb C
  go_wp2
  go_ret
  exact ⟨by rw [← E.out]; rfl, B1.out⟩
def sameAside (c0 _c1 : Int) (d : As) : Bool := decide (d.product = c0)
set_option maxRecDepth 100000 in
theorem sameAside_any (d0 d1 d2 c0 c1 c2 : Int) (B : Nat) (w : World) (hB : w.heap[B]? = some (.cells #[.int .i64 c0, .int .i64 c1, .int .i64 c2] 68 (0, 0))) : Calls Tryz.prog 70 #[.agg #[.int .i64 d0, .int .i64 d1, .int .i64 d2], .pointer (some ⟨B, 0, none⟩)] w (Gives (.bool (sameAside c0 c1 ⟨d0, d1, d2⟩)) w) := by
  have hlt : B < w.heap.size := (Array.getElem?_eq_some_iff.1 hB).1
  have K1 := Lib.hid (heap_new w (.cells #[.int .i64 d0, .int .i64 d1, .int .i64 d2] 68))
  have HB := Lib.hid (below_new w (.cells #[.int .i64 d0, .int .i64 d1, .int .i64 d2] 68))
  have K2 := Lib.hid ((HB.out.block B hlt).trans hB)
  clear hB
  go_enter Tryz.func70, Tryz.ntmps70
  go_upto_region 1 with (fail)
  obtain ⟨X, hX⟩ : ∃ X, X = w.alloc (.cells #[.int .i64 d0, .int .i64 d1, .int .i64 d2] 68) := ⟨_, rfl⟩
  rw [← hX] at K1 K2 HB ⊢
  clear hX
  have y0 : X.cell? ⟨w.heap.size, 0, none⟩ = some (.int .i64 d0) := by rw [cell_of_row _ _ _ _ _ _ K1.out]; rfl
  have y1 : X.cell? ⟨w.heap.size, 1, none⟩ = some (.int .i64 d1) := by rw [cell_of_row _ _ _ _ _ _ K1.out]; rfl
  have z0 : X.cell? ⟨B, 0, none⟩ = some (.int .i64 c0) := by rw [cell_of_row _ _ _ _ _ _ K2.out]; rfl
  have z1 : X.cell? ⟨B, 1, none⟩ = some (.int .i64 c1) := by rw [cell_of_row _ _ _ _ _ _ K2.out]; rfl
  by_cases h0 : d0 = c0
  · have e0 : (d0 == c0) = true := beq_iff_eq.2 h0
    have G := Lib.hid (show Ending.returned (.bool true) = .returned (.bool (sameAside c0 c1 ⟨d0, d1, d2⟩)) by unfold sameAside; rw [decide_eq_true h0])
    clear h0
    go_wp2
    go_ret
    exact ⟨G.out, HB.out⟩
  · have e0 : (d0 == c0) = false := beq_eq_false_iff_ne.2 h0
    have G := Lib.hid (show Ending.returned (.bool false) = .returned (.bool (sameAside c0 c1 ⟨d0, d1, d2⟩)) by unfold sameAside; rw [decide_eq_false h0])
    clear h0
    go_wp2
    go_ret
    exact ⟨G.out, HB.out⟩
set_option maxRecDepth 100000 in
set_option maxHeartbeats 2000000 in
theorem idxAside_any (c0 c1 c2 : Int) (B : Nat) (A : Option Addr) (n c : Nat) (l : List As) (w : World) (h : Lst asdE w A n c l) (hB : w.heap[B]? = some (.cells #[.int .i64 c0, .int .i64 c1, .int .i64 c2] 68 (0, 0))) :
    Calls Tryz.prog 92 #[.slice A n c, (.func (.func 70) #[] #[.pointer (some ⟨B, 0, none⟩)])] w (Gives (.int .i64 (idxI (sameAside c0 c1) l)) w) := by
  have hn := h.few
  have hc := h.cap
  have hlt : B < w.heap.size := (Array.getElem?_eq_some_iff.1 hB).1
  have HL := Lib.hid h.len
  have H := Lib.hid h
  have SA := Lib.hid (fun d0 d1 d2 w' (hb : Below w.heap.size w w') => sameAside_any d0 d1 d2 c0 c1 c2 B w' ((hb.block B hlt).trans hB))
  clear h hB hlt
  go_enter Tryz.func92, Tryz.ntmps92
  go_wp2
  go_loopw [8] (fun i wr => ∃ k : Nat, k ≤ n ∧ i = .int .i64 k ∧ Hid (∀ d ∈ l.take k, sameAside c0 c1 d = false) ∧ Hid (Below w.heap.size w wr)) (fun i _ => n - (intOf i).toNat)
  case atStart => exact ⟨0, Nat.zero_le _, rfl, Lib.hid (by simp), Lib.hid (Below.refl _ _)⟩
  case round =>
    rename_i _ wr
    obtain ⟨k, hk, rfl, HN, HB⟩ := hrel
    by_cases hlt : k < n
    · obtain ⟨ad, p, rfl, q1, hfi, hbk, y0, y1, y2⟩ := asd_at (H.out.keep HB.out) hlt
      have HQ := Lib.hid q1
      have CS := Lib.hid (SA.out p.product p.cls p.units wr HB.out)
      clear q1 hfi hbk
      obtain ⟨v, hv⟩ : ∃ v, sameAside c0 c1 p = v := ⟨_, rfl⟩
      have HV := Lib.hid hv
      have CS2 : Hid (Calls Tryz.prog 70 #[.agg #[.int .i64 p.product, .int .i64 p.cls, .int .i64 p.units], .pointer (some ⟨B, 0, none⟩)] wr (Gives (.bool v) wr)) := Lib.hid (by rw [← hv]; exact CS.out)
      clear CS hv
      obtain ⟨p0, p1, p2⟩ := p
      simp only at *
      go_wp2_with fail
      refine CS2.out.mono ?_
      rintro ev w1 ⟨rfl, hb⟩
      have B1 := Lib.hid (HB.out.trans (hb.mono HB.out.size))
      clear hb CS2 y0 y1 y2 SA HB
      cases v with
      | true =>
        have G := Lib.hid (ret_int (k := .i64) (idxI_hit HQ.out HV.out HN.out).symm)
        clear HV HQ HN
        go_wp2
        go_ret
        exact ⟨G.out, B1.out⟩
      | false =>
        have G := Lib.hid (take_more HQ.out HN.out HV.out)
        clear HV HQ HN
        go_wp2
        go_roundw
        case rel => exact ⟨k + 1, by omega, by go_num, G, B1⟩
        case measure => simp [intOf]; omega
    · obtain rfl : k = n := by omega
      have G := Lib.hid (ret_int (k := .i64) (idxI_miss (P := sameAside c0 c1) (l := l) (by have := HN.out; rwa [List.take_of_length_le (by rw [HL.out]; exact Nat.le_refl _)] at this)).symm)
      clear HN SA
      go_wp2
      go_ret
      exact ⟨G.out, HB.out⟩
set_option maxRecDepth 100000 in
theorem anyAside_any (c0 c1 c2 : Int) (B : Nat) (A : Option Addr) (n c : Nat) (l : List As) (w : World) (h : Lst asdE w A n c l) (hB : w.heap[B]? = some (.cells #[.int .i64 c0, .int .i64 c1, .int .i64 c2] 68 (0, 0))) :
    Calls Tryz.prog 71 #[.slice A n c, (.func (.func 70) #[] #[.pointer (some ⟨B, 0, none⟩)])] w (Gives (.bool (l.any (sameAside c0 c1))) w) := by
  have C := Lib.hid (idxAside_any c0 c1 c2 B A n c l w h hB)
  have E := Lib.hid (idxI_any (sameAside c0 c1) l)
  clear h hB
  generalize idxI (sameAside c0 c1) l = z at *
  go_enter Tryz.func71, Tryz.ntmps71
  go_wp2_with fail
  refine C.out.mono ?_
  rintro ev w1 ⟨rfl, hb⟩
  have B1 := Lib.hid hb
  clear hb C
  go_wp2
  go_ret
  exact ⟨by rw [← E.out]; rfl, B1.out⟩
end Go.Proofs.YtigfgeanofccgaaGreatDoor
namespace Go.Proofs.YtigfgeanofccgaaGreatDoor
open Go.RowKit
open MU (Su Cp As)
theorem isIndex_any (i n : Int) (w : World) : Calls Tryz.prog 36 #[.int .i64 i, .int .i64 n] w (Same (.bool (decide (0 ≤ i) && decide (i < n))) w) := by
  by_cases h : 0 ≤ i
  · have e : decide (0 ≤ i) = true := decide_eq_true h
    rw [e, Bool.true_and]
    go_enter Tryz.func36, Tryz.ntmps36
    go_wp2
    go_ret
    exact ⟨rfl, rfl⟩
  · have e : decide (0 ≤ i) = false := decide_eq_false h
    rw [e, Bool.false_and]
    go_enter Tryz.func36, Tryz.ntmps36
    go_wp2
    go_ret
    exact ⟨rfl, rfl⟩
theorem isIndex_yes {i n : Int} (h : 0 ≤ i ∧ i < n) (w : World) : Calls Tryz.prog 36 #[.int .i64 i, .int .i64 n] w (Same (.bool true) w) := by
  have := isIndex_any i n w
  rwa [decide_eq_true h.1, decide_eq_true h.2] at this
theorem isIndex_no {i n : Int} (h : i < 0 ∨ n ≤ i) (w : World) : Calls Tryz.prog 36 #[.int .i64 i, .int .i64 n] w (Same (.bool false) w) := by
  have := isIndex_any i n w
  rcases h with h | h
  · rwa [decide_eq_false (by omega), Bool.false_and] at this
  · rwa [show decide (i < n) = false from decide_eq_false (by omega), Bool.and_false] at this
set_option maxRecDepth 100000 in
set_option maxHeartbeats 8000000 in
theorem checkCaps_any (A1 : Option Addr) (n1 c1 : Nat) (A2 : Option Addr) (n2 c2 : Nat) (A3 : Option Addr) (n3 c3 : Nat) (A4 : Option Addr) (n4 c4 : Nat) (s : Su) (w : World) (h : SuAt w A1 n1 c1 A2 n2 c2 A3 n3 c3 A4 n4 c4 s) :
    Calls Tryz.prog 45 #[.agg #[.slice A1 n1 c1, .slice A2 n2 c2, .slice A3 n3 c3, .slice A4 n4 c4]] w (Gives (.int .i64 (MU.capsE s)) w) := by
  have hn2 := h.bs.few
  have hn3 := h.cs.few
  have hc3 := h.cs.cap
  have HL2 := Lib.hid h.bs.len
  have HL3 := Lib.hid h.cs.len
  have H := Lib.hid h
  clear h
  have T0 := Lib.hid (TB.new w 27 (.slice A1 n1 c1) (.slice A2 n2 c2) (.slice A3 n3 c3) (.slice A4 n4 c4))
  have B0 := Lib.hid (below_new w (.cells #[.slice A1 n1 c1, .slice A2 n2 c2, .slice A3 n3 c3, .slice A4 n4 c4] 27))
  go_enter Tryz.func45, Tryz.ntmps45
  go_upto_region 1 with (fail)
  generalize w.alloc (.cells #[.slice A1 n1 c1, .slice A2 n2 c2, .slice A3 n3 c3, .slice A4 n4 c4] 27) = W0 at *
  obtain ⟨x0, x1, x2, x3⟩ := T0.out.cells
  by_cases h16 : 16 < n3
  · have d16 : decide (16 < (n3 : Int)) = true := decide_eq_true (by omega)
    have G := Lib.hid (ret_int (k := .i64) (show 3 = MU.capsE s by rw [MU.capsE_long (by rw [HL3.out]; exact h16)]))
    go_wp2
    go_ret
    exact ⟨G.out, B0.out⟩
  have d16 : decide (16 < (n3 : Int)) = false := decide_eq_false (by omega)
  have HC := Lib.hid (MU.capsE_mid (s := s) (by rw [HL3.out]; exact h16))
  have HST := Lib.hid (fun (k : Nat) (er : Int) (hu : NoE (MU.capF s.bs.length s.cs) k) (hk : k < n3) (he : MU.capF s.bs.length s.cs k = er) (h0 : er ≠ 0) =>
    ret_int (k := .i64) (show er = MU.capsE s by
      have e := hu.stop (by rw [he]; exact h0) (show k < s.cs.length by rw [HL3.out]; exact hk)
      rw [HC.out, e, he]))
  go_wp2
  go_loopw [13] (fun i wr => ∃ k : Nat, k ≤ n3 ∧ i = .int .i64 k ∧ Hid (NoE (MU.capF s.bs.length s.cs) k) ∧ Hid (Below W0.heap.size W0 wr)) (fun i _ => n3 - (intOf i).toNat)
  case atStart => exact ⟨0, Nat.zero_le _, rfl, Lib.hid (NoE.start _), Lib.hid (Below.refl _ _)⟩
  case round =>
    obtain ⟨k, hk, rfl, HU, HB⟩ := hrel
    have T3 := Lib.hid (T0.out.keep HB.out)
    clear x0 x1 x2 x3
    obtain ⟨x0, x1, x2, x3⟩ := T3.out.cells
    by_cases hlt : k < n3
    · obtain ⟨ad, p, rfl, q1, hfi, hbk, y0, y1, y2⟩ := cp_at (H.out.cs.keep (B0.out.trans (HB.out.mono B0.out.size))) hlt
      have HQ := Lib.hid q1
      have HF := Lib.hid (MU.capF_at (nb := s.bs.length) q1)
      rw [HL2.out] at HF
      clear q1 hfi hbk
      have B4 := Lib.hid (HB.out.trans ((below_new wr (.cells #[.int .i64 p.bidder, .int .i64 p.group, .int .i64 p.units] 66)).mono HB.out.size))
      have BF := Lib.hid (B0.out.trans (B4.out.mono B0.out.size))
      have K1 := Lib.hid (heap_new wr (.cells #[.int .i64 p.bidder, .int .i64 p.group, .int .i64 p.units] 66))
      have HST2 := Lib.hid (fun er he h0 => HST.out k er HU.out hlt he h0)
      rw [HL2.out] at HST2
      obtain ⟨pb, pg, pu⟩ := p
      simp only at *
      go_upto_region 6 with (fail)
      obtain ⟨X, hX⟩ : ∃ X, X = wr.alloc (.cells #[.int .i64 pb, .int .i64 pg, .int .i64 pu] 66) := ⟨_, rfl⟩
      rw [← hX] at B4 BF K1 ⊢
      clear hX x0 x1 x2 x3 y0 y1 y2 T3 HST HC
      have AN := Lib.hid (anyCap_any pb pg pu wr.heap.size (some ad) k c3 (s.cs.take k) X ((H.out.cs.keep BF.out).take (by omega)) K1.out)
      have T4 := Lib.hid (T0.out.keep B4.out)
      obtain ⟨x0, x1, x2, x3⟩ := T4.out.cells
      have y0 : X.cell? ⟨wr.heap.size, 0, none⟩ = some (.int .i64 pb) := by rw [cell_of_row _ _ _ _ _ _ K1.out]; rfl
      have y1 : X.cell? ⟨wr.heap.size, 1, none⟩ = some (.int .i64 pg) := by rw [cell_of_row _ _ _ _ _ _ K1.out]; rfl
      have y2 : X.cell? ⟨wr.heap.size, 2, none⟩ = some (.int .i64 pu) := by rw [cell_of_row _ _ _ _ _ _ K1.out]; rfl
      by_cases hno : pb < -1 ∨ (n2 : Int) ≤ pb
      · have G := Lib.hid (HST2.out 6 (by rw [HF.out, MU.capE, if_pos hno]) (by decide))
        have e1 : (pb != -1) = true := bne_iff_ne.2 (by omega)
        have IX := Lib.hid (isIndex_no (i := pb) (n := (n2 : Int)) (by omega) X)
        clear hno HF HU HST2 AN
        go_wp2_with fail
        refine IX.out.mono ?_
        rintro ev w1 ⟨rfl, rfl⟩
        go_wp2
        go_ret
        exact ⟨G.out, BF.out⟩
      by_cases hra : (0 ≤ pg ∧ pg ≤ 4) ∧ 0 ≤ pu ∧ pu ≤ 24
      · have HE : Hid (MU.capF n2 s.cs k = if ((s.cs.take k).any (sameCap pb pg)) = true then 7 else 0) := Lib.hid (by
          rw [HF.out, MU.capE, if_neg hno, if_neg (fun g => g hra)]; rfl)
        have d3 : decide (pg < 0) = false := decide_eq_false (by omega)
        have d4 : decide (4 < pg) = false := decide_eq_false (by omega)
        have d5 : decide (pu < 0) = false := decide_eq_false (by omega)
        have d6 : decide (24 < pu) = false := decide_eq_false (by omega)
        have hkc : k ≤ c3 := by omega
        clear hra HF
        generalize hbo : (s.cs.take k).any (sameCap pb pg) = bo at *
        clear hbo
        by_cases hm1 : pb = -1
        · have e1 : (pb != -1) = false := by rw [hm1]; rfl
          clear hm1 hno
          go_wp2_with fail
          refine AN.out.mono ?_
          rintro ev w1 ⟨rfl, hb⟩
          have B5 := Lib.hid (BF.out.trans (hb.mono BF.out.size))
          have B6 := Lib.hid (B4.out.trans (hb.mono B4.out.size))
          clear hb AN x0 x1 x2 x3 y0 y1 y2
          cases bo with
          | true =>
            have G := Lib.hid (HST2.out 7 HE.out (by decide))
            clear HST2
            go_wp2
            go_ret
            exact ⟨G.out, B5.out⟩
          | false =>
            have G := Lib.hid (HU.out.step (by rw [HL2.out]; exact HE.out))
            clear HST2
            go_wp2
            go_roundw
            case rel => exact ⟨k + 1, by omega, by go_num, G, B6⟩
            case measure => simp [intOf]; omega
        · have e1 : (pb != -1) = true := bne_iff_ne.2 hm1
          have IX := Lib.hid (isIndex_yes (i := pb) (n := (n2 : Int)) (by omega) X)
          clear hm1 hno
          go_wp2_with fail
          refine IX.out.mono ?_
          rintro ev w1 ⟨rfl, rfl⟩
          go_wp2_with fail
          refine AN.out.mono ?_
          rintro ev w1 ⟨rfl, hb⟩
          have B5 := Lib.hid (BF.out.trans (hb.mono BF.out.size))
          have B6 := Lib.hid (B4.out.trans (hb.mono B4.out.size))
          clear hb AN x0 x1 x2 x3 y0 y1 y2
          cases bo with
          | true =>
            have G := Lib.hid (HST2.out 7 HE.out (by decide))
            clear HST2
            go_wp2
            go_ret
            exact ⟨G.out, B5.out⟩
          | false =>
            have G := Lib.hid (HU.out.step (by rw [HL2.out]; exact HE.out))
            clear HST2
            go_wp2
            go_roundw
            case rel => exact ⟨k + 1, by omega, by go_num, G, B6⟩
            case measure => simp [intOf]; omega
      · have G := Lib.hid (HST2.out 4 (by rw [HF.out, MU.capE, if_neg hno, if_pos hra]) (by decide))
        have HR := Lib.hid (cap_bad hra)
        have IX := Lib.hid (fun (h : pb ≠ -1) => isIndex_yes (i := pb) (n := (n2 : Int)) (by omega) X)
        clear hra HF HU HST2 AN hno
        by_cases hm1 : pb = -1
        · have e1 : (pb != -1) = false := by rw [hm1]; rfl
          clear hm1
          rcases HR.out with g | ⟨g1, g⟩ | ⟨g1, g2, g⟩ | ⟨g1, g2, g3, g⟩
          · have d3 : decide (pg < 0) = true := decide_eq_true g
            go_wp2
            go_ret
            exact ⟨G.out, BF.out⟩
          · have d3 : decide (pg < 0) = false := decide_eq_false (by omega)
            have d4 : decide (4 < pg) = true := decide_eq_true g
            go_wp2
            go_ret
            exact ⟨G.out, BF.out⟩
          · have d3 : decide (pg < 0) = false := decide_eq_false (by omega)
            have d4 : decide (4 < pg) = false := decide_eq_false (by omega)
            have d5 : decide (pu < 0) = true := decide_eq_true g
            go_wp2
            go_ret
            exact ⟨G.out, BF.out⟩
          · have d3 : decide (pg < 0) = false := decide_eq_false (by omega)
            have d4 : decide (4 < pg) = false := decide_eq_false (by omega)
            have d5 : decide (pu < 0) = false := decide_eq_false (by omega)
            have d6 : decide (24 < pu) = true := decide_eq_true g
            go_wp2
            go_ret
            exact ⟨G.out, BF.out⟩
        · have e1 : (pb != -1) = true := bne_iff_ne.2 hm1
          have IX2 := Lib.hid (IX.out hm1)
          clear hm1 IX
          go_wp2_with fail
          refine IX2.out.mono ?_
          rintro ev w1 ⟨rfl, rfl⟩
          rcases HR.out with g | ⟨g1, g⟩ | ⟨g1, g2, g⟩ | ⟨g1, g2, g3, g⟩
          · have d3 : decide (pg < 0) = true := decide_eq_true g
            go_wp2
            go_ret
            exact ⟨G.out, BF.out⟩
          · have d3 : decide (pg < 0) = false := decide_eq_false (by omega)
            have d4 : decide (4 < pg) = true := decide_eq_true g
            go_wp2
            go_ret
            exact ⟨G.out, BF.out⟩
          · have d3 : decide (pg < 0) = false := decide_eq_false (by omega)
            have d4 : decide (4 < pg) = false := decide_eq_false (by omega)
            have d5 : decide (pu < 0) = true := decide_eq_true g
            go_wp2
            go_ret
            exact ⟨G.out, BF.out⟩
          · have d3 : decide (pg < 0) = false := decide_eq_false (by omega)
            have d4 : decide (4 < pg) = false := decide_eq_false (by omega)
            have d5 : decide (pu < 0) = false := decide_eq_false (by omega)
            have d6 : decide (24 < pu) = true := decide_eq_true g
            go_wp2
            go_ret
            exact ⟨G.out, BF.out⟩
    · have G := Lib.hid (ret_int (k := .i64) (show 0 = MU.capsE s by rw [HC.out, HU.out.fin (by rw [HL3.out]; omega)]))
      have BF := Lib.hid (B0.out.trans (HB.out.mono B0.out.size))
      clear HST HC HU
      go_wp2
      go_ret
      exact ⟨G.out, BF.out⟩
end Go.Proofs.YtigfgeanofccgaaGreatDoor
namespace Go.Proofs.YtigfgeanofccgaaGreatDoor
open Go.RowKit
open MU (Su Cp As)
set_option maxRecDepth 100000 in
set_option maxHeartbeats 8000000 in
theorem checkAsides_any (A1 : Option Addr) (n1 c1 : Nat) (A2 : Option Addr) (n2 c2 : Nat) (A3 : Option Addr) (n3 c3 : Nat) (A4 : Option Addr) (n4 c4 : Nat) (s : Su) (w : World) (h : SuAt w A1 n1 c1 A2 n2 c2 A3 n3 c3 A4 n4 c4 s) :
    Calls Tryz.prog 46 #[.agg #[.slice A1 n1 c1, .slice A2 n2 c2, .slice A3 n3 c3, .slice A4 n4 c4]] w (Gives (.int .i64 (MU.asidesE s)) w) := by
  have hn1 := h.ps.few
  have hc1 := h.ps.cap
  have hn3 := h.as_.few
  have hc3 := h.as_.cap
  have HL1 := Lib.hid h.ps.len
  have HL3 := Lib.hid h.as_.len
  have H := Lib.hid h
  clear h
  have T0 := Lib.hid (TB.new w 27 (.slice A1 n1 c1) (.slice A2 n2 c2) (.slice A3 n3 c3) (.slice A4 n4 c4))
  have B0 := Lib.hid (below_new w (.cells #[.slice A1 n1 c1, .slice A2 n2 c2, .slice A3 n3 c3, .slice A4 n4 c4] 27))
  go_enter Tryz.func46, Tryz.ntmps46
  go_upto_region 1 with (fail)
  generalize w.alloc (.cells #[.slice A1 n1 c1, .slice A2 n2 c2, .slice A3 n3 c3, .slice A4 n4 c4] 27) = W0 at *
  obtain ⟨x0, x1, x2, x3⟩ := T0.out.cells
  by_cases h16 : 6 < n4
  · have d16 : decide (6 < (n4 : Int)) = true := decide_eq_true (by omega)
    have G := Lib.hid (ret_int (k := .i64) (show 3 = MU.asidesE s by rw [MU.asidesE_long (by rw [HL3.out]; exact h16)]))
    go_wp2
    go_ret
    exact ⟨G.out, B0.out⟩
  have d16 : decide (6 < (n4 : Int)) = false := decide_eq_false (by omega)
  have HC := Lib.hid (MU.asidesE_mid (s := s) (by rw [HL3.out]; exact h16))
  have HST := Lib.hid (fun (k : Nat) (er : Int) (hu : NoE (MU.asF s.ps s.as_) k) (hk : k < n4) (he : MU.asF s.ps s.as_ k = er) (h0 : er ≠ 0) =>
    ret_int (k := .i64) (show er = MU.asidesE s by
      have e := hu.stop (by rw [he]; exact h0) (show k < s.as_.length by rw [HL3.out]; exact hk)
      rw [HC.out, e, he]))
  go_wp2
  go_loopw [13] (fun i wr => ∃ k : Nat, k ≤ n4 ∧ i = .int .i64 k ∧ Hid (NoE (MU.asF s.ps s.as_) k) ∧ Hid (Below W0.heap.size W0 wr)) (fun i _ => n4 - (intOf i).toNat)
  case atStart => exact ⟨0, Nat.zero_le _, rfl, Lib.hid (NoE.start _), Lib.hid (Below.refl _ _)⟩
  case round =>
    obtain ⟨k, hk, rfl, HU, HB⟩ := hrel
    have T3 := Lib.hid (T0.out.keep HB.out)
    clear x0 x1 x2 x3
    obtain ⟨x0, x1, x2, x3⟩ := T3.out.cells
    by_cases hlt : k < n4
    · obtain ⟨ad, p, rfl, q1, hfi, hbk, y0, y1, y2⟩ := asd_at (H.out.as_.keep (B0.out.trans (HB.out.mono B0.out.size))) hlt
      have HQ := Lib.hid q1
      have HF := Lib.hid (MU.asF_at (ps := s.ps) q1)
      clear q1 hfi hbk
      have B4 := Lib.hid (HB.out.trans ((below_new wr (.cells #[.int .i64 p.product, .int .i64 p.cls, .int .i64 p.units] 68)).mono HB.out.size))
      have BF := Lib.hid (B0.out.trans (B4.out.mono B0.out.size))
      have K1 := Lib.hid (heap_new wr (.cells #[.int .i64 p.product, .int .i64 p.cls, .int .i64 p.units] 68))
      have HST2 := Lib.hid (fun er he h0 => HST.out k er HU.out hlt he h0)
      obtain ⟨pb, pg, pu⟩ := p
      simp only at *
      go_upto_region 6 with (fail)
      obtain ⟨X, hX⟩ : ∃ X, X = wr.alloc (.cells #[.int .i64 pb, .int .i64 pg, .int .i64 pu] 68) := ⟨_, rfl⟩
      rw [← hX] at B4 BF K1 ⊢
      clear hX x0 x1 x2 x3 y0 y1 y2 T3 HST HC
      have AN := Lib.hid (fun W (hb : Below X.heap.size X W) => anyAside_any pb pg pu wr.heap.size (some ad) k c4 (s.as_.take k) W ((H.out.as_.keep (BF.out.trans (hb.mono BF.out.size))).take (by omega)) ((hb.block _ (Array.getElem?_eq_some_iff.1 K1.out).1).trans K1.out))
      have T4 := Lib.hid (T0.out.keep B4.out)
      obtain ⟨x0, x1, x2, x3⟩ := T4.out.cells
      have y0 : X.cell? ⟨wr.heap.size, 0, none⟩ = some (.int .i64 pb) := by rw [cell_of_row _ _ _ _ _ _ K1.out]; rfl
      have y1 : X.cell? ⟨wr.heap.size, 1, none⟩ = some (.int .i64 pg) := by rw [cell_of_row _ _ _ _ _ _ K1.out]; rfl
      have y2 : X.cell? ⟨wr.heap.size, 2, none⟩ = some (.int .i64 pu) := by rw [cell_of_row _ _ _ _ _ _ K1.out]; rfl
      by_cases hno : pb < 0 ∨ (n1 : Int) ≤ pb
      · have G := Lib.hid (HST2.out 6 (by rw [HF.out, MU.asE, if_pos (by rw [HL1.out]; exact hno)]) (by decide))
        have IX := Lib.hid (isIndex_no (i := pb) (n := (n1 : Int)) hno X)
        clear hno HF HU HST2 AN
        go_wp2_with fail
        refine IX.out.mono ?_
        rintro ev w1 ⟨rfl, rfl⟩
        go_wp2
        go_ret
        exact ⟨G.out, BF.out⟩
      obtain ⟨P, rfl⟩ := Int.eq_ofNat_of_zero_le (show 0 ≤ pb by omega)
      have hP : P < n1 := by omega
      have HF2 : Hid (MU.asF s.ps s.as_ k = if ¬ ((1 ≤ pg ∧ pg ≤ 4) ∧ 1 ≤ pu ∧ pu ≤ MC.of (·.supply) s.ps P) then 4 else if ((s.as_.take k).any (sameAside (P : Int) pg)) = true then 7 else 0) := Lib.hid (by
        rw [HF.out, MU.asE, if_neg (by rw [HL1.out]; exact hno), Int.toNat_natCast]; rfl)
      have IX := Lib.hid (isIndex_yes (i := (P : Int)) (n := (n1 : Int)) (by omega) X)
      obtain ⟨ap, q, rfl, q1, hbk, z0, z1, z2, z3, z4⟩ := (H.out.ps.keep BF.out).at_ hP
      have HS := Lib.hid (MC.of_at (f := (·.supply)) q1)
      clear q1 hbk HF hno z0 z2 z3 z4
      obtain ⟨qn, qs, qr, qp, qg⟩ := q
      simp only at *
      rw [HS.out] at HF2
      clear HS
      go_wp2_with fail
      refine IX.out.mono ?_
      rintro ev w1 ⟨rfl, rfl⟩
      clear IX
      by_cases g1 : pg < 1
      · have G := Lib.hid (HST2.out 4 (by rw [HF2.out, if_pos (by omega)]) (by decide))
        have d3 : decide (pg < 1) = true := decide_eq_true g1
        clear AN HST2 HF2
        go_wp2
        go_ret
        exact ⟨G.out, BF.out⟩
      have d3 : decide (pg < 1) = false := decide_eq_false g1
      by_cases g2 : 4 < pg
      · have G := Lib.hid (HST2.out 4 (by rw [HF2.out, if_pos (by omega)]) (by decide))
        have d4 : decide (4 < pg) = true := decide_eq_true g2
        clear AN HST2 HF2
        go_wp2
        go_ret
        exact ⟨G.out, BF.out⟩
      have d4 : decide (4 < pg) = false := decide_eq_false g2
      have hP' : (P : Int) < (n1 : Int) := by omega
      by_cases g3 : pu < 1
      · have G := Lib.hid (HST2.out 4 (by rw [HF2.out, if_pos (by omega)]) (by decide))
        have d5 : decide (pu < 1) = true := decide_eq_true g3
        clear AN HST2 HF2
        go_wp2
        go_quiet (fail)
        go_wp2
        go_ret
        exact ⟨G.out, below_drewN BF.out _⟩
      have d5 : decide (pu < 1) = false := decide_eq_false g3
      by_cases g4 : qs < pu
      · have G := Lib.hid (HST2.out 4 (by rw [HF2.out, if_pos (by omega)]) (by decide))
        have d6 : decide (qs < pu) = true := decide_eq_true g4
        clear AN HST2 HF2
        go_wp2
        go_quiet (fail)
        go_wp2
        go_ret
        exact ⟨G.out, below_drewN BF.out _⟩
      have d6 : decide (qs < pu) = false := decide_eq_false g4
      have HE : Hid (MU.asF s.ps s.as_ k = if ((s.as_.take k).any (sameAside (P : Int) pg)) = true then 7 else 0) := Lib.hid (by rw [HF2.out, if_neg (by omega)])
      have hkc : k ≤ c4 := by omega
      clear HF2 g1 g2 g3 g4
      generalize hbo : (s.as_.take k).any (sameAside (P : Int) pg) = bo at *
      clear hbo
      go_wp2
      go_quiet (fail)
      go_wp2_with fail
      refine (AN.out _ (below_drewN (Below.refl _ _) _)).mono ?_
      rintro ev w2 ⟨rfl, hb⟩
      have hb' := (below_drewN (Below.refl w1.heap.size w1) _).trans (hb.mono (below_drewN (Below.refl w1.heap.size w1) _).size)
      have B5 := Lib.hid (BF.out.trans (hb'.mono BF.out.size))
      have B6 := Lib.hid (B4.out.trans (hb'.mono B4.out.size))
      clear hb hb' AN x0 x1 x2 x3 y0 y1 y2 z1
      cases bo with
      | true =>
        have G := Lib.hid (HST2.out 7 HE.out (by decide))
        clear HST2
        go_wp2
        go_ret
        exact ⟨G.out, B5.out⟩
      | false =>
        have G := Lib.hid (HU.out.step HE.out)
        clear HST2
        go_wp2
        go_roundw
        case rel => exact ⟨k + 1, by omega, by go_num, G, B6⟩
        case measure => simp [intOf]; omega
    · have G := Lib.hid (ret_int (k := .i64) (show 0 = MU.asidesE s by rw [HC.out, HU.out.fin (by rw [HL3.out]; omega)]))
      have BF := Lib.hid (B0.out.trans (HB.out.mono B0.out.size))
      clear HST HC HU
      go_wp2
      go_ret
      exact ⟨G.out, BF.out⟩
set_option maxRecDepth 100000 in
set_option maxHeartbeats 2000000 in
theorem pcheck_any (A1 : Option Addr) (n1 c1 : Nat) (A2 : Option Addr) (n2 c2 : Nat) (A3 : Option Addr) (n3 c3 : Nat) (A4 : Option Addr) (n4 c4 : Nat) (s : Su) (w : World) (h : SuAt w A1 n1 c1 A2 n2 c2 A3 n3 c3 A4 n4 c4 s) :
    Calls Tryz.prog 19 #[.agg #[.slice A1 n1 c1, .slice A2 n2 c2, .slice A3 n3 c3, .slice A4 n4 c4]] w (Gives (.int .i64 (MU.chkS s)) w) := by
  have T0 := Lib.hid (TB.new w 27 (.slice A1 n1 c1) (.slice A2 n2 c2) (.slice A3 n3 c3) (.slice A4 n4 c4))
  have B0 := Lib.hid (below_new w (.cells #[.slice A1 n1 c1, .slice A2 n2 c2, .slice A3 n3 c3, .slice A4 n4 c4] 27))
  have P1 := Lib.hid (fun w' (hb : Below w.heap.size w w') => check_any A1 n1 c1 s.ps w' (h.ps.keep hb))
  have P2 := Lib.hid (fun w' (hb : Below w.heap.size w w') => check9_any A2 n2 c2 s.bs w' (h.bs.keep hb))
  have P3 := Lib.hid (fun w' (hb : Below w.heap.size w w') => checkCaps_any A1 n1 c1 A2 n2 c2 A3 n3 c3 A4 n4 c4 s w' (h.keep hb))
  have P4 := Lib.hid (fun w' (hb : Below w.heap.size w w') => checkAsides_any A1 n1 c1 A2 n2 c2 A3 n3 c3 A4 n4 c4 s w' (h.keep hb))
  clear h
  obtain ⟨r1, hr1⟩ : ∃ r, MC.chkL s.ps = r := ⟨_, rfl⟩
  obtain ⟨r2, hr2⟩ : ∃ r, MR.chkL s.bs = r := ⟨_, rfl⟩
  obtain ⟨r3, hr3⟩ : ∃ r, MU.capsE s = r := ⟨_, rfl⟩
  obtain ⟨r4, hr4⟩ : ∃ r, MU.asidesE s = r := ⟨_, rfl⟩
  have HR : Hid (MU.chkS s = if r1 ≠ 0 then r1 else if r2 ≠ 0 then r2 else if r3 ≠ 0 then r3 else r4) := Lib.hid (by
    unfold MU.chkS; rw [hr1, hr2, hr3, hr4])
  rw [hr1] at P1
  rw [hr2] at P2
  rw [hr3] at P3
  rw [hr4] at P4
  obtain ⟨z, hz⟩ : ∃ z, MU.chkS s = z := ⟨_, rfl⟩
  rw [hz] at HR ⊢
  clear hr1 hr2 hr3 hr4 hz
  go_enter Tryz.func19, Tryz.ntmps19
  go_upto_region 1 with (fail)
  generalize w.alloc (.cells #[.slice A1 n1 c1, .slice A2 n2 c2, .slice A3 n3 c3, .slice A4 n4 c4] 27) = W0 at *
  obtain ⟨x0, x1, x2, x3⟩ := T0.out.cells
  go_wp2_with fail
  refine (P1.out _ B0.out).mono ?_
  rintro ev w1 ⟨rfl, hb⟩
  have B1 := Lib.hid (B0.out.trans (hb.mono B0.out.size))
  have T1 := Lib.hid (T0.out.keep hb)
  clear hb P1 B0 T0 x0 x1 x2 x3
  by_cases h1 : r1 = 0
  · subst h1
    obtain ⟨x0, x1, x2, x3⟩ := T1.out.cells
    go_wp2_with fail
    refine (P2.out _ B1.out).mono ?_
    rintro ev w2 ⟨rfl, hb⟩
    have B2 := Lib.hid (B1.out.trans (hb.mono B1.out.size))
    have T2 := Lib.hid (T1.out.keep hb)
    clear hb P2 B1 T1 x0 x1 x2 x3
    by_cases h2 : r2 = 0
    · subst h2
      obtain ⟨x0, x1, x2, x3⟩ := T2.out.cells
      go_wp2_with fail
      refine (P3.out _ B2.out).mono ?_
      rintro ev w3 ⟨rfl, hb⟩
      have B3 := Lib.hid (B2.out.trans (hb.mono B2.out.size))
      have T3 := Lib.hid (T2.out.keep hb)
      clear hb P3 B2 T2 x0 x1 x2 x3
      by_cases h3 : r3 = 0
      · subst h3
        obtain ⟨x0, x1, x2, x3⟩ := T3.out.cells
        go_wp2_with fail
        refine (P4.out _ B3.out).mono ?_
        rintro ev w4 ⟨rfl, hb⟩
        have B4 := Lib.hid (B3.out.trans (hb.mono B3.out.size))
        clear hb P4 B3 T3 x0 x1 x2 x3
        go_wp2
        go_ret
        exact ⟨ret_int (by rw [HR.out]; simp), B4.out⟩
      · have e3 : (r3 != 0) = true := bne_iff_ne.2 h3
        have G := Lib.hid (ret_int (k := .i64) (show r3 = z by rw [HR.out]; rw [if_neg (by simp), if_neg (by simp), if_pos h3]))
        go_wp2
        go_ret
        exact ⟨G.out, B3.out⟩
    · have e2 : (r2 != 0) = true := bne_iff_ne.2 h2
      have G := Lib.hid (ret_int (k := .i64) (show r2 = z by rw [HR.out]; rw [if_neg (by simp), if_pos h2]))
      go_wp2
      go_ret
      exact ⟨G.out, B2.out⟩
  · have e1 : (r1 != 0) = true := bne_iff_ne.2 h1
    have G := Lib.hid (ret_int (k := .i64) (show r1 = z by rw [HR.out]; rw [if_pos h1]))
    go_wp2
    go_ret
    exact ⟨G.out, B1.out⟩
end Go.Proofs.YtigfgeanofccgaaGreatDoor
