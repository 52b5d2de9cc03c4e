/- UFld, UFld2, UFld3, UFld4, joined: no claim of its own. -/
import Derived.Test.YtigfgeanofccgaaGreatDoorJSp
import Derived.Test.YtigfgeanofccgaaGreatDoorJLw
import Derived.Test.YtigfgeanofccgaaGreatDoorJRc
import Derived.Test.YtigfgeanofccgaaGreatDoorJCc
import Derived.Laws.RangeAny
namespace Go.Proofs.YtigfgeanofccgaaGreatDoor
open Go.RowKit
theorem g_set (w : World) (g o : Nat) (u : Value) : w.grownBy (w.setCell ⟨g, o, none⟩ u) (some g) :=
  ⟨rfl, rfl, rfl, by simp [World.setCell], fun k _ hne => by simp [World.setCell, Array.getElem?_modify]; intro h; exact absurd (by rw [h]) hne⟩
theorem g_of {a b : World} (h : Below a.heap.size a b) (r : Option Nat) : a.grownBy b r := ⟨h.os, h.tape, h.output, h.size, fun k hk _ => h.block k hk⟩
theorem g_below {a b : World} {g B : Nat} (h : a.grownBy b (some g)) (hg : B ≤ g) (hB : B ≤ a.heap.size) : Below B a b :=
  ⟨h.os, h.tape, h.output, h.size, fun k hk => h.block k (by omega) (fun e => by injection e with e; omega)⟩
/-- Words below block N. -/
structure Wd (w : World) (N : Nat) (A : Option Addr) (n c : Nat) (ws : List (List UInt8)) : Prop where
  reads : Reads w N 1 A n (strE.all ws)
  len : ws.length = n
  cap : n ≤ c
  few : n ≤ 9223372036854775807
  fine : strE.Fine ws
section
variable {w w' : World} {N n c : Nat} {A : Option Addr} {ws : List (List UInt8)} {x : List UInt8}
theorem Wd.below (h : Wd w N A n c ws) (hb : Below N w w') : Wd w' N A n c ws := ⟨h.reads.below hb, h.len, h.cap, h.few, h.fine⟩
theorem Wd.lst (h : Wd w N A n c ws) (hN : N ≤ w.heap.size) : Lst strE w A n c ws := ⟨h.reads.more hN, h.len, h.cap, h.few, h.fine⟩
theorem Wd.of (h : Lst strE w A n c ws) : Wd w w.heap.size A n c ws := ⟨h.reads, h.len, h.cap, h.few, h.fine⟩
theorem Wd.tail (h : Wd w N A n c (x :: ws)) : Wd w N (if c = 1 then A else A.map (·.add 1)) (n - 1) (c - 1) ws := by
  have hn : 1 ≤ n := by rw [← h.len]; simp
  have hr := h.reads.cut (k := 1) hn h.cap
  have e : (strE.all (x :: ws)).drop (1 * 1) = strE.all ws := by rw [strE_all, strE_all]; rfl
  rw [e] at hr
  exact ⟨hr, by rw [← h.len]; simp, by have := h.cap; omega, by have := h.few; omega, fun y hy => h.fine y (by simp [hy])⟩
theorem Wd.head (h : Wd w N A n c (x :: ws)) : ∃ ad, A = some ad ∧ ad.block < N ∧ w.cell? ad = some (.string (str x)) ∧ 1 ≤ n ∧ x.length ≤ 9223372036854775807 := by
  have hn : 1 ≤ n := by rw [← h.len]; simp
  obtain ⟨ad, e, hb, hc⟩ := h.reads.2 hn
  refine ⟨ad, e, hb, ?_, hn, h.fine x (by simp)⟩
  have := hc 0 (.string (str x)) (by rw [strE_all]; rfl)
  rwa [show ad.add 0 = ad by unfold Addr.add; simp] at this
end
/-- The words that have not been read, the first error. -/
structure FB (w : World) (g : Nat) (A : Option Addr) (n c : Nat) (ws : List (List UInt8)) (e : Int) : Prop where
  blk : w.heap[g]? = some (.cells #[.slice A n c, .int .i64 e] 92 (0, 0))
  wd : Wd w g A n c ws
section
variable {w w' : World} {g n c n' c' : Nat} {A A' : Option Addr} {ws ws' : List (List UInt8)} {x : List UInt8} {e : Int}
theorem FB.lt (h : FB w g A n c ws e) : g < w.heap.size := (Array.getElem?_eq_some_iff.1 h.blk).1
theorem FB.c0 (h : FB w g A n c ws e) : w.cell? ⟨g, 0, none⟩ = some (.slice A n c) := by rw [cell_of_row _ _ _ _ _ _ h.blk]; rfl
theorem FB.c1 (h : FB w g A n c ws e) : w.cell? ⟨g, 1, none⟩ = some (.int .i64 e) := by rw [cell_of_row _ _ _ _ _ _ h.blk]; rfl
theorem FB.f (h : FB w g A n c ws e) (k : Nat) : w.frozen? ⟨g, k, none⟩ = false := frozen_of_row _ _ _ _ _ h.blk
theorem FB.keep (h : FB w g A n c ws e) (hb : Below w.heap.size w w') : FB w' g A n c ws e := ⟨(hb.block g h.lt).trans h.blk, h.wd.below (hb.mono (Nat.le_of_lt h.lt))⟩
theorem FB.put0 (h : FB w g A n c ws e) (hw : Wd w g A' n' c' ws') : FB (w.setCell ⟨g, 0, none⟩ (.slice A' n' c')) g A' n' c' ws' e :=
  ⟨by rw [heap_setCell_same w g 0 _ _ _ h.blk]; rfl, hw.below ((Below.refl g w).setCell (p := ⟨g, 0, none⟩) (Nat.le_refl _) _)⟩
theorem FB.put1 (h : FB w g A n c ws e) (k : Int) : FB (w.setCell ⟨g, 1, none⟩ (.int .i64 k)) g A n c ws k :=
  ⟨by rw [heap_setCell_same w g 1 _ _ _ h.blk]; rfl, h.wd.below ((Below.refl g w).setCell (p := ⟨g, 1, none⟩) (Nat.le_refl _) _)⟩
end
/-- A word is read: v is handed back, r is left, the first error is e. -/
def Rdv (v : Value) (g : Nat) (r : List (List UInt8)) (e : Int) (w : World) (ev : Ending) (w' : World) : Prop := ev = .returned v ∧ (∃ A n c, FB w' g A n c r e) ∧ w.grownBy w' (some g)
set_option maxRecDepth 100000 in
set_option maxHeartbeats 1000000 in
theorem nextw_any {w : World} {g n c : Nat} {A : Option Addr} {r : List (List UInt8)} {x : List UInt8} {e : Int} (h : FB w g A n c (x :: r) e) :
    Calls Tryz.prog 102 #[.pointer (some ⟨g, 0, none⟩)] w (Rdv (.string (str x)) g r e w) := by
  obtain ⟨ad, rfl, hbk, hx, hn, _⟩ := h.wd.head
  have s0 := h.c0
  have g0 := h.f 0
  have hg := h.lt
  have hcap := h.wd.cap
  have hf := h.wd.few
  have HW := Lib.hid h.wd.tail
  have H := Lib.hid h
  clear h
  by_cases hc1 : c = 1
  · subst hc1
    obtain rfl : n = 1 := by omega
    have S3 := Lib.hid (H.out.put0 (by have := HW.out; rw [if_pos rfl] at this; exact this))
    have G3 := Lib.hid (g_set w g 0 (.slice (some ad) (1 - 1) (1 - 1)))
    clear HW
    go_enter Tryz.func102, Tryz.ntmps102
    go_wp2
    go_ret
    exact ⟨rfl, ⟨_, _, _, S3.out⟩, G3.out⟩
  · have S3 := Lib.hid (H.out.put0 (by have := HW.out; rw [if_neg hc1] at this; exact this))
    have G3 := Lib.hid (g_set w g 0 (.slice ((some ad).map (·.add 1)) (n - 1) (c - 1)))
    clear HW
    go_enter Tryz.func102, Tryz.ntmps102
    go_wp2
    go_ret
    exact ⟨rfl, ⟨_, _, _, S3.out⟩, G3.out⟩
/-- The first error, k being the word's own. -/
def upE (e k : Int) : Int := if k = 0 then e else if e = 0 then k else e
set_option maxRecDepth 100000 in
theorem fail_any {w : World} {g n c : Nat} {A : Option Addr} {r : List (List UInt8)} {e : Int} (k : Int) (hk : k ≠ 0) (h : FB w g A n c r e) :
    Calls Tryz.prog 103 #[.pointer (some ⟨g, 0, none⟩), .int .i64 k] w (Rdv (.tuple #[]) g r (upE e k) w) := by
  have s1 := h.c1
  have g1 := h.f 1
  have hg := h.lt
  by_cases he : e = 0
  · have S3 := Lib.hid (show FB _ g A n c r (upE e k) by unfold upE; rw [if_neg hk, if_pos he]; exact h.put1 k)
    have G3 := Lib.hid (g_set w g 1 (.int .i64 k))
    have e1 : (e == 0) = true := beq_iff_eq.2 he
    clear h he
    go_enter Tryz.func103, Tryz.ntmps103
    go_wp2
    go_end0
    exact ⟨rfl, ⟨_, _, _, S3.out⟩, G3.out⟩
  · have S3 := Lib.hid (show FB w g A n c r (upE e k) by unfold upE; rw [if_neg hk, if_neg he]; exact h)
    have G3 := Lib.hid (g_of (Below.refl w.heap.size w) (some g))
    have e1 : (e == 0) = false := beq_eq_false_iff_ne.2 he
    clear h he
    go_enter Tryz.func103, Tryz.ntmps103
    go_wp2
    go_end0
    exact ⟨rfl, ⟨_, _, _, S3.out⟩, G3.out⟩
end Go.Proofs.YtigfgeanofccgaaGreatDoor
namespace Go.Proofs.YtigfgeanofccgaaGreatDoor
open Go.RowKit
/-- Whether a word is a number. -/
def numB (w : List UInt8) : Bool := !decide (w = [] ∨ (1 < w.length ∧ (w.getD 0 0).toNat = 48)) && (w.all fun c => digitN c.toNat)
theorem numB_no1 {w : List UInt8} (h : w = [] ∨ (1 < w.length ∧ (w.getD 0 0).toNat = 48)) : numB w = false := by unfold numB; rw [decide_eq_true h]; rfl
theorem numB_no2 {w : List UInt8} {k : Nat} {c : UInt8} (hk : w[k]? = some c) (hc : digitN c.toNat = false) : numB w = false := by
  unfold numB
  have : (w.all fun c => digitN c.toNat) = false := by
    cases e : w.all fun c => digitN c.toNat with
    | false => rfl
    | true =>
      have := List.all_eq_true.1 e c (List.mem_of_getElem? hk)
      rw [hc] at this; cases this
  rw [this, Bool.and_false]
theorem numB_yes {w : List UInt8} (h : ¬ (w = [] ∨ (1 < w.length ∧ (w.getD 0 0).toNat = 48))) (ha : (w.all fun c => digitN c.toNat) = true) : numB w = true := by
  unfold numB; rw [decide_eq_false h, ha]; rfl
theorem dig_numB {w : List UInt8} (h : numB w = false) : MU.digE w = (0, 2) := by
  unfold numB at h
  unfold MU.digE
  by_cases g : w = [] ∨ (1 < w.length ∧ (w.getD 0 0).toNat = 48)
  · rw [if_pos g]
  · rw [decide_eq_false g] at h
    rw [if_neg g, if_pos (by simpa using h)]
theorem numB_parts {w : List UInt8} (h : numB w = true) : ¬ (w = [] ∨ (1 < w.length ∧ (w.getD 0 0).toNat = 48)) ∧ (w.all fun c => digitN c.toNat) = true := by
  unfold numB at h
  rw [Bool.and_eq_true] at h
  exact ⟨fun g => by rw [decide_eq_true g] at h; exact absurd h.1 (by decide), h.2⟩
theorem rune_out' (s : ByteArray) (k : Nat) (hk : k < s.size) (h : digitN (s[k]).toNat = false) : digitN (Utf8.decode s k).1 = false := by
  rcases Nat.lt_or_ge s[k].toNat 128 with ha | ha
  · rw [decode_ascii s k hk ha]; exact h
  · have := (decode_high s k hk ha).1
    cases e : digitN (Utf8.decode s k).1 with
    | false => rfl
    | true => have := (digitN_yes.1 e).2; omega
set_option maxRecDepth 100000 in
set_option maxHeartbeats 2000000 in
theorem isNumber_any (s : ByteArray) (hs : s.size ≤ 9223372036854775807) (w : World) : Calls Tryz.prog 104 #[.string s] w (Gives (.bool (numB s.data.toList)) w) := by
  have hl := size_list s
  by_cases h0 : s.size = 0
  · obtain rfl := empty_of h0
    have G := Lib.hid (ret_bool (numB_no1 (w := (⟨#[]⟩ : ByteArray).data.toList) (.inl rfl)).symm)
    go_enter Tryz.func104, Tryz.ntmps104
    go_wp2
    go_ret
    exact ⟨G.out, Below.refl _ _⟩
  have hp : 0 < s.size := by omega
  have n1 : s.toList.isEmpty = false := by cases h : s.toList with | nil => exact absurd h (ne_empty hp) | cons _ _ => rfl
  have n2 : (s.toList == []) = false := beq_eq_false_iff_ne.2 (ne_empty hp)
  have e0 : s.data.toList.getD 0 0 = s[0] := by rw [List.getD_eq_getElem?_getD, at_list s 0 hp]; rfl
  have ene : s.data.toList ≠ [] := fun e => by rw [e] at hl; simp at hl; omega
  have q48 : (s[0]).toNat = 48 → ((s.toList == [48]) = decide (s.size = 1)) := fun h => by
    rw [ByteArray.toList_eq]
    cases hq : s.data.toList with
    | nil => exact absurd hq ene
    | cons x r =>
      rw [hq] at e0 hl
      have hx : x = 48 := by have : x = s[0] := e0; rw [this]; exact UInt8.toNat_inj.1 (by rw [h]; rfl)
      subst hx
      cases r with
      | nil => simp at hl; rw [decide_eq_true hl.symm]; rfl
      | cons y r' =>
        simp at hl
        rw [decide_eq_false (by omega)]
        simp
  by_cases hz : (s[0]).toNat = 48 ∧ 1 < s.size
  · have G := Lib.hid (ret_bool (numB_no1 (w := s.data.toList) (.inr ⟨by rw [hl]; exact hz.2, by rw [e0]; exact hz.1⟩)).symm)
    have hb : (((s[0]).toNat : Int) == 48) = true := by rw [hz.1]; rfl
    have hb2 : (s.toList == [48]) = false := by rw [q48 hz.1]; exact decide_eq_false (by omega)
    clear e0 ene hl hz q48
    go_enter Tryz.func104, Tryz.ntmps104
    go_wp2
    go_ret
    exact ⟨G.out, Below.refl _ _⟩
  have hn : ¬ (s.data.toList = [] ∨ (1 < s.data.toList.length ∧ (s.data.toList.getD 0 0).toNat = 48)) := by
    rintro (g | ⟨g1, g2⟩)
    · exact ene g
    · exact hz ⟨by rw [← e0]; exact g2, by rw [← hl]; exact g1⟩
  have HN := Lib.hid hn
  have HB := Lib.hid (fun (k : Nat) (hk : k < s.size) (hc : digitN (s[k]).toNat = false) => ret_bool (numB_no2 (at_list s k hk) hc).symm)
  have HA := Lib.hid (fun (h : ∀ (j : Nat) (hj : j < s.size), digitN (s[j]).toNat = true) => ret_bool (numB_yes (w := s.data.toList) HN.out (dig_all fun k c hk hc => by
    rw [at_list s k (by rw [← hl]; exact hk)] at hc
    injection hc with hc
    rw [← hc]; exact h k (by rw [← hl]; exact hk))).symm)
  have start : ∃ bb : Bool, ((((s[0]).toNat : Int) == 48) = bb ∧ (bb = true → (s.toList == [48]) = true)) := by
    by_cases g : (s[0]).toNat = 48
    · exact ⟨true, by rw [g]; rfl, fun _ => by rw [q48 g]; exact decide_eq_true (Nat.le_antisymm (by omega) hp)⟩
    · exact ⟨false, beq_eq_false_iff_ne.2 (by intro e; exact g (by omega)), fun h => by cases h⟩
  clear hn e0 ene hz hl HN q48
  obtain ⟨bb, d1, hb0⟩ := start
  cases bb
  all_goals
    first
      | (have hb := hb0 rfl; clear hb0)
      | (clear hb0)
    go_enter Tryz.func104, Tryz.ntmps104
    go_wp2
    go_loopw [4] (fun _ wr => ∃ k : Nat, k ≤ s.size ∧ wr = w.iter s k ∧ Hid (∀ (j : Nat) (hj : j < s.size), j < k → digitN (s[j]).toNat = true)) (fun _ w' => s.size - w'.iterPos w.heap.size)
    case atStart => exact ⟨0, by omega, rfl, Lib.hid (fun j _ hj => absurd hj (Nat.not_lt_zero _))⟩
    case round =>
      obtain ⟨k, hk, rfl, HD⟩ := hrel
      by_cases hlt : k < s.size
      · cases hd : digitN (s[k]).toNat with
        | true =>
          obtain ⟨g1, g2⟩ := digitN_yes.1 hd
          have hnx : ∀ ty, (Instr.next (.pointer (some ⟨w.heap.size, 0, none⟩)) true ty).run Tryz.prog (w.iter s k) = .ok (.tuple #[.bool true, .int .i64 k, .int .i32 s[k].toNat]) (w.iter s (k + 1)) := fun ty => by
            have := run_next_any (P := Tryz.prog) w s k ty hlt
            rw [decode_ascii s k hlt (by omega)] at this
            exact this
          have D2 := Lib.hid (show ∀ (j : Nat) (hj : j < s.size), j < k + 1 → digitN (s[j]).toNat = true from fun j hj h => by
            rcases Nat.lt_or_ge j k with g | g
            · exact HD.out j hj g
            · obtain rfl : j = k := by omega
              exact hd)
          have d3 : decide (((s[k]).toNat : Int) < 48) = false := decide_eq_false (by omega)
          have d4 : decide (57 < ((s[k]).toNat : Int)) = false := decide_eq_false (by omega)
          clear hd HD
          generalize s[k].toNat = r at *
          go_wp2
          go_roundw
          case rel => exact ⟨k + 1, by omega, rfl, D2⟩
          case measure => simp; omega
        | false =>
          have G := Lib.hid (HB.out k hlt hd)
          have ho := rune_out' s k hlt hd
          have hnx : ∀ ty, (Instr.next (.pointer (some ⟨w.heap.size, 0, none⟩)) true ty).run Tryz.prog (w.iter s k) = _ := fun ty => run_next_any w s k ty hlt
          clear hd HD HB HA
          generalize (Utf8.decode s k).1 = r at *
          generalize k + (Utf8.decode s k).2 = p at *
          rcases digitN_no.1 ho with g | g
          · have d3 : decide ((r : Int) < 48) = true := decide_eq_true (by omega)
            clear ho
            go_wp2
            go_ret
            exact ⟨G.out, below_new _ _⟩
          · have d3 : decide ((r : Int) < 48) = false := decide_eq_false (by omega)
            have d4 : decide (57 < (r : Int)) = true := decide_eq_true (by omega)
            clear ho
            go_wp2
            go_ret
            exact ⟨G.out, below_new _ _⟩
      · obtain rfl : k = s.size := by omega
        have hnx : ∀ ty, (Instr.next (.pointer (some ⟨w.heap.size, 0, none⟩)) true ty).run Tryz.prog (w.iter s s.size) = _ := fun ty => run_next_end w s s.size ty hlt
        have G := Lib.hid (HA.out (fun j hj => HD.out j hj hj))
        clear HD HA HB
        go_wp2
        go_ret
        exact ⟨G.out, below_new _ _⟩
end Go.Proofs.YtigfgeanofccgaaGreatDoor
namespace Go.Proofs.YtigfgeanofccgaaGreatDoor
open Go.RowKit
theorem Rdv.of {v : Value} {g : Nat} {r : List (List UInt8)} {e : Int} {w w1 w2 : World} {ev : Ending} (hg : w.grownBy w1 (some g)) (h : Rdv v g r e w1 ev w2) : Rdv v g r e w ev w2 := ⟨h.1, h.2.1, hg.trans h.2.2⟩
set_option maxRecDepth 100000 in
set_option maxHeartbeats 4000000 in
theorem numw_any {w : World} {g n c : Nat} {A : Option Addr} {r : List (List UInt8)} {x : List UInt8} {e : Int} (h : FB w g A n c (x :: r) e) :
    Calls Tryz.prog 77 #[.pointer (some ⟨g, 0, none⟩)] w (Rdv (.int .i64 (MU.digE x).1) g r (upE e (MU.digE x).2) w) := by
  have N1 := Lib.hid (nextw_any h)
  obtain ⟨_, _, _, _, _, hxl⟩ := h.wd.head
  have IN := Lib.hid (fun w' => isNumber_any (str x) (by rw [str_size]; exact hxl) w')
  rw [str_data] at IN
  have HS := Lib.hid (str_size x)
  have HD := Lib.hid (str_data x)
  clear h
  obtain ⟨s, hs⟩ : ∃ s, str x = s := ⟨_, rfl⟩
  rw [hs] at N1 IN HS HD
  clear hs
  go_enter Tryz.func77, Tryz.ntmps77
  go_wp2_with fail
  refine N1.out.mono ?_
  rintro ev w1 ⟨rfl, ⟨A1, n1, c1, h1⟩, hg⟩
  have H1 := Lib.hid h1
  have G1 := Lib.hid hg
  clear h1 hg N1
  cases hb : numB x with
  | false =>
    rw [hb] at IN
    have HDD := Lib.hid (dig_numB hb)
    have FL := Lib.hid (fun w' (hb : Below w1.heap.size w1 w') => fail_any 2 (by decide) (H1.out.keep hb))
    clear hb
    go_wp2_with fail
    refine (IN.out _).mono ?_
    rintro ev w2 ⟨rfl, hb⟩
    have B2 := Lib.hid hb
    clear hb
    go_wp2_with fail
    refine (FL.out _ B2.out).mono ?_
    rintro ev w3 ⟨rfl, hfb, hg⟩
    have R := Lib.hid (show Rdv (.int .i64 (MU.digE x).1) g r (upE e (MU.digE x).2) w (.returned (.int .i64 0)) w3 by rw [HDD.out]; exact ⟨rfl, hfb, G1.out.trans ((g_of B2.out _).trans hg)⟩)
    clear hfb hg
    go_wp2
    go_ret
    exact R.out
  | true =>
    rw [hb] at IN
    obtain ⟨p1, p2⟩ := numB_parts hb
    by_cases h9 : 9 < x.length
    · have d9 : decide (9 < (s.size : Int)) = true := decide_eq_true (by rw [HS.out]; omega)
      have HDD := Lib.hid (dig_long p1 p2 h9)
      have FL := Lib.hid (fun w' (hb : Below w1.heap.size w1 w') => fail_any 4 (by decide) (H1.out.keep hb))
      clear hb p1 p2
      go_wp2_with fail
      refine (IN.out _).mono ?_
      rintro ev w2 ⟨rfl, hb⟩
      have B2 := Lib.hid hb
      clear hb
      go_wp2_with fail
      refine (FL.out _ B2.out).mono ?_
      rintro ev w3 ⟨rfl, hfb, hg⟩
      have R := Lib.hid (show Rdv (.int .i64 (MU.digE x).1) g r (upE e (MU.digE x).2) w (.returned (.int .i64 0)) w3 by rw [HDD.out]; exact ⟨rfl, hfb, G1.out.trans ((g_of B2.out _).trans hg)⟩)
      clear hfb hg
      go_wp2
      go_ret
      exact R.out
    · have d9 : decide (9 < (s.size : Int)) = false := decide_eq_false (by rw [HS.out]; omega)
      have HDD := Lib.hid (dig_ok p1 p2 h9)
      have HDG := Lib.hid (show ∀ (j : Nat) (hj : j < s.size), digitN (s[j]).toNat = true from fun j hj => by
        have hm := at_list s j hj
        rw [HD.out] at hm
        exact List.all_eq_true.1 p2 _ (List.mem_of_getElem? hm))
      have hs9 : s.size ≤ 9 := by rw [HS.out]; omega
      clear hb p1 p2 h9
      go_wp2_with fail
      refine (IN.out _).mono ?_
      rintro ev w2 ⟨rfl, hb⟩
      have B2 := Lib.hid hb
      clear hb IN
      go_wp2
      go_loopw [4, 6] (fun v _ wr => ∃ k : Nat, k ≤ s.size ∧ wr = w2.iter s k ∧ v = .int .i64 (numV (s.data.toList.take k) : Nat)) (fun _ _ w' => s.size - w'.iterPos w2.heap.size)
      case atStart => exact ⟨0, Nat.zero_le _, rfl, rfl⟩
      case round =>
        obtain ⟨k, hk, rfl, rfl⟩ := hrel
        by_cases hlt : k < s.size
        · have hdk := HDG.out k hlt
          obtain ⟨g1, g2⟩ := digitN_yes.1 hdk
          have hnx : ∀ ty, (Instr.next (.pointer (some ⟨w2.heap.size, 0, none⟩)) true ty).run Tryz.prog (w2.iter s k) = .ok (.tuple #[.bool true, .int .i64 k, .int .i32 s[k].toNat]) (w2.iter s (k + 1)) := fun ty => by
            have := run_next_any (P := Tryz.prog) w2 s k ty hlt
            rw [decode_ascii s k hlt (by omega)] at this
            exact this
          have hy : numV (s.data.toList.take k) < 25600000000 := by
            have h1 := numV_lt (s.data.toList.take k)
            have h2 : 256 * (10 : Nat) ^ (s.data.toList.take k).length ≤ 256 * 10 ^ 8 := Nat.mul_le_mul_left _ (Nat.pow_le_pow_right (by decide) (by rw [List.length_take]; omega))
            exact Nat.lt_of_lt_of_le h1 h2
          have V : Hid (numV (s.data.toList.take (k + 1)) = numV (s.data.toList.take k) * 10 + ((s[k]).toNat - 48)) := Lib.hid (by
            rw [List.take_succ_eq_append_getElem (by rw [size_list]; exact hlt), numV_snoc]; rfl)
          clear hdk
          generalize s[k].toNat = q at *
          generalize numV (s.data.toList.take k) = y at *
          have ew : IntKind.i32.wrap ((q : Int) - 48) = (q : Int) - 48 := by unfold IntKind.wrap; simp [IntKind.bits, IntKind.signed]; omega
          go_wp2
          go_roundw
          case rel => exact ⟨k + 1, by omega, rfl, by rw [V.out]; go_num⟩
          case measure => simp; omega
        · obtain rfl : k = s.size := by omega
          have hnx : ∀ ty, (Instr.next (.pointer (some ⟨w2.heap.size, 0, none⟩)) true ty).run Tryz.prog (w2.iter s s.size) = _ := fun ty => run_next_end w2 s s.size ty hlt
          have V : Hid (numV (s.data.toList.take s.size) = numV x) := Lib.hid (by rw [List.take_of_length_le (by rw [size_list]; exact Nat.le_refl _), HD.out])
          rw [V.out]
          have R := Lib.hid (fun wz (hb : Below w2.heap.size w2 wz) => (show Rdv (.int .i64 (MU.digE x).1) g r (upE e (MU.digE x).2) w (.returned (.int .i64 (numV x : Nat))) wz by
            rw [HDD.out]; exact ⟨rfl, ⟨A1, n1, c1, (H1.out.keep B2.out).keep hb⟩, G1.out.trans ((g_of B2.out _).trans (g_of hb _))⟩))
          generalize numV x = y at *
          clear V HDG
          go_wp2
          go_ret
          exact R.out (w2.iter s s.size) (below_new _ _)
end Go.Proofs.YtigfgeanofccgaaGreatDoor
namespace Go.Proofs.YtigfgeanofccgaaGreatDoor
open Go.RowKit
open MC (Pr)
open MR (Bd)
def nmEr (x : List UInt8) : Int := if nameB x = true then 0 else 5
def cpV (L : List Bd) (x : List UInt8) : Int := if x = [42] then -1 else ((MR.findL L x).map Int.ofNat).getD 0
def cpEr (L : List Bd) (x : List UInt8) : Int := if x = [42] then 0 else if MR.findL L x = none then 6 else 0
def asV (L : List Pr) (x : List UInt8) : Int := ((MC.findL L x).map Int.ofNat).getD 0
def asEr (L : List Pr) (x : List UInt8) : Int := if MC.findL L x = none then 6 else 0
theorem upE_zero (e : Int) : upE e 0 = e := if_pos rfl
/-- A list below block N. -/
structure LN {α : Type} (E : El α) (w : World) (N : Nat) (A : Option Addr) (n c : Nat) (l : List α) : Prop where
  reads : Reads w N E.sz A n (E.all l)
  len : l.length = n
  cap : n ≤ c
  few : n ≤ 9223372036854775807
  fine : E.Fine l
section
variable {α : Type} {E : El α} {w w' : World} {N M n c : Nat} {A : Option Addr} {l : List α}
theorem LN.below (h : LN E w N A n c l) (hb : Below N w w') : LN E w' N A n c l := ⟨h.reads.below hb, h.len, h.cap, h.few, h.fine⟩
theorem LN.lst (h : LN E w N A n c l) (hN : N ≤ w.heap.size) : Lst E w A n c l := ⟨h.reads.more hN, h.len, h.cap, h.few, h.fine⟩
theorem LN.of (h : Lst E w A n c l) : LN E w w.heap.size A n c l := ⟨h.reads, h.len, h.cap, h.few, h.fine⟩
theorem LN.more (h : LN E w N A n c l) (hN : N ≤ M) : LN E w M A n c l := ⟨h.reads.more hN, h.len, h.cap, h.few, h.fine⟩
end
def prE : El Pr where
  cells := cellsP
  sz := 5
  fine p := p.name.length ≤ 9223372036854775807
  len _ _ := rfl
  one a u hu := by
    simp only [cellsP, List.mem_cons, List.not_mem_nil, or_false] at hu
    rcases hu with rfl | rfl | rfl | rfl | rfl <;> rfl
  pos := by decide
theorem Lst.prs {w : World} {A : Option Addr} {n c : Nat} {l : List Pr} (h : Lst prE w A n c l) (hn : n ≤ 5000) : Prs w A n c l := ⟨h.reads, h.len, h.cap, hn, h.fine⟩
set_option maxRecDepth 100000 in
set_option maxHeartbeats 1000000 in
theorem name_any {w : World} {g n c : Nat} {A : Option Addr} {r : List (List UInt8)} {x : List UInt8} {e : Int} (h : FB w g A n c (x :: r) e) :
    Calls Tryz.prog 76 #[.pointer (some ⟨g, 0, none⟩)] w (Rdv (.string (str x)) g r (upE e (nmEr x)) w) := by
  have N1 := Lib.hid (nextw_any h)
  obtain ⟨_, _, _, _, _, hxl⟩ := h.wd.head
  have IN := Lib.hid (fun w' => isName_any (str x) (by rw [str_size]; exact hxl) w')
  rw [str_data] at IN
  clear h
  generalize str x = s at *
  go_enter Tryz.func76, Tryz.ntmps76
  go_wp2_with fail
  refine N1.out.mono ?_
  rintro ev w1 ⟨rfl, ⟨A1, n1, c1, h1⟩, hg⟩
  have H1 := Lib.hid h1
  have G1 := Lib.hid hg
  clear h1 hg N1
  cases hb : nameB x with
  | false =>
    rw [hb] at IN
    have HN := Lib.hid (show nmEr x = 5 by unfold nmEr; rw [hb]; rfl)
    have FL := Lib.hid (fun w' (hb : Below w1.heap.size w1 w') => fail_any 5 (by decide) (H1.out.keep hb))
    clear hb
    go_wp2_with fail
    refine (IN.out _).mono ?_
    rintro ev w2 ⟨rfl, hb⟩
    have B2 := Lib.hid hb
    clear hb
    go_wp2_with fail
    refine (FL.out _ B2.out).mono ?_
    rintro ev w3 ⟨rfl, hfb, hg⟩
    have R := Lib.hid (show Rdv (.string s) g r (upE e (nmEr x)) w (.returned (.string s)) w3 by rw [HN.out]; exact ⟨rfl, hfb, G1.out.trans ((g_of B2.out _).trans hg)⟩)
    clear hfb hg
    go_wp2
    go_ret
    exact R.out
  | true =>
    rw [hb] at IN
    have HN := Lib.hid (show nmEr x = 0 by unfold nmEr; rw [hb]; rfl)
    clear hb
    go_wp2_with fail
    refine (IN.out _).mono ?_
    rintro ev w2 ⟨rfl, hb⟩
    have R := Lib.hid (show Rdv (.string s) g r (upE e (nmEr x)) w (.returned (.string s)) w2 by rw [HN.out, upE_zero]; exact ⟨rfl, ⟨A1, n1, c1, H1.out.keep hb⟩, G1.out.trans (g_of hb _)⟩)
    clear hb
    go_wp2
    go_ret
    exact R.out
set_option maxRecDepth 100000 in
set_option maxHeartbeats 1000000 in
theorem capped_any {w : World} {g n c : Nat} {A : Option Addr} {r : List (List UInt8)} {x : List UInt8} {e : Int} (h : FB w g A n c (x :: r) e) (A2 : Option Addr) (n2 c2 : Nat) (L : List Bd) (h2 : LN bdE w g A2 n2 c2 L) :
    Calls Tryz.prog 78 #[.pointer (some ⟨g, 0, none⟩), .slice A2 n2 c2] w (Rdv (.int .i64 (cpV L x)) g r (upE e (cpEr L x)) w) := by
  have N1 := Lib.hid (nextw_any h)
  have HL := Lib.hid h2
  have hgw := h.lt
  clear h h2
  by_cases hx : x = [42]
  · have HV := Lib.hid (show cpV L x = -1 by unfold cpV; rw [if_pos hx])
    have HE := Lib.hid (show cpEr L x = 0 by unfold cpEr; rw [if_pos hx])
    have hb : ((str x).toList == [42]) = true := by rw [ByteArray.toList_eq, str_data, hx]; rfl
    clear hx
    generalize str x = s at *
    go_enter Tryz.func78, Tryz.ntmps78
    go_wp2_with fail
    refine N1.out.mono ?_
    rintro ev w1 ⟨rfl, hfb, hg⟩
    have R := Lib.hid (show Rdv (.int .i64 (cpV L x)) g r (upE e (cpEr L x)) w (.returned (.int .i64 (-1))) w1 by rw [HV.out, HE.out, upE_zero]; exact ⟨rfl, hfb, hg⟩)
    clear hfb hg
    go_wp2
    go_ret
    exact R.out
  · have hb : ((str x).toList == [42]) = false := by rw [ByteArray.toList_eq, str_data]; exact beq_eq_false_iff_ne.2 hx
    have FD := Lib.hid (fun w' (hl : Lst bdE w' A2 n2 c2 L) => find9_any A2 n2 c2 L x w' hl)
    cases hfnd : MR.findL L x with
    | none =>
      have HV := Lib.hid (show cpV L x = 0 by unfold cpV; rw [if_neg hx, hfnd]; rfl)
      have HE := Lib.hid (show cpEr L x = 6 by unfold cpEr; rw [if_neg hx, if_pos hfnd])
      rw [hfnd] at FD
      unfold fnd9V at FD
      clear hx hfnd
      generalize str x = s at *
      go_enter Tryz.func78, Tryz.ntmps78
      go_wp2_with fail
      refine N1.out.mono ?_
      rintro ev w1 ⟨rfl, ⟨A1, n1, c1, h1⟩, hg⟩
      have H1 := Lib.hid h1
      have G1 := Lib.hid hg
      have HL1 := Lib.hid ((HL.out.below (g_below hg (Nat.le_refl _) (Nat.le_of_lt hgw))).lst (Nat.le_of_lt h1.lt))
      clear h1 hg N1
      have FL := Lib.hid (fun w' (hb : Below w1.heap.size w1 w') => fail_any 6 (by decide) (H1.out.keep hb))
      go_wp2_with fail
      refine (FD.out _ HL1.out).mono ?_
      rintro ev w2 ⟨rfl, hb⟩
      have B2 := Lib.hid hb
      clear hb
      go_wp2_with fail
      refine (FL.out _ B2.out).mono ?_
      rintro ev w3 ⟨rfl, hfb, hg⟩
      have R := Lib.hid (show Rdv (.int .i64 (cpV L x)) g r (upE e (cpEr L x)) w (.returned (.int .i64 0)) w3 by rw [HV.out, HE.out]; exact ⟨rfl, hfb, G1.out.trans ((g_of B2.out _).trans hg)⟩)
      clear hfb hg
      go_wp2
      go_ret
      exact R.out
    | some i =>
      have HV := Lib.hid (show cpV L x = (i : Int) by unfold cpV; rw [if_neg hx, hfnd]; rfl)
      have HE := Lib.hid (show cpEr L x = 0 by unfold cpEr; rw [if_neg hx, if_neg (by rw [hfnd]; simp)])
      rw [hfnd] at FD
      unfold fnd9V at FD
      clear hx hfnd
      generalize str x = s at *
      go_enter Tryz.func78, Tryz.ntmps78
      go_wp2_with fail
      refine N1.out.mono ?_
      rintro ev w1 ⟨rfl, ⟨A1, n1, c1, h1⟩, hg⟩
      have H1 := Lib.hid h1
      have G1 := Lib.hid hg
      have HL1 := Lib.hid ((HL.out.below (g_below hg (Nat.le_refl _) (Nat.le_of_lt hgw))).lst (Nat.le_of_lt h1.lt))
      clear h1 hg N1
      go_wp2_with fail
      refine (FD.out _ HL1.out).mono ?_
      rintro ev w2 ⟨rfl, hb⟩
      have R := Lib.hid (show Rdv (.int .i64 (cpV L x)) g r (upE e (cpEr L x)) w (.returned (.int .i64 (i : Int))) w2 by rw [HV.out, HE.out, upE_zero]; exact ⟨rfl, ⟨A1, n1, c1, H1.out.keep hb⟩, G1.out.trans (g_of hb _)⟩)
      clear hb
      go_wp2
      go_ret
      exact R.out

set_option maxRecDepth 100000 in
set_option maxHeartbeats 1000000 in
theorem reserved_any {w : World} {g n c : Nat} {A : Option Addr} {r : List (List UInt8)} {x : List UInt8} {e : Int} (h : FB w g A n c (x :: r) e) (A2 : Option Addr) (n2 c2 : Nat) (L : List Pr) (h2 : LN prE w g A2 n2 c2 L) (hn2 : n2 ≤ 5000) :
    Calls Tryz.prog 79 #[.pointer (some ⟨g, 0, none⟩), .slice A2 n2 c2] w (Rdv (.int .i64 (asV L x)) g r (upE e (asEr L x)) w) := by
  have N1 := Lib.hid (nextw_any h)
  have HL := Lib.hid h2
  have hgw := h.lt
  clear h h2
  have FD := Lib.hid (fun w' (hl : Prs w' A2 n2 c2 L) => find_any A2 n2 c2 L x w' hl)
  cases hfnd : MC.findL L x with
  | none =>
    have HV := Lib.hid (show asV L x = 0 by unfold asV; rw [hfnd]; rfl)
    have HE := Lib.hid (show asEr L x = 6 by unfold asEr; rw [if_pos hfnd])
    rw [hfnd] at FD
    unfold fndV at FD
    clear hfnd
    generalize str x = s at *
    go_enter Tryz.func79, Tryz.ntmps79
    go_wp2_with fail
    refine N1.out.mono ?_
    rintro ev w1 ⟨rfl, ⟨A1, n1, c1, h1⟩, hg⟩
    have H1 := Lib.hid h1
    have G1 := Lib.hid hg
    have HL1 := Lib.hid (((HL.out.below (g_below hg (Nat.le_refl _) (Nat.le_of_lt hgw))).lst (Nat.le_of_lt h1.lt)).prs hn2)
    clear h1 hg N1
    have FL := Lib.hid (fun w' (hb : Below w1.heap.size w1 w') => fail_any 6 (by decide) (H1.out.keep hb))
    go_wp2_with fail
    refine (FD.out _ HL1.out).mono ?_
    rintro ev w2 ⟨rfl, hb⟩
    have B2 := Lib.hid hb
    clear hb
    go_wp2_with fail
    refine (FL.out _ B2.out).mono ?_
    rintro ev w3 ⟨rfl, hfb, hg⟩
    have R := Lib.hid (show Rdv (.int .i64 (asV L x)) g r (upE e (asEr L x)) w (.returned (.int .i64 0)) w3 by rw [HV.out, HE.out]; exact ⟨rfl, hfb, G1.out.trans ((g_of B2.out _).trans hg)⟩)
    clear hfb hg
    go_wp2
    go_ret
    exact R.out
  | some i =>
    have HV := Lib.hid (show asV L x = (i : Int) by unfold asV; rw [hfnd]; rfl)
    have HE := Lib.hid (show asEr L x = 0 by unfold asEr; rw [if_neg (by rw [hfnd]; simp)])
    rw [hfnd] at FD
    unfold fndV at FD
    clear hfnd
    generalize str x = s at *
    go_enter Tryz.func79, Tryz.ntmps79
    go_wp2_with fail
    refine N1.out.mono ?_
    rintro ev w1 ⟨rfl, ⟨A1, n1, c1, h1⟩, hg⟩
    have H1 := Lib.hid h1
    have G1 := Lib.hid hg
    have HL1 := Lib.hid (((HL.out.below (g_below hg (Nat.le_refl _) (Nat.le_of_lt hgw))).lst (Nat.le_of_lt h1.lt)).prs hn2)
    clear h1 hg N1
    go_wp2_with fail
    refine (FD.out _ HL1.out).mono ?_
    rintro ev w2 ⟨rfl, hb⟩
    have R := Lib.hid (show Rdv (.int .i64 (asV L x)) g r (upE e (asEr L x)) w (.returned (.int .i64 (i : Int))) w2 by rw [HV.out, HE.out, upE_zero]; exact ⟨rfl, ⟨A1, n1, c1, H1.out.keep hb⟩, G1.out.trans (g_of hb _)⟩)
    clear hb
    go_wp2
    go_ret
    exact R.out
end Go.Proofs.YtigfgeanofccgaaGreatDoor
