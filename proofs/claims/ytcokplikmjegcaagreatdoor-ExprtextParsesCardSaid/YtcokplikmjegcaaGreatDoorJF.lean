/- CBase, CFind, LChar, LPre, LNum, LMark, LFirst, joined: no claim of its own. -/
import Derived.Test.YtcokplikmjegcaaGreatDoorJB
import Derived.Test.YtcokplikmjegcaaGreatDoorJC
import Derived.Test.YtcokplikmjegcaaGreatDoorJA
import Derived.Laws.RangeAny
import Derived.Shelf.Abstract
namespace Go.Proofs.YtcokplikmjegcaaGreatDoor
open Go.RowKit
open MC (Pr)
/-- A product's cells; a product by value. -/
def cellsP (p : Pr) : List Value := [.string (str p.name), .int .i64 p.supply, .int .i64 p.reserve, .int .i64 p.points, .int .i64 p.group]
def cellsPs (l : List Pr) : List Value := l.flatMap cellsP
def aggP (p : Pr) : Value := .agg #[.string (str p.name), .int .i64 p.supply, .int .i64 p.reserve, .int .i64 p.points, .int .i64 p.group]
theorem cellsPs_length (l : List Pr) : (cellsPs l).length = l.length * 5 := by
  induction l with
  | nil => rfl
  | cons p r ih => show (cellsP p ++ cellsPs r).length = _; rw [List.length_append, ih]; simp [cellsP]; omega
theorem cellsPs_append (a b : List Pr) : cellsPs (a ++ b) = cellsPs a ++ cellsPs b := by simp [cellsPs]
theorem cellsPs_drop (l : List Pr) (k : Nat) : (cellsPs l).drop (k * 5) = cellsPs (l.drop k) := by
  induction l generalizing k with
  | nil => simp [cellsPs]
  | cons p r ih =>
    cases k with
    | zero => simp
    | succ k =>
      show (cellsP p ++ cellsPs r).drop ((k + 1) * 5) = cellsPs (r.drop k)
      rw [← ih k, List.drop_append, show (cellsP p).drop ((k + 1) * 5) = [] from List.drop_of_length_le (by simp [cellsP]; omega), List.nil_append]
      congr 1
      simp [cellsP]; omega
theorem cellsPs_at (l : List Pr) (k i : Nat) (h : k < l.length) (hi : i < 5) : (cellsPs l)[k * 5 + i]? = (cellsP l[k])[i]? := by
  have e := cellsPs_drop l k
  rw [List.drop_eq_getElem_cons h] at e
  have : (cellsPs l)[k * 5 + i]? = ((cellsPs l).drop (k * 5))[i]? := by rw [List.getElem?_drop]
  rw [this, e]
  show (cellsP l[k] ++ cellsPs (l.drop (k + 1)))[i]? = _
  rw [List.getElem?_append_left (by simp [cellsP]; omega)]
/-- A slice of products that reads as l. -/
structure Prs (w : World) (A : Option Addr) (n c : Nat) (l : List Pr) : Prop where
  reads : Reads w w.heap.size 5 A n (cellsPs l)
  len : l.length = n
  cap : n ≤ c
  few : n ≤ 100
  fine : ∀ p ∈ l, p.name.length ≤ 9223372036854775807
section
variable {w w' : World} {A : Option Addr} {n c : Nat} {l : List Pr}
theorem Prs.keep (h : Prs w A n c l) (hb : Below w.heap.size w w') : Prs w' A n c l := ⟨(h.reads.below hb).more hb.size, h.len, h.cap, h.few, h.fine⟩
theorem Prs.at_ (h : Prs w A n c l) {k : Nat} (hk : k < n) : ∃ (ad : Addr) (p : Pr), A = some ad ∧ l[k]? = some p ∧ ad.block < w.heap.size ∧
    w.cell? (ad.add (k * 5)) = some (.string (str p.name)) ∧ w.cell? ⟨(ad.add (k * 5)).block, (ad.add (k * 5)).off + 1, none⟩ = some (.int .i64 p.supply) ∧
    w.cell? ⟨(ad.add (k * 5)).block, (ad.add (k * 5)).off + 2, none⟩ = some (.int .i64 p.reserve) ∧ w.cell? ⟨(ad.add (k * 5)).block, (ad.add (k * 5)).off + 3, none⟩ = some (.int .i64 p.points) ∧
    w.cell? ⟨(ad.add (k * 5)).block, (ad.add (k * 5)).off + 4, none⟩ = some (.int .i64 p.group) := by
  obtain ⟨ad, e, hb, hc⟩ := h.reads.2 (by omega)
  have hl : k < l.length := by rw [h.len]; exact hk
  have c0 := hc (k * 5 + 0) _ ((cellsPs_at l k 0 hl (by decide)).trans rfl)
  have c1 := hc (k * 5 + 1) _ ((cellsPs_at l k 1 hl (by decide)).trans rfl)
  have c2 := hc (k * 5 + 2) _ ((cellsPs_at l k 2 hl (by decide)).trans rfl)
  have c3 := hc (k * 5 + 3) _ ((cellsPs_at l k 3 hl (by decide)).trans rfl)
  have c4 := hc (k * 5 + 4) _ ((cellsPs_at l k 4 hl (by decide)).trans rfl)
  rw [show ad.add (k * 5 + 1) = ⟨(ad.add (k * 5)).block, (ad.add (k * 5)).off + 1, none⟩ by rw [← Addr.add_add]; rfl] at c1
  rw [show ad.add (k * 5 + 2) = ⟨(ad.add (k * 5)).block, (ad.add (k * 5)).off + 2, none⟩ by rw [← Addr.add_add]; rfl] at c2
  rw [show ad.add (k * 5 + 3) = ⟨(ad.add (k * 5)).block, (ad.add (k * 5)).off + 3, none⟩ by rw [← Addr.add_add]; rfl] at c3
  rw [show ad.add (k * 5 + 4) = ⟨(ad.add (k * 5)).block, (ad.add (k * 5)).off + 4, none⟩ by rw [← Addr.add_add]; rfl] at c4
  exact ⟨ad, l[k], e, List.getElem?_eq_getElem hl, hb, c0, c1, c2, c3, c4⟩
theorem Prs.drew (h : Prs w A n c l) : Prs w.drew A n c l := h.keep (below_drawn w)
theorem Prs.drewN (h : Prs w A n c l) (q : Nat) : Prs (w.drewN q) A n c l := h.keep (below_drewN (Below.refl _ _) q)
end
end Go.Proofs.YtcokplikmjegcaaGreatDoor
namespace Go.Proofs.YtcokplikmjegcaaGreatDoor
open Go.RowKit
open MC (Pr)
/-- What Find answers. -/
def fndV : Option Nat → Value
  | none => .tuple #[.int .i64 0, .bool false]
  | some k => .tuple #[.int .i64 k, .bool true]
theorem ret_fnd {o : Option Nat} {k : Nat} (h : o = some k) : Ending.returned (.tuple #[.int .i64 (k : Int), .bool true]) = .returned (fndV o) := by rw [h]; rfl
theorem ret_fnd0 {o : Option Nat} (h : o = none) : Ending.returned (.tuple #[.int .i64 0, .bool false]) = .returned (fndV o) := by rw [h]; rfl
theorem find_here {L : List Pr} {nm : List UInt8} {k : Nat} {p : Pr} (hp : L[k]? = some p) (he : p.name = nm) (hn : ∀ (j : Nat) (q : Pr), j < k → L[j]? = some q → q.name ≠ nm) : MC.findL L nm = some k := by
  subst he; exact MC.find_eq hp hn
theorem find_not {L : List Pr} {nm : List UInt8} {k : Nat} (hk : L.length ≤ k) (hn : ∀ (j : Nat) (q : Pr), j < k → L[j]? = some q → q.name ≠ nm) : MC.findL L nm = none :=
  MC.find_none fun p hp => by
    obtain ⟨j, hj, e⟩ := List.mem_iff_getElem.1 hp
    exact hn j p (by omega) (by rw [List.getElem?_eq_getElem hj, e])
theorem name_step {L : List Pr} {nm : List UInt8} {k : Nat} {p : Pr} (hp : L[k]? = some p) (he : p.name ≠ nm) (hn : ∀ (j : Nat) (q : Pr), j < k → L[j]? = some q → q.name ≠ nm) : ∀ (j : Nat) (q : Pr), j < k + 1 → L[j]? = some q → q.name ≠ nm := by
  intro j q hj hq
  rcases Nat.lt_or_ge j k with g | g
  · exact hn j q g hq
  · obtain rfl : j = k := by omega
    rw [hp] at hq; injection hq with hq; subst hq; exact he
set_option maxRecDepth 100000 in
set_option maxHeartbeats 1000000 in
theorem find_any (A : Option Addr) (n c : Nat) (L : List Pr) (nm : List UInt8) (w : World) (h : Prs w A n c L) :
    Calls Tryz.prog 71 #[.slice A n c, .string (str nm)] w (Gives (fndV (MC.findL L nm)) w) := by
  have hn := h.few
  have hc := h.cap
  have HL := Lib.hid h.len
  have H := Lib.hid h
  clear h
  go_enter Tryz.func71, Tryz.ntmps71
  go_wp2
  go_loopw [10] (fun i wr => ∃ k : Nat, k ≤ n ∧ i = .int .i64 k ∧ Hid (∀ (j : Nat) (q : Pr), j < k → L[j]? = some q → q.name ≠ nm) ∧ Hid (Below w.heap.size w wr)) (fun i _ => n - (intOf i).toNat)
  case atStart => exact ⟨0, Nat.zero_le _, rfl, Lib.hid (fun j _ hj => absurd hj (Nat.not_lt_zero _)), Lib.hid (Below.refl _ _)⟩
  case round =>
    rename_i _ wr
    obtain ⟨k, hk, rfl, HN, HB⟩ := hrel
    by_cases hlt : k < n
    · obtain ⟨ad, p, rfl, q1, hbk, x0, x1, x2, x3, x4⟩ := (H.out.keep HB.out).at_ hlt
      have B1 := Lib.hid (HB.out.trans ((below_new wr (.cells #[.string (str p.name), .int .i64 p.supply, .int .i64 p.reserve, .int .i64 p.points, .int .i64 p.group] 71)).mono HB.out.size))
      by_cases hq : p.name = nm
      · have ht : ((str p.name).toList == (str nm).toList) = true := test_yes (by rw [str_data, str_data, hq])
        have G := Lib.hid (ret_fnd (find_here q1 hq HN.out))
        clear hq q1 HN HB hbk
        obtain ⟨pn, ps, pr, pp, pg⟩ := p
        simp only at *
        generalize str pn = s at *
        generalize str nm = m at *
        go_wp2
        exact bodyPost_ret (v := .tuple #[.int .i64 (k : Int), .bool true]) (by simp [results, Tryz.results71, go_sem]) rfl ⟨G.out, B1.out⟩
      · have ht : ((str p.name).toList == (str nm).toList) = false := test_no (by rw [str_data, str_data]; exact hq)
        have G := Lib.hid (name_step q1 hq HN.out)
        clear hq q1 HN HB hbk
        obtain ⟨pn, ps, pr, pp, pg⟩ := p
        simp only at *
        generalize str pn = s at *
        generalize str nm = m at *
        go_wp2
        go_roundw
        case rel => exact ⟨k + 1, by omega, by go_num, G, B1⟩
        case measure => simp [intOf]; omega
    · have G := Lib.hid (ret_fnd0 (find_not (by rw [HL.out]; omega) HN.out))
      go_wp2
      exact bodyPost_ret (v := .tuple #[.int .i64 0, .bool false]) (by simp [results, Tryz.results71, go_sem]) rfl ⟨G.out, HB.out⟩
set_option maxRecDepth 100000 in
set_option maxHeartbeats 1000000 in
theorem rfind_any (A : Option Addr) (n c : Nat) (L : List Pr) (nm : List UInt8) (w : World) (h : Prs w A n c L) :
    Calls Tryz.prog 118 #[.slice A n c, .string (str nm)] w (Gives (fndV (MC.findL L nm)) w) := by
  have hn := h.few
  have hc := h.cap
  have HL := Lib.hid h.len
  have H := Lib.hid h
  clear h
  go_enter Tryz.func118, Tryz.ntmps118
  go_wp2
  go_loop [6] (fun i => ∃ k : Nat, k ≤ n ∧ i = .int .i64 k ∧ Hid (∀ (j : Nat) (q : Pr), j < k → L[j]? = some q → q.name ≠ nm)) (fun i => n - (intOf i).toNat)
  case atStart => exact ⟨0, Nat.zero_le _, rfl, Lib.hid (fun j _ hj => absurd hj (Nat.not_lt_zero _))⟩
  case round =>
    obtain ⟨k, hk, rfl, HN⟩ := hrel
    by_cases hlt : k < n
    · obtain ⟨ad, p, rfl, q1, hbk, x0, x1, x2, x3, x4⟩ := H.out.at_ hlt
      by_cases hq : p.name = nm
      · have ht : ((str p.name).toList == (str nm).toList) = true := test_yes (by rw [str_data, str_data, hq])
        have G := Lib.hid (ret_fnd (find_here q1 hq HN.out))
        clear hq q1 HN hbk
        obtain ⟨pn, ps, pr, pp, pg⟩ := p
        simp only at *
        generalize str pn = s at *
        generalize str nm = m at *
        go_wp2
        exact bodyPost_ret (v := .tuple #[.int .i64 (k : Int), .bool true]) (by simp [results, Tryz.results118, go_sem]) rfl ⟨G.out, Below.refl _ _⟩
      · have ht : ((str p.name).toList == (str nm).toList) = false := test_no (by rw [str_data, str_data]; exact hq)
        have G := Lib.hid (name_step q1 hq HN.out)
        clear hq q1 HN hbk
        obtain ⟨pn, ps, pr, pp, pg⟩ := p
        simp only at *
        generalize str pn = s at *
        generalize str nm = m at *
        go_wp2
        go_round
        case rel => exact ⟨k + 1, by omega, by go_num, G⟩
        case measure => simp [intOf]; omega
    · have G := Lib.hid (ret_fnd0 (find_not (by rw [HL.out]; omega) HN.out))
      go_wp2
      exact bodyPost_ret (v := .tuple #[.int .i64 0, .bool false]) (by simp [results, Tryz.results118, go_sem]) rfl ⟨G.out, Below.refl _ _⟩
end Go.Proofs.YtcokplikmjegcaaGreatDoor
namespace Go.Proofs.YtcokplikmjegcaaGreatDoor
open Go.RowKit
/-- A call answers b and turns nothing. -/
def Says (b : Bool) (w : World) (e : Ending) (w' : World) : Prop := e = .returned (.bool b) ∧ w = w'
set_option maxRecDepth 100000 in
theorem isLetter_any (n : Nat) (w : World) : Calls Tryz.prog 85 #[.int .i32 n] w (Says (letterN n) w) := by
  have Y := Lib.hid (@letterN_yes n)
  have Z := Lib.hid (@letterN_no n)
  by_cases h1 : 97 ≤ n
  · by_cases h2 : n ≤ 122
    · have d2 : decide ((n : Int) ≤ 122) = true := decide_eq_true (by omega)
      have E := Lib.hid (Y.out.2 ⟨h1, h2⟩)
      clear Y Z
      go_enter Tryz.func85, Tryz.ntmps85
      go_wp2
      go_ret
      exact ⟨by rw [E.out]; rfl, rfl⟩
    · have d2 : decide ((n : Int) ≤ 122) = false := decide_eq_false (by omega)
      have E := Lib.hid (Z.out.2 (by omega))
      clear Y Z
      go_enter Tryz.func85, Tryz.ntmps85
      go_wp2
      go_ret
      exact ⟨by rw [E.out]; rfl, rfl⟩
  · have E := Lib.hid (Z.out.2 (by omega))
    clear Y Z
    go_enter Tryz.func85, Tryz.ntmps85
    go_wp2
    go_ret
    exact ⟨by rw [E.out]; rfl, rfl⟩
set_option maxRecDepth 100000 in
theorem isDigit_any (n : Nat) (w : World) : Calls Tryz.prog 89 #[.int .i32 n] w (Says (digitN n) w) := by
  have Y := Lib.hid (@digitN_yes n)
  have Z := Lib.hid (@digitN_no n)
  by_cases h1 : 48 ≤ n
  · by_cases h2 : n ≤ 57
    · have d2 : decide ((n : Int) ≤ 57) = true := decide_eq_true (by omega)
      have E := Lib.hid (Y.out.2 ⟨h1, h2⟩)
      clear Y Z
      go_enter Tryz.func89, Tryz.ntmps89
      go_wp2
      go_ret
      exact ⟨by rw [E.out]; rfl, rfl⟩
    · have d2 : decide ((n : Int) ≤ 57) = false := decide_eq_false (by omega)
      have E := Lib.hid (Z.out.2 (by omega))
      clear Y Z
      go_enter Tryz.func89, Tryz.ntmps89
      go_wp2
      go_ret
      exact ⟨by rw [E.out]; rfl, rfl⟩
  · have E := Lib.hid (Z.out.2 (by omega))
    clear Y Z
    go_enter Tryz.func89, Tryz.ntmps89
    go_wp2
    go_ret
    exact ⟨by rw [E.out]; rfl, rfl⟩
set_option maxRecDepth 100000 in
theorem letter_any (n : Nat) (w : World) : Calls Tryz.prog 99 #[.int .u8 n] w (Says (letterN n) w) := by
  have Y := Lib.hid (@letterN_yes n)
  have Z := Lib.hid (@letterN_no n)
  by_cases h1 : 97 ≤ n
  · by_cases h2 : n ≤ 122
    · have d2 : decide ((n : Int) ≤ 122) = true := decide_eq_true (by omega)
      have E := Lib.hid (Y.out.2 ⟨h1, h2⟩)
      clear Y Z
      go_enter Tryz.func99, Tryz.ntmps99
      go_wp2
      go_ret
      exact ⟨by rw [E.out]; rfl, rfl⟩
    · have d2 : decide ((n : Int) ≤ 122) = false := decide_eq_false (by omega)
      have E := Lib.hid (Z.out.2 (by omega))
      clear Y Z
      go_enter Tryz.func99, Tryz.ntmps99
      go_wp2
      go_ret
      exact ⟨by rw [E.out]; rfl, rfl⟩
  · have E := Lib.hid (Z.out.2 (by omega))
    clear Y Z
    go_enter Tryz.func99, Tryz.ntmps99
    go_wp2
    go_ret
    exact ⟨by rw [E.out]; rfl, rfl⟩
set_option maxRecDepth 100000 in
theorem digit_any (n : Nat) (w : World) : Calls Tryz.prog 100 #[.int .u8 n] w (Says (digitN n) w) := by
  have Y := Lib.hid (@digitN_yes n)
  have Z := Lib.hid (@digitN_no n)
  by_cases h1 : 48 ≤ n
  · by_cases h2 : n ≤ 57
    · have d2 : decide ((n : Int) ≤ 57) = true := decide_eq_true (by omega)
      have E := Lib.hid (Y.out.2 ⟨h1, h2⟩)
      clear Y Z
      go_enter Tryz.func100, Tryz.ntmps100
      go_wp2
      go_ret
      exact ⟨by rw [E.out]; rfl, rfl⟩
    · have d2 : decide ((n : Int) ≤ 57) = false := decide_eq_false (by omega)
      have E := Lib.hid (Z.out.2 (by omega))
      clear Y Z
      go_enter Tryz.func100, Tryz.ntmps100
      go_wp2
      go_ret
      exact ⟨by rw [E.out]; rfl, rfl⟩
  · have E := Lib.hid (Z.out.2 (by omega))
    clear Y Z
    go_enter Tryz.func100, Tryz.ntmps100
    go_wp2
    go_ret
    exact ⟨by rw [E.out]; rfl, rfl⟩
set_option maxRecDepth 100000 in
theorem isWordPart_any (n : Nat) (w : World) : Calls Tryz.prog 88 #[.int .i32 n] w (Says (partN n) w) := by
  have L := Lib.hid (fun w' => isLetter_any n w')
  have D := Lib.hid (fun w' => isDigit_any n w')
  obtain ⟨a, ha⟩ : ∃ a, letterN n = a := ⟨_, rfl⟩
  obtain ⟨b, hb⟩ : ∃ b, digitN n = b := ⟨_, rfl⟩
  have E : Hid (partN n = (a || (b || decide (n = 95)))) := Lib.hid (by rw [← ha, ← hb]; rfl)
  rw [ha] at L
  rw [hb] at D
  clear ha hb
  by_cases h9 : n = 95
  · have E2 : Hid (decide (n = 95) = true) := Lib.hid (decide_eq_true h9)
    have h9' : ((n : Int) == 95) = true := by simpa using (by omega : (n : Int) = 95)
    clear h9
    cases a <;> cases b
    all_goals
      go_enter Tryz.func88, Tryz.ntmps88
      go_wp2_with (first | (go_at_call 85; refine (L.out _).mono ?_; rintro e w' ⟨rfl, rfl⟩) | (go_at_call 89; refine (D.out _).mono ?_; rintro e w' ⟨rfl, rfl⟩))
      go_ret
      exact ⟨by rw [E.out, E2.out]; rfl, rfl⟩
  · have E2 : Hid (decide (n = 95) = false) := Lib.hid (decide_eq_false h9)
    have h9' : ((n : Int) == 95) = false := by simpa using (by omega : (n : Int) ≠ 95)
    clear h9
    cases a <;> cases b
    all_goals
      go_enter Tryz.func88, Tryz.ntmps88
      go_wp2_with (first | (go_at_call 85; refine (L.out _).mono ?_; rintro e w' ⟨rfl, rfl⟩) | (go_at_call 89; refine (D.out _).mono ?_; rintro e w' ⟨rfl, rfl⟩))
      go_ret
      exact ⟨by rw [E.out, E2.out]; rfl, rfl⟩
end Go.Proofs.YtcokplikmjegcaaGreatDoor
namespace Go.Proofs.YtcokplikmjegcaaGreatDoor
open Go.RowKit
/-- The first byte that does not belong: the rune that begins there does not belong either. -/
theorem rune_out {B : Nat → Bool} (hB : ∀ n, B n = true → n < 128) (s : ByteArray) (k : Nat) (hk : k < s.size) (h : B (s[k]).toNat = false) : B (Utf8.decode s k).1 = false := by
  rcases Nat.lt_or_ge s[k].toNat 128 with ha | ha
  · rw [decode_ascii s k hk ha]; exact h
  · have := (decode_high s k hk ha).1
    cases e : B (Utf8.decode s k).1 with
    | false => rfl
    | true => have := hB _ e; omega
set_option maxRecDepth 100000 in
set_option maxHeartbeats 1000000 in
theorem prefix_any (F : FuncId) (B : Nat → Bool) (hB : ∀ n, B n = true → n < 128) (eg : ∀ args w, (callFunc F args).run Tryz.prog w = .ok (.enter F args) w) (hF : ∀ (n : Nat) (w : World), Calls Tryz.prog F #[.int .i32 n] w (Says (B n) w)) (s : ByteArray) (hs : s.size ≤ 9223372036854775807) (w : World) :
    Calls Tryz.prog 87 #[.string s, .func (.func F) #[] #[]] w (Gives (.string (str (fits B s.data.toList))) w) := by
  have HB := Lib.hid hB
  have HF := Lib.hid hF
  have G : Hid (∀ v pos, v = .string (str (fits B s.data.toList)) → Gives (.string (str (fits B s.data.toList))) w (.returned v) (w.iter s pos)) := Lib.hid fun v pos h => by
    subst h; exact ⟨rfl, below_new _ _⟩
  clear hB hF
  go_enter Tryz.func87, Tryz.ntmps87
  go_wp2
  go_loopw [5] (fun _ wr => ∃ k : Nat, k ≤ s.size ∧ wr = w.iter s k ∧ Hid (k ≤ (fits B s.data.toList).length)) (fun _ w' => s.size - w'.iterPos w.heap.size)
  case atStart => exact ⟨0, by omega, rfl, Lib.hid (Nat.zero_le _)⟩
  case round =>
    obtain ⟨k, hk, rfl, hi⟩ := hrel
    by_cases hlt : k < s.size
    · obtain ⟨b, hb⟩ : ∃ b, B (s[k]).toNat = b := ⟨_, rfl⟩
      cases b with
      | true =>
        have hnx : ∀ ty, (Instr.next (.pointer (some ⟨w.heap.size, 0, none⟩)) true ty).run Tryz.prog (w.iter s k) = .ok (.tuple #[.bool true, .int .i64 k, .int .i32 s[k].toNat]) (w.iter s (k + 1)) := fun ty => by
          have := run_next_any (P := Tryz.prog) w s k ty hlt
          rw [decode_ascii s k hlt (HB.out _ hb)] at this
          exact this
        have D : Hid (∀ w', Calls Tryz.prog F #[.int .i32 s[k].toNat] w' (Says true w')) := Lib.hid (fun w' => by have := HF.out s[k].toNat w'; rw [hb] at this; exact this)
        have I : Hid (k + 1 ≤ (fits B s.data.toList).length) := Lib.hid (by
          have := hi.out
          rcases Nat.lt_or_ge k (fits B s.data.toList).length with h | h
          · exact h
          · obtain ⟨c, h1, h2⟩ := fits_end B s.data.toList (by rw [size_list]; omega)
            have e : (fits B s.data.toList).length = k := by omega
            rw [e, at_list s k hlt] at h1
            injection h1 with h1
            rw [← h1, hb] at h2; cases h2)
        clear hi hb
        generalize s[k].toNat = r at *
        go_wp2_with fail
        refine (D.out _).mono ?_
        rintro e w' ⟨rfl, rfl⟩
        go_wp2
        go_roundw
        case rel => exact ⟨k + 1, by omega, rfl, I⟩
        case measure => simp; omega
      | false =>
        have hnx : ∀ ty, (Instr.next (.pointer (some ⟨w.heap.size, 0, none⟩)) true ty).run Tryz.prog (w.iter s k) = _ := fun ty => run_next_any w s k ty hlt
        have ho := rune_out HB.out s k hlt hb
        have D : Hid (∀ w', Calls Tryz.prog F #[.int .i32 (Utf8.decode s k).1] w' (Says false w')) := Lib.hid (fun w' => by have := HF.out (Utf8.decode s k).1 w'; rw [ho] at this; exact this)
        have E : Hid (Value.string (s.extract 0 k) = .string (str (fits B s.data.toList))) := Lib.hid (by
          have e : (fits B s.data.toList).length = k := fits_eq hi.out fun _ => ⟨s[k], at_list s k hlt, hb⟩
          rw [str_take, ← fits_take B, e])
        clear hi hb ho
        generalize (Utf8.decode s k).1 = r at *
        generalize k + (Utf8.decode s k).2 = p at *
        go_wp2_with fail
        refine (D.out _).mono ?_
        rintro e w' ⟨rfl, rfl⟩
        go_wp2
        go_ret
        exact G.out _ _ E.out
    · obtain rfl : k = s.size := by omega
      have hnx : ∀ ty, (Instr.next (.pointer (some ⟨w.heap.size, 0, none⟩)) true ty).run Tryz.prog (w.iter s s.size) = _ := fun ty => run_next_end w s s.size ty hlt
      have E : Hid (Value.string s = .string (str (fits B s.data.toList))) := Lib.hid (by
        have h1 := fits_le B s.data.toList
        have h2 := hi.out
        rw [size_list] at h1
        have h3 := fits_take B s.data.toList
        rw [List.take_of_length_le (by rw [size_list]; exact h2)] at h3
        rw [← h3, str_self])
      clear hi
      go_wp2
      go_ret
      exact G.out _ _ E.out
theorem prefix_part (s : ByteArray) (hs : s.size ≤ 9223372036854775807) (w : World) :
    Calls Tryz.prog 87 #[.string s, .func (.func 88) #[] #[]] w (Gives (.string (str (fits partN s.data.toList))) w) :=
  prefix_any 88 partN (fun _ => partN_lt) (enters_of Tryz.func88 (by kernel_rfl) rfl) isWordPart_any s hs w
theorem prefix_digit (s : ByteArray) (hs : s.size ≤ 9223372036854775807) (w : World) :
    Calls Tryz.prog 87 #[.string s, .func (.func 89) #[] #[]] w (Gives (.string (str (fits digitN s.data.toList))) w) :=
  prefix_any 89 digitN (fun _ => digitN_lt) (enters_of Tryz.func89 (by kernel_rfl) rfl) isDigit_any s hs w
end Go.Proofs.YtcokplikmjegcaaGreatDoor
namespace Go.Proofs.YtcokplikmjegcaaGreatDoor
open Go.RowKit
set_option maxRecDepth 100000 in
set_option maxHeartbeats 1000000 in
theorem word_any (s : ByteArray) (hs : s.size ≤ 9223372036854775807) (w : World) :
    Calls Tryz.prog 86 #[.string s] w (GivesTk (if 12 < s.data.toList.length then (.zero, 3) else (⟨1, s.data.toList, 0, 0⟩, 0)) w) := by
  rw [size_list]
  by_cases h : 12 < s.size
  · rw [if_pos h]
    go_enter Tryz.func86, Tryz.ntmps86
    go_wp2
    exact bodyPost_ret (v := .tuple #[.agg #[.int .i64 0, .string ⟨#[]⟩, .int .i64 0, .int .i64 0], .int .i64 3]) (by simp [results, Tryz.results86, go_sem]) rfl ⟨rfl, below_new _ _⟩
  · rw [if_neg h]
    have E := Lib.hid (str_self s)
    go_enter Tryz.func86, Tryz.ntmps86
    go_wp2
    exact bodyPost_ret (v := .tuple #[.agg #[.int .i64 1, .string s, .int .i64 0, .int .i64 0], .int .i64 0]) (by simp [results, Tryz.results86, go_sem]) rfl ⟨by unfold aggT; rw [E.out], below_new _ _⟩
/-- What number answers. -/
def numT (l : List UInt8) : Tk × Int :=
  if (l.head?.map UInt8.toNat = some 48) ∧ 1 < l.length then (.zero, 2)
  else if 9 < l.length then (.zero, 4)
  else (⟨2, l, (numV l : Nat), 0⟩, 0)
set_option maxRecDepth 100000 in
set_option maxHeartbeats 1000000 in
theorem number_any (s : ByteArray) (h0 : 0 < s.size) (hs : s.size ≤ 9223372036854775807) (hd : ∀ (j : Nat) (hj : j < s.size), digitN (s[j]).toNat = true) (w : World) :
    Calls Tryz.prog 90 #[.string s] w (GivesTk (numT s.data.toList) w) := by
  have hl := size_list s
  have e0 : s.data.toList.head?.map UInt8.toNat = some (s[0]).toNat := by rw [List.head?_eq_getElem?, at_list s 0 h0]; rfl
  have HD := Lib.hid hd
  clear hd
  by_cases hz : (s[0]).toNat = 48 ∧ 1 < s.size
  · have E : Hid (numT s.data.toList = (.zero, 2)) := Lib.hid (if_pos ⟨by rw [e0, hz.1], by omega⟩)
    obtain ⟨hz1, hz2⟩ := hz
    have hb : (((s[0]).toNat : Int) == 48) = true := by rw [hz1]; rfl
    clear e0 hl hz1
    rw [E.out]
    go_enter Tryz.func90, Tryz.ntmps90
    go_wp2
    exact bodyPost_ret (v := .tuple #[.agg #[.int .i64 0, .string ⟨#[]⟩, .int .i64 0, .int .i64 0], .int .i64 2]) (by simp [results, Tryz.results90, go_sem]) rfl ⟨rfl, below_new _ _⟩
  · have hz' : ¬ (s.data.toList.head?.map UInt8.toNat = some 48 ∧ 1 < s.data.toList.length) := by
      rw [e0, hl]; rintro ⟨a, b⟩; exact hz ⟨by injection a, b⟩
    by_cases h9 : 9 < s.size
    · have E : Hid (numT s.data.toList = (.zero, 4)) := Lib.hid (by unfold numT; rw [if_neg hz', if_pos (by omega)])
      have hb : (((s[0]).toNat : Int) == 48) = false := beq_eq_false_iff_ne.2 (by omega)
      clear e0 hl hz hz'
      rw [E.out]
      go_enter Tryz.func90, Tryz.ntmps90
      go_wp2
      exact bodyPost_ret (v := .tuple #[.agg #[.int .i64 0, .string ⟨#[]⟩, .int .i64 0, .int .i64 0], .int .i64 4]) (by simp [results, Tryz.results90, go_sem]) rfl ⟨rfl, below_new _ _⟩
    · have E : Hid (numT s.data.toList = (⟨2, s.data.toList, (numV s.data.toList : Nat), 0⟩, 0)) := Lib.hid (by unfold numT; rw [if_neg hz', if_neg (by omega)])
      have E2 := Lib.hid (str_self s)
      rw [E.out]
      clear e0 hz'
      have HL := Lib.hid hl
      clear hl E
      by_cases hb0 : (s[0]).toNat = 48
      all_goals
        first
          | (have hb : (((s[0]).toNat : Int) == 48) = true := by rw [hb0]; rfl)
          | (have hb : (((s[0]).toNat : Int) == 48) = false := beq_eq_false_iff_ne.2 (by omega))
        have h1 : (s[0]).toNat = 48 → ¬ 1 < s.size := fun a b => hz ⟨a, b⟩
        first
          | (have h1' := h1 hb0; clear h1 hz hb0)
          | (clear h1 hz hb0)
        go_enter Tryz.func90, Tryz.ntmps90
        go_wp2
        go_loopw [4] (fun v wr => ∃ k : Nat, k ≤ s.size ∧ wr = (w.alloc (.cells #[.int .i64 0, .string ⟨#[]⟩, .int .i64 0, .int .i64 0] 97)).iter s k ∧ v = .int .i64 (numV (s.data.toList.take k) : Nat)) (fun _ w' => s.size - w'.iterPos (w.heap.size + 1))
        case atStart => exact ⟨0, by omega, rfl, rfl⟩
        case round =>
          obtain ⟨k, hk, rfl, rfl⟩ := hrel
          by_cases hlt : k < s.size
          · have hdk := HD.out k hlt
            have hnx : ∀ ty, (Instr.next (.pointer (some ⟨w.heap.size + 1, 0, none⟩)) true ty).run Tryz.prog ((w.alloc (.cells #[.int .i64 0, .string ⟨#[]⟩, .int .i64 0, .int .i64 0] 97)).iter s k) = .ok (.tuple #[.bool true, .int .i64 k, .int .i32 s[k].toNat]) ((w.alloc (.cells #[.int .i64 0, .string ⟨#[]⟩, .int .i64 0, .int .i64 0] 97)).iter s (k + 1)) := fun ty => by
              have := run_next_any (P := Tryz.prog) (w.alloc (.cells #[.int .i64 0, .string ⟨#[]⟩, .int .i64 0, .int .i64 0] 97)) s k ty hlt
              rw [decode_ascii s k hlt (digitN_lt hdk), show (w.alloc (.cells #[.int .i64 0, .string ⟨#[]⟩, .int .i64 0, .int .i64 0] 97)).heap.size = w.heap.size + 1 by simp] at this
              exact this
            obtain ⟨d0, d1⟩ := digitN_yes.1 hdk
            have hy : numV (s.data.toList.take k) < 25600000000 := by
              have h1 := numV_lt (s.data.toList.take k)
              have h2 : 256 * (10 : Nat) ^ (s.data.toList.take k).length ≤ 256 * 10 ^ 8 := Nat.mul_le_mul_left _ (Nat.pow_le_pow_right (by decide) (by rw [List.length_take]; omega))
              exact Nat.lt_of_lt_of_le h1 h2
            have V : Hid (numV (s.data.toList.take (k + 1)) = numV (s.data.toList.take k) * 10 + ((s[k]).toNat - 48)) := Lib.hid (by
              rw [List.take_succ_eq_append_getElem (by rw [size_list]; exact hlt), numV_snoc]; rfl)
            clear hdk
            generalize numV (s.data.toList.take k) = y at *
            generalize s[k].toNat = r at *
            go_wp2
            go_roundw
            case rel => exact ⟨k + 1, by omega, rfl, by rw [V.out]; go_num⟩
            case measure => rw [iter_pos, iter_pos]; omega
          · obtain rfl : k = s.size := by omega
            have hnx : ∀ ty, (Instr.next (.pointer (some ⟨w.heap.size + 1, 0, none⟩)) true ty).run Tryz.prog ((w.alloc (.cells #[.int .i64 0, .string ⟨#[]⟩, .int .i64 0, .int .i64 0] 97)).iter s s.size) = .ok (.tuple #[.bool false]) ((w.alloc (.cells #[.int .i64 0, .string ⟨#[]⟩, .int .i64 0, .int .i64 0] 97)).iter s s.size) := fun ty => by
              have := run_next_end (P := Tryz.prog) (w.alloc (.cells #[.int .i64 0, .string ⟨#[]⟩, .int .i64 0, .int .i64 0] 97)) s s.size ty hlt
              rw [show (w.alloc (.cells #[.int .i64 0, .string ⟨#[]⟩, .int .i64 0, .int .i64 0] 97)).heap.size = w.heap.size + 1 by simp] at this
              exact this
            have V : Hid (s.data.toList.take s.size = s.data.toList) := Lib.hid (List.take_of_length_le (by rw [size_list]; exact Nat.le_refl _))
            rw [V.out]
            generalize numV s.data.toList = y at *
            clear V
            have hbk := ((TB.new w 97 (.int .i64 0) (.string ⟨#[]⟩) (.int .i64 0) (.int .i64 0)).keep (below_iter (w.alloc (.cells #[.int .i64 0, .string ⟨#[]⟩, .int .i64 0, .int .i64 0] 97)) s s.size))
            have B1 := Lib.hid ((below_new w (.cells #[.int .i64 0, .string ⟨#[]⟩, .int .i64 0, .int .i64 0] 97)).trans ((below_iter (w.alloc (.cells #[.int .i64 0, .string ⟨#[]⟩, .int .i64 0, .int .i64 0] 97)) s s.size).mono (below_new w (.cells #[.int .i64 0, .string ⟨#[]⟩, .int .i64 0, .int .i64 0] 97)).size))
            obtain ⟨c0, c1, c2, c3⟩ := hbk.cells
            obtain ⟨f0, f1, f2, f3⟩ := hbk.free
            clear hbk
            go_wp2
            exact bodyPost_ret (v := .tuple #[.agg #[.int .i64 2, .string s, .int .i64 y, .int .i64 0], .int .i64 0]) (by simp [results, Tryz.results90, go_sem, c0, c1, c2, c3]) rfl ⟨by unfold aggT; rw [E2.out], (((B1.out.setCell (by simp) _).setCell (by simp) _).setCell (by simp) _).setCell (by simp) _⟩
end Go.Proofs.YtcokplikmjegcaaGreatDoor
namespace Go.Proofs.YtcokplikmjegcaaGreatDoor
open Go.RowKit
set_option maxRecDepth 100000 in
set_option maxHeartbeats 1000000 in
theorem isMark_yes (n : Nat) (h : markN n = true) (w : World) : Calls Tryz.prog 91 #[.int .i32 n] w (Says true w) := by
  rcases markN_yes.1 h with rfl | rfl | rfl | rfl | rfl | rfl | rfl | rfl | rfl | rfl
  all_goals
    clear h
    go_enter Tryz.func91, Tryz.ntmps91
    go_wp2
    go_ret
    exact ⟨rfl, rfl⟩
set_option maxRecDepth 100000 in
set_option maxHeartbeats 1000000 in
theorem isMark_no (n : Nat) (h : markN n = false) (w : World) : Calls Tryz.prog 91 #[.int .i32 n] w (Says false w) := by
  have hn : ¬ (n = 123 ∨ n = 125 ∨ n = 40 ∨ n = 41 ∨ n = 58 ∨ n = 44 ∨ n = 64 ∨ n = 43 ∨ n = 45 ∨ n = 61) := fun h' => by rw [markN_yes.2 h'] at h; cases h
  have f1 : ((n : Int) == 123) = false := beq_eq_false_iff_ne.2 (by omega)
  have f2 : ((n : Int) == 125) = false := beq_eq_false_iff_ne.2 (by omega)
  have f3 : ((n : Int) == 40) = false := beq_eq_false_iff_ne.2 (by omega)
  have f4 : ((n : Int) == 41) = false := beq_eq_false_iff_ne.2 (by omega)
  have f5 : ((n : Int) == 58) = false := beq_eq_false_iff_ne.2 (by omega)
  have f6 : ((n : Int) == 44) = false := beq_eq_false_iff_ne.2 (by omega)
  have f7 : ((n : Int) == 64) = false := beq_eq_false_iff_ne.2 (by omega)
  have f8 : ((n : Int) == 43) = false := beq_eq_false_iff_ne.2 (by omega)
  have f9 : ((n : Int) == 45) = false := beq_eq_false_iff_ne.2 (by omega)
  have f10 : ((n : Int) == 61) = false := beq_eq_false_iff_ne.2 (by omega)
  clear hn h
  go_enter Tryz.func91, Tryz.ntmps91
  go_wp2
  go_ret
  exact ⟨rfl, rfl⟩
theorem isMark_any (n : Nat) (w : World) : Calls Tryz.prog 91 #[.int .i32 n] w (Says (markN n) w) := by
  cases h : markN n with
  | true => exact isMark_yes n h w
  | false => exact isMark_no n h w
def marksB : ByteArray := ⟨#[123, 125, 40, 41, 58, 44, 64, 43, 45, 61]⟩
theorem marksB_size : marksB.size = 10 := rfl
theorem marks_at (k : Nat) (h : k < marksB.size) : markN (marksB[k]).toNat = true := by
  have : k < 10 := h
  match k, this with
  | 0, _ => rfl
  | 1, _ => rfl
  | 2, _ => rfl
  | 3, _ => rfl
  | 4, _ => rfl
  | 5, _ => rfl
  | 6, _ => rfl
  | 7, _ => rfl
  | 8, _ => rfl
  | 9, _ => rfl
theorem marks_all (n : Nat) (h : ∀ k (hk : k < marksB.size), (marksB[k]).toNat ≠ n) : markN n = false := by
  cases e : markN n with
  | false => rfl
  | true =>
    exfalso
    rcases markN_yes.1 e with rfl | rfl | rfl | rfl | rfl | rfl | rfl | rfl | rfl | rfl
    · exact h 0 (by decide) rfl
    · exact h 1 (by decide) rfl
    · exact h 2 (by decide) rfl
    · exact h 3 (by decide) rfl
    · exact h 4 (by decide) rfl
    · exact h 5 (by decide) rfl
    · exact h 6 (by decide) rfl
    · exact h 7 (by decide) rfl
    · exact h 8 (by decide) rfl
    · exact h 9 (by decide) rfl
set_option maxRecDepth 100000 in
set_option maxHeartbeats 1000000 in
theorem mark_any (n : Nat) (w : World) : Calls Tryz.prog 101 #[.int .u8 n] w (Says (markN n) w) := by
  obtain ⟨m, hm⟩ : ∃ m, m = marksB := ⟨_, rfl⟩
  have ALL : Hid ((∀ k (hk : k < m.size), (m[k]).toNat ≠ n) → markN n = false) := Lib.hid (by rw [hm]; exact marks_all n)
  have AT : Hid (∀ k (h : k < m.size), markN (m[k]).toNat = true) := Lib.hid (by rw [hm]; exact marks_at)
  have hsz : m.size ≤ 10 := by rw [hm]; exact Nat.le_of_eq marksB_size
  have HM := Lib.hid hm
  clear hm
  go_enter Tryz.func101, Tryz.ntmps101
  go_wp2
  rw [show (⟨#[123, 125, 40, 41, 58, 44, 64, 43, 45, 61]⟩ : ByteArray) = m from HM.out.symm]
  clear HM
  go_loop [4] (fun i => ∃ k : Nat, k ≤ m.size ∧ i = .int .i64 k ∧ Hid (∀ j (hj : j < m.size), j < k → (m[j]).toNat ≠ n)) (fun i => m.size - (intOf i).toNat)
  case atStart => exact ⟨0, by omega, rfl, Lib.hid fun j hj h => by omega⟩
  case round =>
    obtain ⟨k, hk, rfl, hi⟩ := hrel
    by_cases hlt : k < m.size
    · by_cases he : (m[k]).toNat = n
      · have E : Hid (markN n = true) := Lib.hid (by rw [← he]; exact AT.out k hlt)
        have hb : (((m[k]).toNat : Int) == (n : Int)) = true := by rw [he]; simp
        clear ALL AT hi he
        go_wp2
        go_ret
        exact ⟨by rw [E.out]; rfl, rfl⟩
      · have hb : (((m[k]).toNat : Int) == (n : Int)) = false := beq_eq_false_iff_ne.2 (by omega)
        have I : Hid (∀ j (hj : j < m.size), j < k + 1 → (m[j]).toNat ≠ n) := Lib.hid fun j hj hlt' => by
          rcases Nat.lt_or_ge j k with h | h
          · exact hi.out j hj h
          · have : j = k := by omega
            subst this; exact he
        clear hi he
        go_wp2
        go_round
        case rel => exact ⟨k + 1, by omega, by go_num, I⟩
        case measure => simp [intOf]; omega
    · have E : Hid (markN n = false) := Lib.hid (ALL.out fun j hj => hi.out j hj (by omega))
      clear ALL AT hi
      go_wp2
      go_ret
      exact ⟨by rw [E.out]; rfl, rfl⟩
end Go.Proofs.YtcokplikmjegcaaGreatDoor
namespace Go.Proofs.YtcokplikmjegcaaGreatDoor
open Go.RowKit
theorem list_head (s : ByteArray) (h : 0 < s.size) : s.data.toList = s[0] :: s.data.toList.drop 1 := by
  have := List.drop_eq_getElem_cons (l := s.data.toList) (i := 0) (by rw [size_list]; exact h)
  rw [List.drop_zero] at this
  exact this
theorem one_letter (s : ByteArray) (h : 0 < s.size) (hl : letterN (s[0]).toNat = true) : oneT s.data.toList = if 12 < (fits partN s.data.toList).length then (.zero, 3) else (⟨1, fits partN s.data.toList, 0, 0⟩, 0) := by
  rw [list_head s h, oneT_cons, if_pos hl]
theorem one_digit (s : ByteArray) (h : 0 < s.size) (hl : letterN (s[0]).toNat = false) (hd : digitN (s[0]).toNat = true) : oneT s.data.toList = numT (fits digitN s.data.toList) := by
  rw [list_head s h, oneT_cons, if_neg (by rw [hl]; decide), if_pos hd, fits_cons hd]
  unfold numT
  simp only [List.head?_cons, Option.map_some, Option.some.injEq]
theorem one_mark (s : ByteArray) (h : 0 < s.size) (hl : letterN (s[0]).toNat = false) (hd : digitN (s[0]).toNat = false) (hm : markN (s[0]).toNat = true) : oneT s.data.toList = (⟨3, s.data.toList.take 1, 0, 0⟩, 0) := by
  rw [list_head s h, oneT_cons, if_neg (by rw [hl]; decide), if_neg (by rw [hd]; decide), if_pos hm]
  rfl
theorem one_none (s : ByteArray) (h : 0 < s.size) (hl : letterN (s[0]).toNat = false) (hd : digitN (s[0]).toNat = false) (hm : markN (s[0]).toNat = false) : oneT s.data.toList = (.zero, 2) := by
  rw [list_head s h, oneT_cons, if_neg (by rw [hl]; decide), if_neg (by rw [hd]; decide), if_neg (by rw [hm]; decide)]
theorem digits_all (l : List UInt8) (j : Nat) (hj : j < (str (fits digitN l)).size) : digitN ((str (fits digitN l))[j]).toNat = true := by
  obtain ⟨c, h1, h2⟩ := fits_in digitN l j (by rw [str_size] at hj; exact hj)
  have e := at_list (str (fits digitN l)) j hj
  have e' : (fits digitN l)[j]? = l[j]? := by
    conv => lhs; rw [← fits_take digitN l]
    exact List.getElem?_take_of_lt (by rw [str_size] at hj; exact hj)
  rw [str_data, e', h1] at e
  injection e with e
  rw [← e]; exact h2
set_option maxRecDepth 100000 in
set_option maxHeartbeats 2000000 in
theorem first_any (s : ByteArray) (h0 : 0 < s.size) (hs : s.size ≤ 9223372036854775807) (w : World) :
    Calls Tryz.prog 56 #[.string s] w (GivesTk (oneT s.data.toList) w) := by
  have hr := (s[0]).toNat_lt
  have LE := Lib.hid (fun B => Nat.le_trans (fits_le B s.data.toList) (Nat.le_of_eq (size_list s)))
  have L := Lib.hid (fun w' => isLetter_any (s[0]).toNat w')
  have D := Lib.hid (fun w' => isDigit_any (s[0]).toNat w')
  have M := Lib.hid (fun w' => isMark_any (s[0]).toNat w')
  have hb0 := TB.new w 97 (.int .i64 0) (.string ⟨#[]⟩) (.int .i64 0) (.int .i64 0)
  have B0 := Lib.hid (below_new w (.cells #[.int .i64 0, .string ⟨#[]⟩, .int .i64 0, .int .i64 0] 97))
  have H0 := Lib.hid hb0
  clear hb0
  cases hl : letterN (s[0]).toNat with
  | true =>
    rw [hl] at L
    have PW := Lib.hid (fun w' => prefix_part s hs w')
    have WD : Hid (∀ w', Calls Tryz.prog 86 #[.string (str (fits partN s.data.toList))] w' (GivesTk (oneT s.data.toList) w')) := Lib.hid fun w' => by
      have := word_any (str (fits partN s.data.toList)) (by rw [str_size]; have := LE.out partN; omega) w'
      rw [str_data, ← one_letter s h0 hl] at this
      exact this
    clear D M LE hl
    generalize oneT s.data.toList = T at *
    generalize str (fits partN s.data.toList) = x at *
    obtain ⟨⟨k, t, v, a⟩, er⟩ := T
    go_enter Tryz.func56, Tryz.ntmps56
    go_wp2_with fail
    (with_reducible refine (L.out _).mono ?_)
    rintro e w' ⟨rfl, rfl⟩
    go_wp2_with fail
    (with_reducible refine (PW.out _).mono ?_)
    rintro e w1 ⟨rfl, hb⟩
    have H1 := Lib.hid (H0.out.keep hb)
    have B1 := Lib.hid (B0.out.trans (hb.mono B0.out.size))
    clear hb H0 B0
    go_wp2_with fail
    (with_reducible refine (WD.out _).mono ?_)
    rintro e w2 ⟨rfl, hb⟩
    have B2 := Lib.hid (B1.out.trans (hb.mono B1.out.size))
    obtain ⟨c0, c1, c2, c3⟩ := (H1.out.keep hb).cells
    obtain ⟨f0, f1, f2, f3⟩ := (H1.out.keep hb).free
    clear hb H1 B1
    unfold aggT
    go_wp2
    exact bodyPost_ret (v := .tuple #[.agg #[.int .i64 k, .string (str t), .int .i64 v, .int .i64 a], .int .i64 er]) (by simp [results, Tryz.results56, go_sem, c0, c1, c2, c3]) rfl ⟨rfl, (((B2.out.setCell (by simp) _).setCell (by simp) _).setCell (by simp) _).setCell (by simp) _⟩
  | false =>
    rw [hl] at L
    cases hd : digitN (s[0]).toNat with
    | true =>
      rw [hd] at D
      have PW := Lib.hid (fun w' => prefix_digit s hs w')
      have WD : Hid (∀ w', Calls Tryz.prog 90 #[.string (str (fits digitN s.data.toList))] w' (GivesTk (oneT s.data.toList) w')) := Lib.hid fun w' => by
        have := number_any (str (fits digitN s.data.toList)) (by rw [str_size, list_head s h0, fits_cons hd]; simp) (by rw [str_size]; have := LE.out digitN; omega) (digits_all _) w'
        rw [str_data, ← one_digit s h0 hl hd] at this
        exact this
      clear M LE hl hd
      generalize oneT s.data.toList = T at *
      generalize str (fits digitN s.data.toList) = x at *
      obtain ⟨⟨k, t, v, a⟩, er⟩ := T
      go_enter Tryz.func56, Tryz.ntmps56
      go_wp2_with fail
      (with_reducible refine (L.out _).mono ?_)
      rintro e w' ⟨rfl, rfl⟩
      go_wp2_with fail
      (with_reducible refine (D.out _).mono ?_)
      rintro e w' ⟨rfl, rfl⟩
      go_wp2_with fail
      (with_reducible refine (PW.out _).mono ?_)
      rintro e w1 ⟨rfl, hb⟩
      have H1 := Lib.hid (H0.out.keep hb)
      have B1 := Lib.hid (B0.out.trans (hb.mono B0.out.size))
      clear hb H0 B0
      go_wp2_with fail
      (with_reducible refine (WD.out _).mono ?_)
      rintro e w2 ⟨rfl, hb⟩
      have B2 := Lib.hid (B1.out.trans (hb.mono B1.out.size))
      obtain ⟨c0, c1, c2, c3⟩ := (H1.out.keep hb).cells
      obtain ⟨f0, f1, f2, f3⟩ := (H1.out.keep hb).free
      clear hb H1 B1
      unfold aggT
      go_wp2
      exact bodyPost_ret (v := .tuple #[.agg #[.int .i64 k, .string (str t), .int .i64 v, .int .i64 a], .int .i64 er]) (by simp [results, Tryz.results56, go_sem, c0, c1, c2, c3]) rfl ⟨rfl, (((B2.out.setCell (by simp) _).setCell (by simp) _).setCell (by simp) _).setCell (by simp) _⟩
    | false =>
      rw [hd] at D
      cases hm : markN (s[0]).toNat with
      | true =>
        rw [hm] at M
        have E := Lib.hid (one_mark s h0 hl hd hm)
        have E2 := Lib.hid (str_take s 1)
        clear LE hl hd hm H0
        rw [E.out]
        clear E
        go_enter Tryz.func56, Tryz.ntmps56
        go_wp2_with fail
        (with_reducible refine (L.out _).mono ?_)
        rintro e w' ⟨rfl, rfl⟩
        go_wp2_with fail
        (with_reducible refine (D.out _).mono ?_)
        rintro e w' ⟨rfl, rfl⟩
        go_wp2_with fail
        (with_reducible refine (M.out _).mono ?_)
        rintro e w' ⟨rfl, rfl⟩
        go_wp2
        exact bodyPost_ret (v := .tuple #[.agg #[.int .i64 3, .string (s.extract 0 1), .int .i64 0, .int .i64 0], .int .i64 0]) (by simp [results, Tryz.results56, go_sem]) rfl ⟨by rw [E2.out]; rfl, below_new _ _⟩
      | false =>
        rw [hm] at M
        have E := Lib.hid (one_none s h0 hl hd hm)
        clear LE hl hd hm H0
        rw [E.out]
        clear E
        go_enter Tryz.func56, Tryz.ntmps56
        go_wp2_with fail
        (with_reducible refine (L.out _).mono ?_)
        rintro e w' ⟨rfl, rfl⟩
        go_wp2_with fail
        (with_reducible refine (D.out _).mono ?_)
        rintro e w' ⟨rfl, rfl⟩
        go_wp2_with fail
        (with_reducible refine (M.out _).mono ?_)
        rintro e w' ⟨rfl, rfl⟩
        go_wp2
        exact bodyPost_ret (v := .tuple #[.agg #[.int .i64 0, .string ⟨#[]⟩, .int .i64 0, .int .i64 0], .int .i64 2]) (by simp [results, Tryz.results56, go_sem]) rfl ⟨rfl, below_new _ _⟩
end Go.Proofs.YtcokplikmjegcaaGreatDoor
