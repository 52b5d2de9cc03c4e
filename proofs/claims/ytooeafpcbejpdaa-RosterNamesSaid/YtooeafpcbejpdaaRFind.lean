/- Find of both: no claim of its own. -/
import Derived.Test.YtooeafpcbejpdaaGBd
namespace Go.Proofs.Ytooeafpcbejpdaa
open Go.RowKit
open MR (Bd)
/-- What Find answers. -/
def fndV : Option Nat → Value
  | none => .tuple #[.int .i64 0, .bool false]
  | some k => .tuple #[.int .i64 k, .bool true]
theorem ret_fnd {o : Option Nat} {k : Nat} (h : o = some k) : Ending.returned (.tuple #[.int .i64 (k : Int), .bool true]) = .returned (fndV o) := by rw [h]; rfl
theorem ret_fnd0 {o : Option Nat} (h : o = none) : Ending.returned (.tuple #[.int .i64 0, .bool false]) = .returned (fndV o) := by rw [h]; rfl
theorem find_here {L : List Bd} {nm : List UInt8} {k : Nat} {p : Bd} (hp : L[k]? = some p) (he : p.name = nm) (hn : ∀ (j : Nat) (q : Bd), j < k → L[j]? = some q → q.name ≠ nm) : MR.findL L nm = some k := by
  subst he; exact MR.find_eq hp hn
theorem find_not {L : List Bd} {nm : List UInt8} {k : Nat} (hk : L.length ≤ k) (hn : ∀ (j : Nat) (q : Bd), j < k → L[j]? = some q → q.name ≠ nm) : MR.findL L nm = none :=
  MR.find_none fun p hp => by
    obtain ⟨j, hj, e⟩ := List.mem_iff_getElem.1 hp
    exact hn j p (by omega) (by rw [List.getElem?_eq_getElem hj, e])
theorem name_step {L : List Bd} {nm : List UInt8} {k : Nat} {p : Bd} (hp : L[k]? = some p) (he : p.name ≠ nm) (hn : ∀ (j : Nat) (q : Bd), j < k → L[j]? = some q → q.name ≠ nm) : ∀ (j : Nat) (q : Bd), j < k + 1 → L[j]? = some q → q.name ≠ nm := by
  intro j q hj hq
  rcases Nat.lt_or_ge j k with g | g
  · exact hn j q g hq
  · obtain rfl : j = k := by omega
    rw [hp] at hq; injection hq with hq; subst hq; exact he
set_option maxRecDepth 100000 in
set_option maxHeartbeats 1000000 in
theorem find_any (A : Option Addr) (n c : Nat) (L : List Bd) (nm : List UInt8) (w : World) (h : Lst bdE w A n c L) :
    Calls Try.prog 15 #[.slice A n c, .string (str nm)] w (Gives (fndV (MR.findL L nm)) w) := by
  have hn := h.few
  have hc := h.cap
  have HL := Lib.hid h.len
  have H := Lib.hid h
  clear h
  go_enter Try.func15, Try.ntmps15
  go_wp2
  go_loopw [10] (fun i wr => ∃ k : Nat, k ≤ n ∧ i = .int .i64 k ∧ Hid (∀ (j : Nat) (q : Bd), j < k → L[j]? = some q → q.name ≠ nm) ∧ Hid (Below w.heap.size w wr)) (fun i _ => n - (intOf i).toNat)
  case atStart => exact ⟨0, Nat.zero_le _, rfl, Lib.hid (fun j _ hj => absurd hj (Nat.not_lt_zero _)), Lib.hid (Below.refl _ _)⟩
  case round =>
    rename_i _ wr
    obtain ⟨k, hk, rfl, HN, HB⟩ := hrel
    by_cases hlt : k < n
    · obtain ⟨ad, p, rfl, q1, hfi, hbk, x0, x1, x2, x3⟩ := bd_at (H.out.keep HB.out) hlt
      have B1 := Lib.hid (HB.out.trans ((below_new wr (.cells #[.string (str p.name), .int .i64 p.cls, .int .i64 p.budget, .int .i64 p.points] 50)).mono HB.out.size))
      by_cases hq : p.name = nm
      · have ht : ((str p.name).toList == (str nm).toList) = true := test_yes (by rw [str_data, str_data, hq])
        have G := Lib.hid (ret_fnd (find_here q1 hq HN.out))
        clear hq q1 HN HB hbk hfi
        obtain ⟨pn, ps, pr, pp⟩ := p
        simp only at *
        generalize str pn = s at *
        generalize str nm = m at *
        go_wp2
        exact bodyPost_ret (v := .tuple #[.int .i64 (k : Int), .bool true]) (by simp [results, Try.results15, go_sem]) rfl ⟨G.out, B1.out⟩
      · have ht : ((str p.name).toList == (str nm).toList) = false := test_no (by rw [str_data, str_data]; exact hq)
        have G := Lib.hid (name_step q1 hq HN.out)
        clear hq q1 HN HB hbk hfi
        obtain ⟨pn, ps, pr, pp⟩ := p
        simp only at *
        generalize str pn = s at *
        generalize str nm = m at *
        go_wp2
        go_roundw
        case rel => exact ⟨k + 1, by omega, by go_num, G, B1⟩
        case measure => simp [intOf]; omega
    · have G := Lib.hid (ret_fnd0 (find_not (by rw [HL.out]; omega) HN.out))
      go_wp2
      exact bodyPost_ret (v := .tuple #[.int .i64 0, .bool false]) (by simp [results, Try.results15, go_sem]) rfl ⟨G.out, HB.out⟩
set_option maxRecDepth 100000 in
set_option maxHeartbeats 1000000 in
theorem rfind_any (A : Option Addr) (n c : Nat) (L : List Bd) (nm : List UInt8) (w : World) (h : Lst bdE w A n c L) :
    Calls Try.prog 16 #[.slice A n c, .string (str nm)] w (Gives (fndV (MR.findL L nm)) w) := by
  have hn := h.few
  have hc := h.cap
  have HL := Lib.hid h.len
  have H := Lib.hid h
  clear h
  go_enter Try.func16, Try.ntmps16
  go_wp2
  go_loop [6] (fun i => ∃ k : Nat, k ≤ n ∧ i = .int .i64 k ∧ Hid (∀ (j : Nat) (q : Bd), j < k → L[j]? = some q → q.name ≠ nm)) (fun i => n - (intOf i).toNat)
  case atStart => exact ⟨0, Nat.zero_le _, rfl, Lib.hid (fun j _ hj => absurd hj (Nat.not_lt_zero _))⟩
  case round =>
    obtain ⟨k, hk, rfl, HN⟩ := hrel
    by_cases hlt : k < n
    · obtain ⟨ad, p, rfl, q1, hfi, hbk, x0, x1, x2, x3⟩ := bd_at H.out hlt
      by_cases hq : p.name = nm
      · have ht : ((str p.name).toList == (str nm).toList) = true := test_yes (by rw [str_data, str_data, hq])
        have G := Lib.hid (ret_fnd (find_here q1 hq HN.out))
        clear hq q1 HN hbk hfi
        obtain ⟨pn, ps, pr, pp⟩ := p
        simp only at *
        generalize str pn = s at *
        generalize str nm = m at *
        go_wp2
        exact bodyPost_ret (v := .tuple #[.int .i64 (k : Int), .bool true]) (by simp [results, Try.results16, go_sem]) rfl ⟨G.out, Below.refl _ _⟩
      · have ht : ((str p.name).toList == (str nm).toList) = false := test_no (by rw [str_data, str_data]; exact hq)
        have G := Lib.hid (name_step q1 hq HN.out)
        clear hq q1 HN hbk hfi
        obtain ⟨pn, ps, pr, pp⟩ := p
        simp only at *
        generalize str pn = s at *
        generalize str nm = m at *
        go_wp2
        go_round
        case rel => exact ⟨k + 1, by omega, by go_num, G⟩
        case measure => simp [intOf]; omega
    · have G := Lib.hid (ret_fnd0 (find_not (by rw [HL.out]; omega) HN.out))
      go_wp2
      exact bodyPost_ret (v := .tuple #[.int .i64 0, .bool false]) (by simp [results, Try.results16, go_sem]) rfl ⟨G.out, Below.refl _ _⟩
end Go.Proofs.Ytooeafpcbejpdaa
