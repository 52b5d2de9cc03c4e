/- checkBidder: no claim of its own. -/
import Derived.Test.YtooeafpcbejpdaaRFind
import Derived.Test.YtooeafpcbejpdaaMathR2
import Derived.Test.YtooeafpcbejpdaaLName
namespace Go.Proofs.Ytooeafpcbejpdaa
open Go.RowKit
open MR (Bd)
theorem ret_int {k : IntKind} {a b : Int} (h : a = b) : Ending.returned (.int k a) = .returned (.int k b) := by rw [h]
theorem fnd_seen {l : List Bd} {k : Nat} {m : List UInt8} (h : m ∈ MR.names l k) : ∃ j : Nat, fndV (MR.findL (l.take k) m) = .tuple #[.int .i64 (j : Int), .bool true] := by
  cases e : MR.findL (l.take k) m with
  | none => exact absurd h (MR.find_names.1 e)
  | some j => exact ⟨j, rfl⟩
theorem fnd_new {l : List Bd} {k : Nat} {m : List UInt8} (h : m ∉ MR.names l k) : fndV (MR.findL (l.take k) m) = .tuple #[.int .i64 0, .bool false] := by
  rw [MR.find_names.2 h]; rfl
set_option maxRecDepth 100000 in
set_option maxHeartbeats 4000000 in
theorem checkBidder_any (A : Option Addr) (n c k : Nat) (L : List Bd) (p : Bd) (hk : k ≤ n) (hf : p.name.length ≤ 9223372036854775807) (w : World) (h : Lst bdE w A n c L) :
    Calls Try.prog 27 #[agg_bd p, .slice A k c] w (Gives (.int .i64 (MR.bdE (MR.names L k) p)) w) := by
  have NA := Lib.hid (fun w' => isName_any (str p.name) (by rw [str_size]; exact hf) w')
  have FA := Lib.hid (fun w' (hb : Below w.heap.size w w') => find_any A k c (L.take k) p.name w' ((h.keep hb).take hk))
  clear h hf
  have HB := Lib.hid (below_new w (.cells #[.string (str p.name), .int .i64 p.cls, .int .i64 p.budget, .int .i64 p.points] 50))
  unfold agg_bd
  cases hn : nameB p.name with
  | false =>
    have G := Lib.hid (ret_int (k := .i64) (MR.bdE_name (seen := MR.names L k) hn).symm)
    rw [str_data, hn] at NA
    clear hn FA
    obtain ⟨pn, ps, pr, pp⟩ := p
    simp only at *
    go_enter Try.func27, Try.ntmps27
    go_wp2_with fail
    refine (NA.out _).mono ?_
    rintro e w1 ⟨rfl, hb⟩
    have B1 := Lib.hid (HB.out.trans (hb.mono HB.out.size))
    clear hb
    go_wp2
    go_ret
    exact ⟨G.out, B1.out⟩
  | true =>
    rw [str_data, hn] at NA
    by_cases hs : p.name ∈ MR.names L k
    · have G := Lib.hid (ret_int (k := .i64) (MR.bdE_seen hn hs).symm)
      obtain ⟨j, hj⟩ := fnd_seen hs
      have HJ := Lib.hid hj
      clear hn hs hj
      obtain ⟨pn, ps, pr, pp⟩ := p
      simp only at *
      go_enter Try.func27, Try.ntmps27
      go_wp2_with fail
      refine (NA.out _).mono ?_
      rintro e w1 ⟨rfl, hb⟩
      have B1 := Lib.hid (HB.out.trans (hb.mono HB.out.size))
      have y0 : w1.cell? ⟨w.heap.size, 0, none⟩ = some (.string (str pn)) := by
        rw [hb.cell (by show _ < (w.alloc _).heap.size; simp)]; rw [cell_of_row _ _ _ _ _ _ (heap_new w _)]; rfl
      clear hb
      go_wp2_with fail
      refine (FA.out _ B1.out).mono ?_
      rw [HJ.out]
      rintro e w2 ⟨rfl, hb⟩
      have B2 := Lib.hid (B1.out.trans (hb.mono B1.out.size))
      clear hb B1
      go_wp2
      go_ret
      exact ⟨G.out, B2.out⟩
    · have hj := fnd_new hs
      have HJ := Lib.hid hj
      by_cases ho : p.ok
      · have G := Lib.hid (ret_int (k := .i64) (MR.bdE_ok hn hs ho).symm)
        obtain ⟨⟨o1, o2⟩, ⟨o3, o4⟩, o5, o6⟩ := ho
        clear hn hs hj
        obtain ⟨pn, ps, pr, pp⟩ := p
        simp only at *
        have d1 : decide (ps < 0) = false := decide_eq_false (by omega)
        have d2 : decide (4 < ps) = false := decide_eq_false (by omega)
        have d3 : decide (pr < 0) = false := decide_eq_false (by omega)
        have d4 : decide (1000000 < pr) = false := decide_eq_false (by omega)
        have d5 : decide (pp < 0) = false := decide_eq_false (by omega)
        have d6 : decide (24000 < pp) = false := decide_eq_false (by omega)
        go_enter Try.func27, Try.ntmps27
        go_wp2_with fail
        refine (NA.out _).mono ?_
        rintro e w1 ⟨rfl, hb⟩
        have B1 := Lib.hid (HB.out.trans (hb.mono HB.out.size))
        have K1 := Lib.hid ((hb.block w.heap.size (by show _ < (w.alloc _).heap.size; simp)).trans (heap_new w _))
        have y0 : w1.cell? ⟨w.heap.size, 0, none⟩ = some (.string (str pn)) := by rw [cell_of_row _ _ _ _ _ _ K1.out]; rfl
        clear hb
        go_wp2_with fail
        refine (FA.out _ B1.out).mono ?_
        rw [HJ.out]
        rintro e w2 ⟨rfl, hb⟩
        have B2 := Lib.hid (B1.out.trans (hb.mono B1.out.size))
        have K2 := (hb.block w.heap.size (by exact (Array.getElem?_eq_some_iff.1 K1.out).1)).trans K1.out
        have y1 : w2.cell? ⟨w.heap.size, 1, none⟩ = some (.int .i64 ps) := by rw [cell_of_row _ _ _ _ _ _ K2]; rfl
        have y2 : w2.cell? ⟨w.heap.size, 2, none⟩ = some (.int .i64 pr) := by rw [cell_of_row _ _ _ _ _ _ K2]; rfl
        have y3 : w2.cell? ⟨w.heap.size, 3, none⟩ = some (.int .i64 pp) := by rw [cell_of_row _ _ _ _ _ _ K2]; rfl
        clear hb B1 y0 K1 K2
        go_wp2
        go_ret
        exact ⟨G.out, B2.out⟩
      · have G := Lib.hid (ret_int (k := .i64) (MR.bdE_range hn hs ho).symm)
        have hcase := MR.not_ok ho
        have HC := Lib.hid hcase
        clear hn hs hj ho hcase
        obtain ⟨pn, ps, pr, pp⟩ := p
        simp only at *
        go_enter Try.func27, Try.ntmps27
        go_wp2_with fail
        refine (NA.out _).mono ?_
        rintro e w1 ⟨rfl, hb⟩
        have B1 := Lib.hid (HB.out.trans (hb.mono HB.out.size))
        have K1 := Lib.hid ((hb.block w.heap.size (by show _ < (w.alloc _).heap.size; simp)).trans (heap_new w _))
        have y0 : w1.cell? ⟨w.heap.size, 0, none⟩ = some (.string (str pn)) := by rw [cell_of_row _ _ _ _ _ _ K1.out]; rfl
        clear hb
        go_wp2_with fail
        refine (FA.out _ B1.out).mono ?_
        rw [HJ.out]
        rintro e w2 ⟨rfl, hb⟩
        have B2 := Lib.hid (B1.out.trans (hb.mono B1.out.size))
        have K2 := (hb.block w.heap.size (by exact (Array.getElem?_eq_some_iff.1 K1.out).1)).trans K1.out
        have y1 : w2.cell? ⟨w.heap.size, 1, none⟩ = some (.int .i64 ps) := by rw [cell_of_row _ _ _ _ _ _ K2]; rfl
        have y2 : w2.cell? ⟨w.heap.size, 2, none⟩ = some (.int .i64 pr) := by rw [cell_of_row _ _ _ _ _ _ K2]; rfl
        have y3 : w2.cell? ⟨w.heap.size, 3, none⟩ = some (.int .i64 pp) := by rw [cell_of_row _ _ _ _ _ _ K2]; rfl
        clear hb B1 y0 K1 K2
        rcases HC.out with c1 | ⟨c1, c2⟩ | ⟨c1, c2, c3⟩ | ⟨c1, c2, c3, c4⟩ | ⟨c1, c2, c3, c4, c5⟩ | ⟨c1, c2, c3, c4, c5, c6⟩
        all_goals
          go_wp2
          go_ret
          exact ⟨G.out, B2.out⟩
end Go.Proofs.Ytooeafpcbejpdaa
