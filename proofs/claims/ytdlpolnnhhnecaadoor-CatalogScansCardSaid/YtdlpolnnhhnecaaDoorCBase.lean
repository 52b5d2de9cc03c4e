/- Words for the walks of chapter 8: a slice of products that reads as a list. Plain theorems, no claim of their own. -/
import Derived.Test.YtdlpolnnhhnecaaDoorBBase
import Derived.Test.YtdlpolnnhhnecaaDoorMathC
namespace Go.Proofs.YtdlpolnnhhnecaaDoor
open Go.RowKit
open MC (Pr)
/-- A product's cells; a product by value. -/
def cellsP (p : Pr) : List Value := [.string (str p.name), .int .i64 p.supply, .int .i64 p.reserve, .int .i64 p.points, .int .i64 p.group]
def cellsPs (l : List Pr) : List Value := l.flatMap cellsP
def aggP (p : Pr) : Value := .agg #[.string (str p.name), .int .i64 p.supply, .int .i64 p.reserve, .int .i64 p.points, .int .i64 p.group]
theorem cellsPs_length (l : List Pr) : (cellsPs l).length = l.length * 5 := by
  induction l with
  | nil => rfl
  | cons p r ih => show (cellsP p ++ cellsPs r).length = _; rw [List.length_append, ih]; simp [cellsP]; omega
theorem cellsPs_append (a b : List Pr) : cellsPs (a ++ b) = cellsPs a ++ cellsPs b := by simp [cellsPs]
theorem cellsPs_one (p : Pr) : cellsPs [p] = cellsP p := by simp [cellsPs]
theorem cellsPs_drop (l : List Pr) (k : Nat) : (cellsPs l).drop (k * 5) = cellsPs (l.drop k) := by
  induction l generalizing k with
  | nil => simp [cellsPs]
  | cons p r ih =>
    cases k with
    | zero => simp
    | succ k =>
      show (cellsP p ++ cellsPs r).drop ((k + 1) * 5) = cellsPs (r.drop k)
      rw [← ih k, List.drop_append, show (cellsP p).drop ((k + 1) * 5) = [] from List.drop_of_length_le (by simp [cellsP]; omega), List.nil_append]
      congr 1
      simp [cellsP]; omega
theorem cellsPs_at (l : List Pr) (k i : Nat) (h : k < l.length) (hi : i < 5) : (cellsPs l)[k * 5 + i]? = (cellsP l[k])[i]? := by
  have e := cellsPs_drop l k
  rw [List.drop_eq_getElem_cons h] at e
  have : (cellsPs l)[k * 5 + i]? = ((cellsPs l).drop (k * 5))[i]? := by rw [List.getElem?_drop]
  rw [this, e]
  show (cellsP l[k] ++ cellsPs (l.drop (k + 1)))[i]? = _
  rw [List.getElem?_append_left (by simp [cellsP]; omega)]
/-- A slice of products that reads as l. -/
structure Prs (w : World) (A : Option Addr) (n c : Nat) (l : List Pr) : Prop where
  reads : Reads w w.heap.size 5 A n (cellsPs l)
  len : l.length = n
  cap : n ≤ c
  few : n ≤ 100
  fine : ∀ p ∈ l, p.name.length ≤ 9223372036854775807
section
variable {w w' : World} {A : Option Addr} {n c : Nat} {l : List Pr}
theorem Prs.keep (h : Prs w A n c l) (hb : Below w.heap.size w w') : Prs w' A n c l := ⟨(h.reads.below hb).more hb.size, h.len, h.cap, h.few, h.fine⟩
theorem Prs.at_ (h : Prs w A n c l) {k : Nat} (hk : k < n) : ∃ (ad : Addr) (p : Pr), A = some ad ∧ l[k]? = some p ∧ ad.block < w.heap.size ∧
    w.cell? (ad.add (k * 5)) = some (.string (str p.name)) ∧ w.cell? ⟨(ad.add (k * 5)).block, (ad.add (k * 5)).off + 1, none⟩ = some (.int .i64 p.supply) ∧
    w.cell? ⟨(ad.add (k * 5)).block, (ad.add (k * 5)).off + 2, none⟩ = some (.int .i64 p.reserve) ∧ w.cell? ⟨(ad.add (k * 5)).block, (ad.add (k * 5)).off + 3, none⟩ = some (.int .i64 p.points) ∧
    w.cell? ⟨(ad.add (k * 5)).block, (ad.add (k * 5)).off + 4, none⟩ = some (.int .i64 p.group) := by
  obtain ⟨ad, e, hb, hc⟩ := h.reads.2 (by omega)
  have hl : k < l.length := by rw [h.len]; exact hk
  have c0 := hc (k * 5 + 0) _ ((cellsPs_at l k 0 hl (by decide)).trans rfl)
  have c1 := hc (k * 5 + 1) _ ((cellsPs_at l k 1 hl (by decide)).trans rfl)
  have c2 := hc (k * 5 + 2) _ ((cellsPs_at l k 2 hl (by decide)).trans rfl)
  have c3 := hc (k * 5 + 3) _ ((cellsPs_at l k 3 hl (by decide)).trans rfl)
  have c4 := hc (k * 5 + 4) _ ((cellsPs_at l k 4 hl (by decide)).trans rfl)
  rw [show ad.add (k * 5 + 1) = ⟨(ad.add (k * 5)).block, (ad.add (k * 5)).off + 1, none⟩ by rw [← Addr.add_add]; rfl] at c1
  rw [show ad.add (k * 5 + 2) = ⟨(ad.add (k * 5)).block, (ad.add (k * 5)).off + 2, none⟩ by rw [← Addr.add_add]; rfl] at c2
  rw [show ad.add (k * 5 + 3) = ⟨(ad.add (k * 5)).block, (ad.add (k * 5)).off + 3, none⟩ by rw [← Addr.add_add]; rfl] at c3
  rw [show ad.add (k * 5 + 4) = ⟨(ad.add (k * 5)).block, (ad.add (k * 5)).off + 4, none⟩ by rw [← Addr.add_add]; rfl] at c4
  exact ⟨ad, l[k], e, List.getElem?_eq_getElem hl, hb, c0, c1, c2, c3, c4⟩
theorem Prs.drew (h : Prs w A n c l) : Prs w.drew A n c l := h.keep (below_drawn w)
theorem Prs.drewN (h : Prs w A n c l) (q : Nat) : Prs (w.drewN q) A n c l := h.keep (below_drewN (Below.refl _ _) q)
end
end Go.Proofs.YtdlpolnnhhnecaaDoor
