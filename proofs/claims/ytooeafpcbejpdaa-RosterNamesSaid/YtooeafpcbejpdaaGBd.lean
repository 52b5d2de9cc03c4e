/- api.Bidder: how it lies in memory, and lists of it. Plain theorems, no claim of their own. -/
import Derived.Test.YtooeafpcbejpdaaGList
import Derived.Test.YtooeafpcbejpdaaMathR
namespace Go.Proofs.Ytooeafpcbejpdaa
open Go.RowKit
def cells_bd (p : MR.Bd) : List Value := [.string (str p.name), .int .i64 p.cls, .int .i64 p.budget, .int .i64 p.points]
def agg_bd (p : MR.Bd) : Value := .agg #[.string (str p.name), .int .i64 p.cls, .int .i64 p.budget, .int .i64 p.points]
def bdE : El MR.Bd where
  cells := cells_bd
  sz := 4
  fine p := p.name.length ≤ 9223372036854775807 ∧ (-9223372036854775808 ≤ p.cls ∧ p.cls ≤ 9223372036854775807) ∧ (-9223372036854775808 ≤ p.budget ∧ p.budget ≤ 9223372036854775807) ∧ (-9223372036854775808 ≤ p.points ∧ p.points ≤ 9223372036854775807)
  len _ _ := rfl
  one a u hu := by
    simp only [cells_bd, List.mem_cons, List.not_mem_nil, or_false] at hu
    rcases hu with rfl | rfl | rfl | rfl <;> rfl
  pos := by decide
/-- The k-th element's cells, as the walk spells them. -/
theorem bd_at {w : World} {A : Option Addr} {n c : Nat} {l : List MR.Bd} (h : Lst bdE w A n c l) {k : Nat} (hk : k < n) : ∃ (ad : Addr) (p : MR.Bd), A = some ad ∧ l[k]? = some p ∧ bdE.fine p ∧ ad.block < w.heap.size ∧
    w.cell? (ad.add (k * 4)) = some (.string (str p.name)) ∧
    w.cell? (⟨(ad.add (k * 4)).block, (ad.add (k * 4)).off + 1, none⟩) = some (.int .i64 p.cls) ∧
    w.cell? (⟨(ad.add (k * 4)).block, (ad.add (k * 4)).off + 2, none⟩) = some (.int .i64 p.budget) ∧
    w.cell? (⟨(ad.add (k * 4)).block, (ad.add (k * 4)).off + 3, none⟩) = some (.int .i64 p.points) := by
  obtain ⟨ad, p, e, hx, hf, hb, hc⟩ := h.at0 hk
  refine ⟨ad, p, e, hx, hf, hb, ?_, ?_, ?_, ?_⟩
  · have := hc 0 _ rfl; rwa [show ∀ a : Addr, a.add 0 = a from fun a => by unfold Addr.add; simp] at this
  · have := hc 1 _ rfl; exact this
  · have := hc 2 _ rfl; exact this
  · have := hc 3 _ rfl; exact this
set_option maxRecDepth 100000 in
theorem opens_bd : Opens bdE Try.prog 50 := fun H enc W held m cs y h => by
  obtain ⟨xs, n', _, _, hl, hlen, hf⟩ := DataW.trod_struct Try.underlying50 h
  rw [show Try.prog.cellsOf 50 = 4 by kernel_rfl] at hl
  have hx : xs.length = 4 := hlen
  obtain ⟨c0, c1, c2, c3, rfl⟩ : ∃ c0 c1 c2 c3, cs = [c0, c1, c2, c3] := by
    match cs, hl with
    | [c0, c1, c2, c3], _ => exact ⟨c0, c1, c2, c3, rfl⟩
  obtain ⟨y0, y1, y2, y3, rfl⟩ : ∃ y0 y1 y2 y3, xs = [y0, y1, y2, y3] := by
    match xs, hx with
    | [y0, y1, y2, y3], _ => exact ⟨y0, y1, y2, y3, rfl⟩
  have u0 : DataW.trod enc Try.prog W 0 (fun _ => true) held n' 9 [c0] = some y0 := hf 0 _ rfl
  have u1 : DataW.trod enc Try.prog W 0 (fun _ => true) held n' 3 [c1] = some y1 := hf 1 _ rfl
  have u2 : DataW.trod enc Try.prog W 0 (fun _ => true) held n' 2 [c2] = some y2 := hf 2 _ rfl
  have u3 : DataW.trod enc Try.prog W 0 (fun _ => true) held n' 3 [c3] = some y3 := hf 3 _ rfl
  obtain ⟨z0, hz0, _, w0⟩ := DataW.trod_string Try.underlying9 u0
  obtain ⟨z1, hz1, _, w1⟩ := DataW.trod_int Try.underlying3 u1
  obtain ⟨z2, hz2, _, w2⟩ := DataW.trod_int Try.underlying2 u2
  obtain ⟨z3, hz3, _, w3⟩ := DataW.trod_int Try.underlying3 u3
  injection hz0 with hz0 _
  subst hz0
  injection hz1 with hz1 _
  subst hz1
  injection hz2 with hz2 _
  subst hz2
  injection hz3 with hz3 _
  subst hz3
  exact ⟨⟨z0.data.toList, z1, z2, z3⟩, by simp [bdE, cells_bd, str_self], by show z0.data.toList.length ≤ _; rw [size_list]; exact w0, bounds_i64 w1, bounds_i64 w2, bounds_i64 w3⟩
set_option maxRecDepth 100000 in
theorem open_bd {H : Type} {enc : TypeId × Value → H} {W : World} {held : Bool} {f : Nat} {v : Value} {y : DataW H × List MemPlace} (h : DataW.trod enc Try.prog W 0 (fun _ => true) held f 29 [v] = some y) :
    ∃ (A : Option Addr) (len cap : Nat) (l : List MR.Bd), v = .slice A len cap ∧ LstIn bdE W A len cap l :=
  open_lst Try.underlying29 (by kernel_rfl) opens_bd h
end Go.Proofs.Ytooeafpcbejpdaa
