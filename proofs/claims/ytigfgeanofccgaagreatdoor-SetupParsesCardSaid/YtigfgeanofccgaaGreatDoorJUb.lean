/- CBase, COpen, GBd, UCp, UAs, UBase, joined: no claim of its own. -/
import Derived.Test.YtigfgeanofccgaaGreatDoorJBb
import Derived.Test.YtigfgeanofccgaaGreatDoorJMb
import Derived.Test.YtigfgeanofccgaaGreatDoorRows
import Derived.Deep.Strs
import Derived.Lib.SmallJoins
import Derived.ChangeSlices
import Derived.WideShapes
import Derived.OpenShut
import Derived.ChangeSame
import Derived.Test.YtigfgeanofccgaaGreatDoorJGl
import Derived.Test.YtigfgeanofccgaaGreatDoorJMr
import Derived.Test.YtigfgeanofccgaaGreatDoorJMu
namespace Go.Proofs.YtigfgeanofccgaaGreatDoor
open Go.RowKit
open MC (Pr)
/-- A product's cells; a product by value. -/
def cellsP (p : Pr) : List Value := [.string (str p.name), .int .i64 p.supply, .int .i64 p.reserve, .int .i64 p.points, .int .i64 p.group]
def cellsPs (l : List Pr) : List Value := l.flatMap cellsP
def aggP (p : Pr) : Value := .agg #[.string (str p.name), .int .i64 p.supply, .int .i64 p.reserve, .int .i64 p.points, .int .i64 p.group]
theorem cellsPs_length (l : List Pr) : (cellsPs l).length = l.length * 5 := by
  induction l with
  | nil => rfl
  | cons p r ih => show (cellsP p ++ cellsPs r).length = _; rw [List.length_append, ih]; simp [cellsP]; omega
theorem cellsPs_append (a b : List Pr) : cellsPs (a ++ b) = cellsPs a ++ cellsPs b := by simp [cellsPs]
theorem cellsPs_one (p : Pr) : cellsPs [p] = cellsP p := by simp [cellsPs]
theorem cellsPs_drop (l : List Pr) (k : Nat) : (cellsPs l).drop (k * 5) = cellsPs (l.drop k) := by
  induction l generalizing k with
  | nil => simp [cellsPs]
  | cons p r ih =>
    cases k with
    | zero => simp
    | succ k =>
      show (cellsP p ++ cellsPs r).drop ((k + 1) * 5) = cellsPs (r.drop k)
      rw [← ih k, List.drop_append, show (cellsP p).drop ((k + 1) * 5) = [] from List.drop_of_length_le (by simp [cellsP]; omega), List.nil_append]
      congr 1
      simp [cellsP]; omega
theorem cellsPs_at (l : List Pr) (k i : Nat) (h : k < l.length) (hi : i < 5) : (cellsPs l)[k * 5 + i]? = (cellsP l[k])[i]? := by
  have e := cellsPs_drop l k
  rw [List.drop_eq_getElem_cons h] at e
  have : (cellsPs l)[k * 5 + i]? = ((cellsPs l).drop (k * 5))[i]? := by rw [List.getElem?_drop]
  rw [this, e]
  show (cellsP l[k] ++ cellsPs (l.drop (k + 1)))[i]? = _
  rw [List.getElem?_append_left (by simp [cellsP]; omega)]
/-- A slice of products that reads as l. -/
structure Prs (w : World) (A : Option Addr) (n c : Nat) (l : List Pr) : Prop where
  reads : Reads w w.heap.size 5 A n (cellsPs l)
  len : l.length = n
  cap : n ≤ c
  few : n ≤ 5000
  fine : ∀ p ∈ l, p.name.length ≤ 9223372036854775807
section
variable {w w' : World} {A : Option Addr} {n c : Nat} {l : List Pr}
theorem Prs.keep (h : Prs w A n c l) (hb : Below w.heap.size w w') : Prs w' A n c l := ⟨(h.reads.below hb).more hb.size, h.len, h.cap, h.few, h.fine⟩
theorem Prs.at_ (h : Prs w A n c l) {k : Nat} (hk : k < n) : ∃ (ad : Addr) (p : Pr), A = some ad ∧ l[k]? = some p ∧ ad.block < w.heap.size ∧
    w.cell? (ad.add (k * 5)) = some (.string (str p.name)) ∧ w.cell? ⟨(ad.add (k * 5)).block, (ad.add (k * 5)).off + 1, none⟩ = some (.int .i64 p.supply) ∧
    w.cell? ⟨(ad.add (k * 5)).block, (ad.add (k * 5)).off + 2, none⟩ = some (.int .i64 p.reserve) ∧ w.cell? ⟨(ad.add (k * 5)).block, (ad.add (k * 5)).off + 3, none⟩ = some (.int .i64 p.points) ∧
    w.cell? ⟨(ad.add (k * 5)).block, (ad.add (k * 5)).off + 4, none⟩ = some (.int .i64 p.group) := by
  obtain ⟨ad, e, hb, hc⟩ := h.reads.2 (by omega)
  have hl : k < l.length := by rw [h.len]; exact hk
  have c0 := hc (k * 5 + 0) _ ((cellsPs_at l k 0 hl (by decide)).trans rfl)
  have c1 := hc (k * 5 + 1) _ ((cellsPs_at l k 1 hl (by decide)).trans rfl)
  have c2 := hc (k * 5 + 2) _ ((cellsPs_at l k 2 hl (by decide)).trans rfl)
  have c3 := hc (k * 5 + 3) _ ((cellsPs_at l k 3 hl (by decide)).trans rfl)
  have c4 := hc (k * 5 + 4) _ ((cellsPs_at l k 4 hl (by decide)).trans rfl)
  rw [show ad.add (k * 5 + 1) = ⟨(ad.add (k * 5)).block, (ad.add (k * 5)).off + 1, none⟩ by rw [← Addr.add_add]; rfl] at c1
  rw [show ad.add (k * 5 + 2) = ⟨(ad.add (k * 5)).block, (ad.add (k * 5)).off + 2, none⟩ by rw [← Addr.add_add]; rfl] at c2
  rw [show ad.add (k * 5 + 3) = ⟨(ad.add (k * 5)).block, (ad.add (k * 5)).off + 3, none⟩ by rw [← Addr.add_add]; rfl] at c3
  rw [show ad.add (k * 5 + 4) = ⟨(ad.add (k * 5)).block, (ad.add (k * 5)).off + 4, none⟩ by rw [← Addr.add_add]; rfl] at c4
  exact ⟨ad, l[k], e, List.getElem?_eq_getElem hl, hb, c0, c1, c2, c3, c4⟩
theorem Prs.drew (h : Prs w A n c l) : Prs w.drew A n c l := h.keep (below_drawn w)
theorem Prs.drewN (h : Prs w A n c l) (q : Nat) : Prs (w.drewN q) A n c l := h.keep (below_drewN (Below.refl _ _) q)
end
end Go.Proofs.YtigfgeanofccgaaGreatDoor
namespace Go.Proofs.YtigfgeanofccgaaGreatDoor
open Go.ChangeShapes Go.WideShapes Go.ChangeAt Go.RowKit Go.Joins Go.Deep
open MC (Pr)
/-- A slice of products that came in. -/
structure PrsIn (w : World) (A : Option Addr) (len cap : Nat) (l : List Pr) : Prop where
  cap_ : len ≤ cap ∧ cap ≤ maxLen
  reads : Reads w w.heap.size 5 A len (cellsPs l)
  len_ : l.length = len
  fine : ∀ p ∈ l, p.name.length ≤ 9223372036854775807
theorem PrsIn.prs {w : World} {A : Option Addr} {len cap : Nat} {l : List Pr} (h : PrsIn w A len cap l) (hl : len ≤ 5000) : Prs w A len cap l := ⟨h.reads, h.len_, h.cap_.1, hl, h.fine⟩
theorem trod_five {H : Type} {P : Program} {enc : TypeId × Value → H} {w : World} {base : Nat} {spare : Nat → Bool} {held : Bool} {t : TypeId} {f0 f1 f2 f3 f4 : Field} {fuel : Nat} {cs : List Value} {x : DataW H × List MemPlace} (ht : P.underlying t = some (.struct #[f0, f1, f2, f3, f4])) (h : DataW.trod enc P w base spare held fuel t cs = some x) :
    ∃ y0 y1 y2 y3 y4 n, cs.length = P.cellsOf t ∧ DataW.trod enc P w base spare held n f0.type ((cs.drop f0.offset).take (P.cellsOf f0.type)) = some y0 ∧
      DataW.trod enc P w base spare held n f1.type ((cs.drop f1.offset).take (P.cellsOf f1.type)) = some y1 ∧ DataW.trod enc P w base spare held n f2.type ((cs.drop f2.offset).take (P.cellsOf f2.type)) = some y2 ∧
      DataW.trod enc P w base spare held n f3.type ((cs.drop f3.offset).take (P.cellsOf f3.type)) = some y3 ∧ DataW.trod enc P w base spare held n f4.type ((cs.drop f4.offset).take (P.cellsOf f4.type)) = some y4 := by
  obtain ⟨xs, n, _, rfl, hl, hlen, hf⟩ := DataW.trod_struct ht h
  match xs, hlen with
  | [y0, y1, y2, y3, y4], _ => exact ⟨y0, y1, y2, y3, y4, n, hl, by simpa using hf 0 f0 rfl, by simpa using hf 1 f1 rfl, by simpa using hf 2 f2 rfl, by simpa using hf 3 f3 rfl, by simpa using hf 4 f4 rfl⟩
set_option maxRecDepth 100000 in
theorem pr_of {H : Type} {enc : TypeId × Value → H} {W : World} {held : Bool} {n : Nat} {ad : Addr} {y : DataW H × List MemPlace}
    (h : ((W.cells? 0 ad 5).bind (DataW.trod enc Tryz.prog W 0 (fun _ => true) held n 60)) = some y) :
    ∃ t : Pr, (∀ j u, (cellsP t)[j]? = some u → W.cell? (ad.add j) = some u) ∧ t.name.length ≤ 9223372036854775807 := by
  rw [Option.bind_eq_some_iff] at h
  obtain ⟨cs, h1, h2⟩ := h
  obtain ⟨_, h3, h4⟩ := World.cells?_some h1
  obtain ⟨y0, y1, y2, y3, y4, n', _, t0, t1, t2, t3, t4⟩ := trod_five Tryz.underlying60 h2
  obtain ⟨c0, c1, c2, c3, c4, rfl⟩ : ∃ c0 c1 c2 c3 c4, cs = [c0, c1, c2, c3, c4] := by
    match cs, h3 with
    | [c0, c1, c2, c3, c4], _ => exact ⟨c0, c1, c2, c3, c4, rfl⟩
  have e0 := h4 0 (by omega)
  have e1 := h4 1 (by omega)
  have e2 := h4 2 (by omega)
  have e3 := h4 3 (by omega)
  have e4 := h4 4 (by omega)
  clear h1 h2 h3 h4
  simp only [List.getElem?_cons_zero, List.getElem?_cons_succ] at e0 e1 e2 e3 e4
  have u0 : DataW.trod enc Tryz.prog W 0 (fun _ => true) held n' 9 [c0] = some y0 := t0
  have u1 : DataW.trod enc Tryz.prog W 0 (fun _ => true) held n' 3 [c1] = some y1 := t1
  have u2 : DataW.trod enc Tryz.prog W 0 (fun _ => true) held n' 2 [c2] = some y2 := t2
  have u3 : DataW.trod enc Tryz.prog W 0 (fun _ => true) held n' 3 [c3] = some y3 := t3
  have u4 : DataW.trod enc Tryz.prog W 0 (fun _ => true) held n' 3 [c4] = some y4 := t4
  obtain ⟨z0, hz0, _, hw0⟩ := DataW.trod_string Tryz.underlying9 u0
  obtain ⟨z1, hz1, _, _⟩ := DataW.trod_int Tryz.underlying3 u1
  obtain ⟨z2, hz2, _, _⟩ := DataW.trod_int Tryz.underlying2 u2
  obtain ⟨z3, hz3, _, _⟩ := DataW.trod_int Tryz.underlying3 u3
  obtain ⟨z4, hz4, _, _⟩ := DataW.trod_int Tryz.underlying3 u4
  simp at hz0 hz1 hz2 hz3 hz4
  subst hz0; subst hz1; subst hz2; subst hz3; subst hz4
  refine ⟨⟨z0.data.toList, z1, z2, z3, z4⟩, ?_, by rw [size_list]; exact hw0⟩
  intro j u hu
  simp only [cellsP, str_self] at hu
  match j, hu with
  | 0, hu => simp at hu; rw [e0, hu]
  | 1, hu => simp at hu; rw [e1, hu]
  | 2, hu => simp at hu; rw [e2, hu]
  | 3, hu => simp at hu; rw [e3, hu]
  | 4, hu => simp at hu; rw [e4, hu]
  | _ + 5, hu => simp at hu
set_option maxRecDepth 100000 in
theorem open_prs {H : Type} {enc : TypeId × Value → H} {W : World} {held : Bool} {f : Nat} {v : Value} {y : DataW H × List MemPlace} (h : DataW.trod enc Tryz.prog W 0 (fun _ => true) held f 22 [v] = some y) :
    ∃ (A : Option Addr) (len cap : Nat) (l : List Pr), v = .slice A len cap ∧ PrsIn W A len cap l := by
  rcases DataW.trod_slice Tryz.underlying22 h with ⟨hcs, _⟩ | ⟨a, len, cap, elems, rest, n, _, hcs, hy, _, hl, hm, hlen, hel, _, _⟩
  · simp at hcs
    exact ⟨none, 0, 0, [], hcs, ⟨⟨Nat.le_refl _, Nat.zero_le _⟩, Reads.none_, rfl, (fun t ht => by cases ht)⟩⟩
  · simp at hcs
    have E : ∀ k, k < len → ∃ t : Pr, (∀ j u, (cellsP t)[j]? = some u → W.cell? ((a.add (k * 5)).add j) = some u) ∧ t.name.length ≤ 9223372036854775807 := fun k hk => by
      have hE := hel k hk
      rw [show Tryz.prog.cellsOf 60 = 5 by kernel_rfl] at hE
      have hlk : k < elems.length := by omega
      rw [List.getElem?_eq_getElem hlk] at hE
      exact pr_of hE
    obtain ⟨ts, hts, hat⟩ : ∃ ts : List Pr, ts.length = len ∧ ∀ k t, ts[k]? = some t → (∀ j u, (cellsP t)[j]? = some u → W.cell? ((a.add (k * 5)).add j) = some u) ∧ t.name.length ≤ 9223372036854775807 := by
      refine ⟨List.ofFn (fun i : Fin len => Classical.choose (E i.val i.isLt)), by simp, fun k t hk => ?_⟩
      obtain ⟨hk', e⟩ := List.getElem?_eq_some_iff.1 hk
      rw [List.getElem_ofFn] at e
      subst e
      exact Classical.choose_spec (E k (by simpa using hk'))
    refine ⟨some a, len, cap, ts, hcs, ⟨⟨hl, hm⟩, ⟨by rw [cellsPs_length, hts], fun hp => ⟨a, rfl, ?_, fun j u hu => ?_⟩⟩, hts, fun t ht => ?_⟩⟩
    · have h0 := (hat 0 ts[0] (List.getElem?_eq_getElem (by omega))).1 0 _ rfl
      have := World.block_lt_of_cell? W _ h0
      rwa [block_of_add, block_of_add] at this
    · have hj : j < ts.length * 5 := by
        have := (List.getElem?_eq_some_iff.1 hu).1
        rwa [cellsPs_length] at this
      have hk : j / 5 < ts.length := by omega
      have e := cellsPs_at ts (j / 5) (j % 5) hk (by omega)
      rw [show j / 5 * 5 + j % 5 = j by omega, hu] at e
      have := (hat (j / 5) ts[j / 5] (List.getElem?_eq_getElem hk)).1 (j % 5) u e.symm
      rwa [add_of_add, show j / 5 * 5 + j % 5 = j by omega] at this
    · obtain ⟨k, hk, e⟩ := List.mem_iff_getElem.1 ht
      exact (hat k t (by rw [List.getElem?_eq_getElem hk, e])).2
end Go.Proofs.YtigfgeanofccgaaGreatDoor
namespace Go.Proofs.YtigfgeanofccgaaGreatDoor
open Go.RowKit
def cells_bd (p : MR.Bd) : List Value := [.string (str p.name), .int .i64 p.cls, .int .i64 p.budget, .int .i64 p.points]
def agg_bd (p : MR.Bd) : Value := .agg #[.string (str p.name), .int .i64 p.cls, .int .i64 p.budget, .int .i64 p.points]
def bdE : El MR.Bd where
  cells := cells_bd
  sz := 4
  fine p := p.name.length ≤ 9223372036854775807 ∧ (-9223372036854775808 ≤ p.cls ∧ p.cls ≤ 9223372036854775807) ∧ (-9223372036854775808 ≤ p.budget ∧ p.budget ≤ 9223372036854775807) ∧ (-9223372036854775808 ≤ p.points ∧ p.points ≤ 9223372036854775807)
  len _ _ := rfl
  one a u hu := by
    simp only [cells_bd, List.mem_cons, List.not_mem_nil, or_false] at hu
    rcases hu with rfl | rfl | rfl | rfl <;> rfl
  pos := by decide
/-- The k-th element's cells, as the walk spells them. -/
theorem bd_at {w : World} {A : Option Addr} {n c : Nat} {l : List MR.Bd} (h : Lst bdE w A n c l) {k : Nat} (hk : k < n) : ∃ (ad : Addr) (p : MR.Bd), A = some ad ∧ l[k]? = some p ∧ bdE.fine p ∧ ad.block < w.heap.size ∧
    w.cell? (ad.add (k * 4)) = some (.string (str p.name)) ∧
    w.cell? (⟨(ad.add (k * 4)).block, (ad.add (k * 4)).off + 1, none⟩) = some (.int .i64 p.cls) ∧
    w.cell? (⟨(ad.add (k * 4)).block, (ad.add (k * 4)).off + 2, none⟩) = some (.int .i64 p.budget) ∧
    w.cell? (⟨(ad.add (k * 4)).block, (ad.add (k * 4)).off + 3, none⟩) = some (.int .i64 p.points) := by
  obtain ⟨ad, p, e, hx, hf, hb, hc⟩ := h.at0 hk
  refine ⟨ad, p, e, hx, hf, hb, ?_, ?_, ?_, ?_⟩
  · have := hc 0 _ rfl; rwa [show ∀ a : Addr, a.add 0 = a from fun a => by unfold Addr.add; simp] at this
  · have := hc 1 _ rfl; exact this
  · have := hc 2 _ rfl; exact this
  · have := hc 3 _ rfl; exact this
set_option maxRecDepth 100000 in
theorem opens_bd : Opens bdE Tryz.prog 64 := fun H enc W held m cs y h => by
  obtain ⟨xs, n', _, _, hl, hlen, hf⟩ := DataW.trod_struct Tryz.underlying64 h
  rw [show Tryz.prog.cellsOf 64 = 4 by kernel_rfl] at hl
  have hx : xs.length = 4 := hlen
  obtain ⟨c0, c1, c2, c3, rfl⟩ : ∃ c0 c1 c2 c3, cs = [c0, c1, c2, c3] := by
    match cs, hl with
    | [c0, c1, c2, c3], _ => exact ⟨c0, c1, c2, c3, rfl⟩
  obtain ⟨y0, y1, y2, y3, rfl⟩ : ∃ y0 y1 y2 y3, xs = [y0, y1, y2, y3] := by
    match xs, hx with
    | [y0, y1, y2, y3], _ => exact ⟨y0, y1, y2, y3, rfl⟩
  have u0 : DataW.trod enc Tryz.prog W 0 (fun _ => true) held n' 9 [c0] = some y0 := hf 0 _ rfl
  have u1 : DataW.trod enc Tryz.prog W 0 (fun _ => true) held n' 3 [c1] = some y1 := hf 1 _ rfl
  have u2 : DataW.trod enc Tryz.prog W 0 (fun _ => true) held n' 2 [c2] = some y2 := hf 2 _ rfl
  have u3 : DataW.trod enc Tryz.prog W 0 (fun _ => true) held n' 3 [c3] = some y3 := hf 3 _ rfl
  obtain ⟨z0, hz0, _, w0⟩ := DataW.trod_string Tryz.underlying9 u0
  obtain ⟨z1, hz1, _, w1⟩ := DataW.trod_int Tryz.underlying3 u1
  obtain ⟨z2, hz2, _, w2⟩ := DataW.trod_int Tryz.underlying2 u2
  obtain ⟨z3, hz3, _, w3⟩ := DataW.trod_int Tryz.underlying3 u3
  injection hz0 with hz0 _
  subst hz0
  injection hz1 with hz1 _
  subst hz1
  injection hz2 with hz2 _
  subst hz2
  injection hz3 with hz3 _
  subst hz3
  exact ⟨⟨z0.data.toList, z1, z2, z3⟩, by simp [bdE, cells_bd, str_self], by show z0.data.toList.length ≤ _; rw [size_list]; exact w0, bounds_i64 w1, bounds_i64 w2, bounds_i64 w3⟩
set_option maxRecDepth 100000 in
theorem open_bd {H : Type} {enc : TypeId × Value → H} {W : World} {held : Bool} {f : Nat} {v : Value} {y : DataW H × List MemPlace} (h : DataW.trod enc Tryz.prog W 0 (fun _ => true) held f 23 [v] = some y) :
    ∃ (A : Option Addr) (len cap : Nat) (l : List MR.Bd), v = .slice A len cap ∧ LstIn bdE W A len cap l :=
  open_lst Tryz.underlying23 (by kernel_rfl) opens_bd h
end Go.Proofs.YtigfgeanofccgaaGreatDoor
namespace Go.Proofs.YtigfgeanofccgaaGreatDoor
open Go.RowKit
def cells_cp (p : MU.Cp) : List Value := [.int .i64 p.bidder, .int .i64 p.group, .int .i64 p.units]
def agg_cp (p : MU.Cp) : Value := .agg #[.int .i64 p.bidder, .int .i64 p.group, .int .i64 p.units]
def cpE : El MU.Cp where
  cells := cells_cp
  sz := 3
  fine p := (-9223372036854775808 ≤ p.bidder ∧ p.bidder ≤ 9223372036854775807) ∧ (-9223372036854775808 ≤ p.group ∧ p.group ≤ 9223372036854775807) ∧ (-9223372036854775808 ≤ p.units ∧ p.units ≤ 9223372036854775807)
  len _ _ := rfl
  one a u hu := by
    simp only [cells_cp, List.mem_cons, List.not_mem_nil, or_false] at hu
    rcases hu with rfl | rfl | rfl <;> rfl
  pos := by decide
/-- The k-th element's cells, as the walk spells them. -/
theorem cp_at {w : World} {A : Option Addr} {n c : Nat} {l : List MU.Cp} (h : Lst cpE w A n c l) {k : Nat} (hk : k < n) : ∃ (ad : Addr) (p : MU.Cp), A = some ad ∧ l[k]? = some p ∧ cpE.fine p ∧ ad.block < w.heap.size ∧
    w.cell? (ad.add (k * 3)) = some (.int .i64 p.bidder) ∧
    w.cell? (⟨(ad.add (k * 3)).block, (ad.add (k * 3)).off + 1, none⟩) = some (.int .i64 p.group) ∧
    w.cell? (⟨(ad.add (k * 3)).block, (ad.add (k * 3)).off + 2, none⟩) = some (.int .i64 p.units) := by
  obtain ⟨ad, p, e, hx, hf, hb, hc⟩ := h.at0 hk
  refine ⟨ad, p, e, hx, hf, hb, ?_, ?_, ?_⟩
  · have := hc 0 _ rfl; rwa [show ∀ a : Addr, a.add 0 = a from fun a => by unfold Addr.add; simp] at this
  · have := hc 1 _ rfl; exact this
  · have := hc 2 _ rfl; exact this
set_option maxRecDepth 100000 in
theorem opens_cp : Opens cpE Tryz.prog 66 := fun H enc W held m cs y h => by
  obtain ⟨xs, n', _, _, hl, hlen, hf⟩ := DataW.trod_struct Tryz.underlying66 h
  rw [show Tryz.prog.cellsOf 66 = 3 by kernel_rfl] at hl
  have hx : xs.length = 3 := hlen
  obtain ⟨c0, c1, c2, rfl⟩ : ∃ c0 c1 c2, cs = [c0, c1, c2] := by
    match cs, hl with
    | [c0, c1, c2], _ => exact ⟨c0, c1, c2, rfl⟩
  obtain ⟨y0, y1, y2, rfl⟩ : ∃ y0 y1 y2, xs = [y0, y1, y2] := by
    match xs, hx with
    | [y0, y1, y2], _ => exact ⟨y0, y1, y2, rfl⟩
  have u0 : DataW.trod enc Tryz.prog W 0 (fun _ => true) held n' 3 [c0] = some y0 := hf 0 _ rfl
  have u1 : DataW.trod enc Tryz.prog W 0 (fun _ => true) held n' 3 [c1] = some y1 := hf 1 _ rfl
  have u2 : DataW.trod enc Tryz.prog W 0 (fun _ => true) held n' 3 [c2] = some y2 := hf 2 _ rfl
  obtain ⟨z0, hz0, _, w0⟩ := DataW.trod_int Tryz.underlying3 u0
  obtain ⟨z1, hz1, _, w1⟩ := DataW.trod_int Tryz.underlying3 u1
  obtain ⟨z2, hz2, _, w2⟩ := DataW.trod_int Tryz.underlying3 u2
  injection hz0 with hz0 _
  subst hz0
  injection hz1 with hz1 _
  subst hz1
  injection hz2 with hz2 _
  subst hz2
  exact ⟨⟨z0, z1, z2⟩, by simp [cpE, cells_cp], bounds_i64 w0, bounds_i64 w1, bounds_i64 w2⟩
set_option maxRecDepth 100000 in
theorem open_cp {H : Type} {enc : TypeId × Value → H} {W : World} {held : Bool} {f : Nat} {v : Value} {y : DataW H × List MemPlace} (h : DataW.trod enc Tryz.prog W 0 (fun _ => true) held f 24 [v] = some y) :
    ∃ (A : Option Addr) (len cap : Nat) (l : List MU.Cp), v = .slice A len cap ∧ LstIn cpE W A len cap l :=
  open_lst Tryz.underlying24 (by kernel_rfl) opens_cp h
end Go.Proofs.YtigfgeanofccgaaGreatDoor
namespace Go.Proofs.YtigfgeanofccgaaGreatDoor
open Go.RowKit
def cells_asd (p : MU.As) : List Value := [.int .i64 p.product, .int .i64 p.cls, .int .i64 p.units]
def agg_asd (p : MU.As) : Value := .agg #[.int .i64 p.product, .int .i64 p.cls, .int .i64 p.units]
def asdE : El MU.As where
  cells := cells_asd
  sz := 3
  fine p := (-9223372036854775808 ≤ p.product ∧ p.product ≤ 9223372036854775807) ∧ (-9223372036854775808 ≤ p.cls ∧ p.cls ≤ 9223372036854775807) ∧ (-9223372036854775808 ≤ p.units ∧ p.units ≤ 9223372036854775807)
  len _ _ := rfl
  one a u hu := by
    simp only [cells_asd, List.mem_cons, List.not_mem_nil, or_false] at hu
    rcases hu with rfl | rfl | rfl <;> rfl
  pos := by decide
/-- The k-th element's cells, as the walk spells them. -/
theorem asd_at {w : World} {A : Option Addr} {n c : Nat} {l : List MU.As} (h : Lst asdE w A n c l) {k : Nat} (hk : k < n) : ∃ (ad : Addr) (p : MU.As), A = some ad ∧ l[k]? = some p ∧ asdE.fine p ∧ ad.block < w.heap.size ∧
    w.cell? (ad.add (k * 3)) = some (.int .i64 p.product) ∧
    w.cell? (⟨(ad.add (k * 3)).block, (ad.add (k * 3)).off + 1, none⟩) = some (.int .i64 p.cls) ∧
    w.cell? (⟨(ad.add (k * 3)).block, (ad.add (k * 3)).off + 2, none⟩) = some (.int .i64 p.units) := by
  obtain ⟨ad, p, e, hx, hf, hb, hc⟩ := h.at0 hk
  refine ⟨ad, p, e, hx, hf, hb, ?_, ?_, ?_⟩
  · have := hc 0 _ rfl; rwa [show ∀ a : Addr, a.add 0 = a from fun a => by unfold Addr.add; simp] at this
  · have := hc 1 _ rfl; exact this
  · have := hc 2 _ rfl; exact this
set_option maxRecDepth 100000 in
theorem opens_asd : Opens asdE Tryz.prog 68 := fun H enc W held m cs y h => by
  obtain ⟨xs, n', _, _, hl, hlen, hf⟩ := DataW.trod_struct Tryz.underlying68 h
  rw [show Tryz.prog.cellsOf 68 = 3 by kernel_rfl] at hl
  have hx : xs.length = 3 := hlen
  obtain ⟨c0, c1, c2, rfl⟩ : ∃ c0 c1 c2, cs = [c0, c1, c2] := by
    match cs, hl with
    | [c0, c1, c2], _ => exact ⟨c0, c1, c2, rfl⟩
  obtain ⟨y0, y1, y2, rfl⟩ : ∃ y0 y1 y2, xs = [y0, y1, y2] := by
    match xs, hx with
    | [y0, y1, y2], _ => exact ⟨y0, y1, y2, rfl⟩
  have u0 : DataW.trod enc Tryz.prog W 0 (fun _ => true) held n' 3 [c0] = some y0 := hf 0 _ rfl
  have u1 : DataW.trod enc Tryz.prog W 0 (fun _ => true) held n' 3 [c1] = some y1 := hf 1 _ rfl
  have u2 : DataW.trod enc Tryz.prog W 0 (fun _ => true) held n' 3 [c2] = some y2 := hf 2 _ rfl
  obtain ⟨z0, hz0, _, w0⟩ := DataW.trod_int Tryz.underlying3 u0
  obtain ⟨z1, hz1, _, w1⟩ := DataW.trod_int Tryz.underlying3 u1
  obtain ⟨z2, hz2, _, w2⟩ := DataW.trod_int Tryz.underlying3 u2
  injection hz0 with hz0 _
  subst hz0
  injection hz1 with hz1 _
  subst hz1
  injection hz2 with hz2 _
  subst hz2
  exact ⟨⟨z0, z1, z2⟩, by simp [asdE, cells_asd], bounds_i64 w0, bounds_i64 w1, bounds_i64 w2⟩
set_option maxRecDepth 100000 in
theorem open_asd {H : Type} {enc : TypeId × Value → H} {W : World} {held : Bool} {f : Nat} {v : Value} {y : DataW H × List MemPlace} (h : DataW.trod enc Tryz.prog W 0 (fun _ => true) held f 25 [v] = some y) :
    ∃ (A : Option Addr) (len cap : Nat) (l : List MU.As), v = .slice A len cap ∧ LstIn asdE W A len cap l :=
  open_lst Tryz.underlying25 (by kernel_rfl) opens_asd h
end Go.Proofs.YtigfgeanofccgaaGreatDoor
namespace Go.Proofs.YtigfgeanofccgaaGreatDoor
open Go.RowKit
/-- A bundle as an element. -/
def bunE : El (List Int) where
  cells x := x.map (Value.int .i64)
  sz := 6
  fine x := x.length = 6
  len x h := by rw [List.length_map, h]
  one a u hu := by
    obtain ⟨x, _, rfl⟩ := List.mem_map.1 hu
    rfl
  pos := by decide
theorem bun_at {w : World} {A : Option Addr} {n c : Nat} {l : List (List Int)} (h : Lst bunE w A n c l) {k : Nat} (hk : k < n) : ∃ (ad : Addr) (x0 x1 x2 x3 x4 x5 : Int), A = some ad ∧ l[k]? = some [x0, x1, x2, x3, x4, x5] ∧ ad.block < w.heap.size ∧
    w.cell? (ad.add (k * 6)) = some (.int .i64 x0) ∧ w.cell? ⟨(ad.add (k * 6)).block, (ad.add (k * 6)).off + 1, none⟩ = some (.int .i64 x1) ∧
    w.cell? ⟨(ad.add (k * 6)).block, (ad.add (k * 6)).off + 2, none⟩ = some (.int .i64 x2) ∧ w.cell? ⟨(ad.add (k * 6)).block, (ad.add (k * 6)).off + 3, none⟩ = some (.int .i64 x3) ∧
    w.cell? ⟨(ad.add (k * 6)).block, (ad.add (k * 6)).off + 4, none⟩ = some (.int .i64 x4) ∧ w.cell? ⟨(ad.add (k * 6)).block, (ad.add (k * 6)).off + 5, none⟩ = some (.int .i64 x5) := by
  obtain ⟨ad, x, e, hx, hf, hb, hc⟩ := h.at0 hk
  obtain ⟨x0, x1, x2, x3, x4, x5, rfl⟩ := six (show x.length = 6 from hf)
  refine ⟨ad, x0, x1, x2, x3, x4, x5, e, hx, hb, ?_, ?_, ?_, ?_, ?_, ?_⟩
  · have := hc 0 _ rfl; rwa [show ∀ a : Addr, a.add 0 = a from fun a => by unfold Addr.add; simp] at this
  · have := hc 1 _ rfl; exact this
  · have := hc 2 _ rfl; exact this
  · have := hc 3 _ rfl; exact this
  · have := hc 4 _ rfl; exact this
  · have := hc 5 _ rfl; exact this
/-- One cell of the k-th bundle. -/
theorem bun_cell {w : World} {A : Option Addr} {n c : Nat} {l : List (List Int)} (h : Lst bunE w A n c l) {k i : Nat} (hk : k < n) (hi : i < 6) : ∃ (ad : Addr) (x : List Int), A = some ad ∧ l[k]? = some x ∧ x.length = 6 ∧ ad.block < w.heap.size ∧
    w.cell? ((ad.add (k * 6)).add i) = some (.int .i64 (MB.at_ x i)) := by
  obtain ⟨ad, x, e, hx, hf, hb, hc⟩ := h.at0 hk
  refine ⟨ad, x, e, hx, hf, hb, hc i _ ?_⟩
  have hl : i < x.length := by rw [show x.length = 6 from hf]; exact hi
  show (x.map (Value.int .i64))[i]? = _
  rw [List.getElem?_map, List.getElem?_eq_getElem hl]
  unfold MB.at_
  simp [List.getElem?_eq_getElem hl]
/-- A setup's lists in memory. -/
structure SuAt (w : World) (A1 : Option Addr) (n1 c1 : Nat) (A2 : Option Addr) (n2 c2 : Nat) (A3 : Option Addr) (n3 c3 : Nat) (A4 : Option Addr) (n4 c4 : Nat) (s : MU.Su) : Prop where
  ps : Prs w A1 n1 c1 s.ps
  bs : Lst bdE w A2 n2 c2 s.bs
  cs : Lst cpE w A3 n3 c3 s.cs
  as_ : Lst asdE w A4 n4 c4 s.as_
section
variable {w w' : World} {A1 A2 A3 A4 : Option Addr} {n1 c1 n2 c2 n3 c3 n4 c4 : Nat} {s : MU.Su}
theorem SuAt.keep (h : SuAt w A1 n1 c1 A2 n2 c2 A3 n3 c3 A4 n4 c4 s) (hb : Below w.heap.size w w') : SuAt w' A1 n1 c1 A2 n2 c2 A3 n3 c3 A4 n4 c4 s :=
  ⟨h.ps.keep hb, h.bs.keep hb, h.cs.keep hb, h.as_.keep hb⟩
end
theorem cap_bad {g u : Int} (h : ¬ ((0 ≤ g ∧ g ≤ 4) ∧ 0 ≤ u ∧ u ≤ 24)) : g < 0 ∨ (¬ g < 0 ∧ 4 < g) ∨ (¬ g < 0 ∧ ¬ 4 < g ∧ u < 0) ∨ (¬ g < 0 ∧ ¬ 4 < g ∧ ¬ u < 0 ∧ 24 < u) := by omega
theorem as_bad {c u m : Int} (h : ¬ ((1 ≤ c ∧ c ≤ 4) ∧ 1 ≤ u ∧ u ≤ m)) : c < 1 ∨ (¬ c < 1 ∧ 4 < c) ∨ (¬ c < 1 ∧ ¬ 4 < c ∧ u < 1) ∨ (¬ c < 1 ∧ ¬ 4 < c ∧ ¬ u < 1 ∧ m < u) := by omega
end Go.Proofs.YtigfgeanofccgaaGreatDoor
