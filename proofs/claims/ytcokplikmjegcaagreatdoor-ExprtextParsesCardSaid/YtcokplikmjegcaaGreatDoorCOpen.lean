/- Products that came in: no claim of its own. -/
import Derived.Test.YtcokplikmjegcaaGreatDoorRows
import Derived.Test.YtcokplikmjegcaaGreatDoorJF
import Derived.Deep.Strs
import Derived.Lib.SmallJoins
import Derived.ChangeSlices
import Derived.WideShapes
import Derived.OpenShut
import Derived.ChangeSame
namespace Go.Proofs.YtcokplikmjegcaaGreatDoor
open Go.ChangeShapes Go.WideShapes Go.ChangeAt Go.RowKit Go.Joins Go.Deep
open MC (Pr)
/-- A slice of products that came in. -/
structure PrsIn (w : World) (A : Option Addr) (len cap : Nat) (l : List Pr) : Prop where
  cap_ : len ≤ cap ∧ cap ≤ maxLen
  reads : Reads w w.heap.size 5 A len (cellsPs l)
  len_ : l.length = len
  fine : ∀ p ∈ l, p.name.length ≤ 9223372036854775807
theorem PrsIn.prs {w : World} {A : Option Addr} {len cap : Nat} {l : List Pr} (h : PrsIn w A len cap l) (hl : len ≤ 100) : Prs w A len cap l := ⟨h.reads, h.len_, h.cap_.1, hl, h.fine⟩
theorem trod_five {H : Type} {P : Program} {enc : TypeId × Value → H} {w : World} {base : Nat} {spare : Nat → Bool} {held : Bool} {t : TypeId} {f0 f1 f2 f3 f4 : Field} {fuel : Nat} {cs : List Value} {x : DataW H × List MemPlace} (ht : P.underlying t = some (.struct #[f0, f1, f2, f3, f4])) (h : DataW.trod enc P w base spare held fuel t cs = some x) :
    ∃ y0 y1 y2 y3 y4 n, cs.length = P.cellsOf t ∧ DataW.trod enc P w base spare held n f0.type ((cs.drop f0.offset).take (P.cellsOf f0.type)) = some y0 ∧
      DataW.trod enc P w base spare held n f1.type ((cs.drop f1.offset).take (P.cellsOf f1.type)) = some y1 ∧ DataW.trod enc P w base spare held n f2.type ((cs.drop f2.offset).take (P.cellsOf f2.type)) = some y2 ∧
      DataW.trod enc P w base spare held n f3.type ((cs.drop f3.offset).take (P.cellsOf f3.type)) = some y3 ∧ DataW.trod enc P w base spare held n f4.type ((cs.drop f4.offset).take (P.cellsOf f4.type)) = some y4 := by
  obtain ⟨xs, n, _, rfl, hl, hlen, hf⟩ := DataW.trod_struct ht h
  match xs, hlen with
  | [y0, y1, y2, y3, y4], _ => exact ⟨y0, y1, y2, y3, y4, n, hl, by simpa using hf 0 f0 rfl, by simpa using hf 1 f1 rfl, by simpa using hf 2 f2 rfl, by simpa using hf 3 f3 rfl, by simpa using hf 4 f4 rfl⟩
set_option maxRecDepth 100000 in
theorem pr_of {H : Type} {enc : TypeId × Value → H} {W : World} {held : Bool} {n : Nat} {ad : Addr} {y : DataW H × List MemPlace}
    (h : ((W.cells? 0 ad 5).bind (DataW.trod enc Tryz.prog W 0 (fun _ => true) held n 71)) = some y) :
    ∃ t : Pr, (∀ j u, (cellsP t)[j]? = some u → W.cell? (ad.add j) = some u) ∧ t.name.length ≤ 9223372036854775807 := by
  rw [Option.bind_eq_some_iff] at h
  obtain ⟨cs, h1, h2⟩ := h
  obtain ⟨_, h3, h4⟩ := World.cells?_some h1
  obtain ⟨y0, y1, y2, y3, y4, n', _, t0, t1, t2, t3, t4⟩ := trod_five Tryz.underlying71 h2
  obtain ⟨c0, c1, c2, c3, c4, rfl⟩ : ∃ c0 c1 c2 c3 c4, cs = [c0, c1, c2, c3, c4] := by
    match cs, h3 with
    | [c0, c1, c2, c3, c4], _ => exact ⟨c0, c1, c2, c3, c4, rfl⟩
  have e0 := h4 0 (by omega)
  have e1 := h4 1 (by omega)
  have e2 := h4 2 (by omega)
  have e3 := h4 3 (by omega)
  have e4 := h4 4 (by omega)
  clear h1 h2 h3 h4
  simp only [List.getElem?_cons_zero, List.getElem?_cons_succ] at e0 e1 e2 e3 e4
  have u0 : DataW.trod enc Tryz.prog W 0 (fun _ => true) held n' 9 [c0] = some y0 := t0
  have u1 : DataW.trod enc Tryz.prog W 0 (fun _ => true) held n' 3 [c1] = some y1 := t1
  have u2 : DataW.trod enc Tryz.prog W 0 (fun _ => true) held n' 2 [c2] = some y2 := t2
  have u3 : DataW.trod enc Tryz.prog W 0 (fun _ => true) held n' 3 [c3] = some y3 := t3
  have u4 : DataW.trod enc Tryz.prog W 0 (fun _ => true) held n' 3 [c4] = some y4 := t4
  obtain ⟨z0, hz0, _, hw0⟩ := DataW.trod_string Tryz.underlying9 u0
  obtain ⟨z1, hz1, _, _⟩ := DataW.trod_int Tryz.underlying3 u1
  obtain ⟨z2, hz2, _, _⟩ := DataW.trod_int Tryz.underlying2 u2
  obtain ⟨z3, hz3, _, _⟩ := DataW.trod_int Tryz.underlying3 u3
  obtain ⟨z4, hz4, _, _⟩ := DataW.trod_int Tryz.underlying3 u4
  simp at hz0 hz1 hz2 hz3 hz4
  subst hz0; subst hz1; subst hz2; subst hz3; subst hz4
  refine ⟨⟨z0.data.toList, z1, z2, z3, z4⟩, ?_, by rw [size_list]; exact hw0⟩
  intro j u hu
  simp only [cellsP, str_self] at hu
  match j, hu with
  | 0, hu => simp at hu; rw [e0, hu]
  | 1, hu => simp at hu; rw [e1, hu]
  | 2, hu => simp at hu; rw [e2, hu]
  | 3, hu => simp at hu; rw [e3, hu]
  | 4, hu => simp at hu; rw [e4, hu]
  | _ + 5, hu => simp at hu
set_option maxRecDepth 100000 in
theorem open_prs {H : Type} {enc : TypeId × Value → H} {W : World} {held : Bool} {f : Nat} {v : Value} {y : DataW H × List MemPlace} (h : DataW.trod enc Tryz.prog W 0 (fun _ => true) held f 22 [v] = some y) :
    ∃ (A : Option Addr) (len cap : Nat) (l : List Pr), v = .slice A len cap ∧ PrsIn W A len cap l := by
  rcases DataW.trod_slice Tryz.underlying22 h with ⟨hcs, _⟩ | ⟨a, len, cap, elems, rest, n, _, hcs, hy, _, hl, hm, hlen, hel, _, _⟩
  · simp at hcs
    exact ⟨none, 0, 0, [], hcs, ⟨⟨Nat.le_refl _, Nat.zero_le _⟩, Reads.none_, rfl, (fun t ht => by cases ht)⟩⟩
  · simp at hcs
    have E : ∀ k, k < len → ∃ t : Pr, (∀ j u, (cellsP t)[j]? = some u → W.cell? ((a.add (k * 5)).add j) = some u) ∧ t.name.length ≤ 9223372036854775807 := fun k hk => by
      have hE := hel k hk
      rw [show Tryz.prog.cellsOf 71 = 5 by kernel_rfl] at hE
      have hlk : k < elems.length := by omega
      rw [List.getElem?_eq_getElem hlk] at hE
      exact pr_of hE
    obtain ⟨ts, hts, hat⟩ : ∃ ts : List Pr, ts.length = len ∧ ∀ k t, ts[k]? = some t → (∀ j u, (cellsP t)[j]? = some u → W.cell? ((a.add (k * 5)).add j) = some u) ∧ t.name.length ≤ 9223372036854775807 := by
      refine ⟨List.ofFn (fun i : Fin len => Classical.choose (E i.val i.isLt)), by simp, fun k t hk => ?_⟩
      obtain ⟨hk', e⟩ := List.getElem?_eq_some_iff.1 hk
      rw [List.getElem_ofFn] at e
      subst e
      exact Classical.choose_spec (E k (by simpa using hk'))
    refine ⟨some a, len, cap, ts, hcs, ⟨⟨hl, hm⟩, ⟨by rw [cellsPs_length, hts], fun hp => ⟨a, rfl, ?_, fun j u hu => ?_⟩⟩, hts, fun t ht => ?_⟩⟩
    · have h0 := (hat 0 ts[0] (List.getElem?_eq_getElem (by omega))).1 0 _ rfl
      have := World.block_lt_of_cell? W _ h0
      rwa [block_of_add, block_of_add] at this
    · have hj : j < ts.length * 5 := by
        have := (List.getElem?_eq_some_iff.1 hu).1
        rwa [cellsPs_length] at this
      have hk : j / 5 < ts.length := by omega
      have e := cellsPs_at ts (j / 5) (j % 5) hk (by omega)
      rw [show j / 5 * 5 + j % 5 = j by omega, hu] at e
      have := (hat (j / 5) ts[j / 5] (List.getElem?_eq_getElem hk)).1 (j % 5) u e.symm
      rwa [add_of_add, show j / 5 * 5 + j % 5 = j by omega] at this
    · obtain ⟨k, hk, e⟩ := List.mem_iff_getElem.1 ht
      exact (hat k t (by rw [List.getElem?_eq_getElem hk, e])).2
end Go.Proofs.YtcokplikmjegcaaGreatDoor
