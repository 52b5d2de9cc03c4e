/- Tokens and steps that came in: no claim of its own. -/
import Derived.Test.YtdgflkkdcejadaaRows
import Derived.Test.YtdgflkkdcejadaaLEq
import Derived.Test.YtdgflkkdcejadaaLJoin
import Derived.Deep.Strs
import Derived.Lib.SmallJoins
import Derived.ChangeSlices
import Derived.WideShapes
namespace Go.Proofs.Ytdgflkkdcejadaa
open Go.ChangeShapes Go.WideShapes Go.ChangeAt Go.RowKit Go.Joins Go.Deep
/-- A slice of tokens that came in. -/
structure ToksIn (w : World) (A : Option Addr) (len cap : Nat) (ts : List Tk) : Prop where
  cap_ : len ≤ cap ∧ cap ≤ maxLen
  reads : Reads w w.heap.size 4 A len (cellsTs ts)
  len_ : ts.length = len
  fine : AllFine ts
  nil_ : A = none → len = 0 ∧ cap = 0
theorem ToksIn.tks {w : World} {A : Option Addr} {len cap : Nat} {ts : List Tk} (h : ToksIn w A len cap ts) (hl : len ≤ 100000) : Tks w A len cap ts := ⟨h.reads, h.len_, h.cap_.1, hl⟩
/-- How many letters the texts have. -/
def letters (ts : List Tk) : Nat := (ts.map fun t => t.text.length).sum
def datT {H : Type} (t : Tk) : DataW H := .agg [.lit (.int .i64 t.kind), .lit (.string t.text), .lit (.int .i64 t.value), .lit (.int .i64 t.at_)]
theorem letters_le {H : Type} (ts : List Tk) : letters ts ≤ Rows.uptoBulkAll (ts.map (datT (H := H))) := by
  induction ts with
  | nil => exact Nat.zero_le _
  | cons t r ih =>
    have e : letters (t :: r) = t.text.length + letters r := by simp [letters]
    rw [e, List.map_cons]
    simp only [Rows.uptoBulkAll, datT, Rows.uptoBulk] at ih ⊢
    omega
theorem letters_append (a b : List Tk) : letters (a ++ b) = letters a + letters b := by unfold letters; rw [List.map_append, List.sum_append]
theorem letters_one (t : Tk) : letters [t] = t.text.length := by simp [letters]
theorem joinP_letters (ts : List Tk) : ∀ k, k ≤ ts.length → (joinP ts k).length ≤ letters (ts.take k) + k := by
  intro k
  induction k with
  | zero => intro _; simp [joinP]
  | succ k ih =>
    intro hk
    have h1 := ih (by omega)
    have hg : ts[k]? = some ts[k] := List.getElem?_eq_getElem (by omega)
    have e : letters (ts.take (k + 1)) = letters (ts.take k) + (textAt ts k).length := by
      rw [List.take_succ_eq_append_getElem (by omega), (at_eq hg).2, letters_append, letters_one]
    cases es : sepB ts k with
    | true => rw [joinP_yes es]; simp only [List.length_append, List.length_singleton]; omega
    | false => rw [joinP_no es]; simp only [List.length_append]; omega
theorem tok_of {H : Type} {enc : TypeId × Value → H} {W : World} {held : Bool} {n : Nat} {ad : Addr} {y : DataW H × List MemPlace}
    (h : ((W.cells? 0 ad 4).bind (DataW.trod enc Try.prog W 0 (fun _ => true) held n 33)) = some y) :
    ∃ t : Tk, (∀ j u, (cellsT t)[j]? = some u → W.cell? (ad.add j) = some u) ∧ Fine t ∧ y.1 = datT t := by
  rw [Option.bind_eq_some_iff] at h
  obtain ⟨cs, h1, h2⟩ := h
  obtain ⟨_, h3, h4⟩ := World.cells?_some h1
  obtain ⟨y0, y1, y2, y3, n', hy, _, t0, t1, t2, t3⟩ := trod_struct4 Try.underlying33 h2
  obtain ⟨c0, c1, c2, c3, rfl⟩ : ∃ c0 c1 c2 c3, cs = [c0, c1, c2, c3] := by
    match cs, h3 with
    | [c0, c1, c2, c3], _ => exact ⟨c0, c1, c2, c3, rfl⟩
  have e0 := h4 0 (by omega)
  have e1 := h4 1 (by omega)
  have e2 := h4 2 (by omega)
  have e3 := h4 3 (by omega)
  clear h1 h2 h3 h4
  simp only [List.getElem?_cons_zero, List.getElem?_cons_succ] at e0 e1 e2 e3
  have u0 : DataW.trod enc Try.prog W 0 (fun _ => true) held n' 3 [c0] = some y0 := t0
  have u1 : DataW.trod enc Try.prog W 0 (fun _ => true) held n' 9 [c1] = some y1 := t1
  have u2 : DataW.trod enc Try.prog W 0 (fun _ => true) held n' 2 [c2] = some y2 := t2
  have u3 : DataW.trod enc Try.prog W 0 (fun _ => true) held n' 3 [c3] = some y3 := t3
  obtain ⟨z0, hz0, hy0, hw0⟩ := DataW.trod_int Try.underlying3 u0
  obtain ⟨z1, hz1, hy1, hw1⟩ := DataW.trod_string Try.underlying9 u1
  obtain ⟨z2, hz2, hy2, hw2⟩ := DataW.trod_int Try.underlying2 u2
  obtain ⟨z3, hz3, hy3, hw3⟩ := DataW.trod_int Try.underlying3 u3
  simp at hz0 hz1 hz2 hz3
  subst hz0; subst hz1; subst hz2; subst hz3
  have b0 := bounds_i64 hw0
  have b2 := bounds_i64 hw2
  have b3 := bounds_i64 hw3
  refine ⟨⟨z0, z1.data.toList, z2, z3⟩, ?_, ⟨b0.1, b0.2, b2.1, b2.2, b3.1, b3.2, by rw [size_list]; exact hw1⟩, ?_⟩
  · intro j u hu
    simp only [cellsT, str_self] at hu
    match j, hu with
    | 0, hu => simp at hu; rw [e0, hu]
    | 1, hu => simp at hu; rw [e1, hu]
    | 2, hu => simp at hu; rw [e2, hu]
    | 3, hu => simp at hu; rw [e3, hu]
    | _ + 4, hu => simp at hu
  · rw [hy, hy0, hy1, hy2, hy3]; rfl
set_option maxRecDepth 100000 in
theorem open_toks {H : Type} {enc : TypeId × Value → H} {W : World} {held : Bool} {f : Nat} {v : Value} {y : DataW H × List MemPlace} (h : DataW.trod enc Try.prog W 0 (fun _ => true) held f 23 [v] = some y) :
    ∃ (A : Option Addr) (len cap : Nat) (ts : List Tk), v = .slice A len cap ∧ ToksIn W A len cap ts ∧ letters ts ≤ Rows.uptoBulk y.1 := by
  rcases DataW.trod_slice Try.underlying23 h with ⟨hcs, _⟩ | ⟨a, len, cap, elems, rest, n, _, hcs, hy, _, hl, hm, hlen, hel, _, _⟩
  · simp at hcs
    exact ⟨none, 0, 0, [], hcs, ⟨⟨Nat.le_refl _, Nat.zero_le _⟩, Reads.none_, rfl, (fun t ht => by cases ht), fun _ => ⟨rfl, rfl⟩⟩, Nat.zero_le _⟩
  · simp at hcs
    have E : ∀ k, k < len → ∃ t : Tk, (∀ j u, (cellsT t)[j]? = some u → W.cell? ((a.add (k * 4)).add j) = some u) ∧ Fine t ∧ (elems[k]?.map (·.1)) = some (datT t) := fun k hk => by
      have hE := hel k hk
      rw [show Try.prog.cellsOf 33 = 4 by kernel_rfl] at hE
      have hlk : k < elems.length := by omega
      rw [List.getElem?_eq_getElem hlk] at hE
      obtain ⟨t, h1, h2, h3⟩ := tok_of hE
      exact ⟨t, h1, h2, by rw [List.getElem?_eq_getElem hlk, Option.map_some, h3]⟩
    obtain ⟨ts, hts, hat⟩ : ∃ ts : List Tk, ts.length = len ∧ ∀ k t, ts[k]? = some t → (∀ j u, (cellsT t)[j]? = some u → W.cell? ((a.add (k * 4)).add j) = some u) ∧ Fine t ∧ (elems[k]?.map (·.1)) = some (datT t) := by
      refine ⟨List.ofFn (fun i : Fin len => Classical.choose (E i.val i.isLt)), by simp, fun k t hk => ?_⟩
      obtain ⟨hk', e⟩ := List.getElem?_eq_some_iff.1 hk
      rw [List.getElem_ofFn] at e
      subst e
      exact Classical.choose_spec (E k (by simpa using hk'))
    refine ⟨some a, len, cap, ts, hcs, ⟨⟨hl, hm⟩, ⟨by rw [cellsTs_length, hts], fun hp => ⟨a, rfl, ?_, fun j u hu => ?_⟩⟩, hts, fun t ht => ?_, fun h => by cases h⟩, ?_⟩
    · have h0 := (hat 0 ts[0] (List.getElem?_eq_getElem (by omega))).1 0 _ rfl
      have := World.block_lt_of_cell? W _ h0
      rwa [block_of_add, block_of_add] at this
    · have hj : j < ts.length * 4 := by
        have := (List.getElem?_eq_some_iff.1 hu).1
        rwa [cellsTs_length] at this
      have hk : j / 4 < ts.length := by omega
      have e := cellsTs_at ts (j / 4) (j % 4) hk (by omega)
      rw [show j / 4 * 4 + j % 4 = j by omega, hu] at e
      have := (hat (j / 4) ts[j / 4] (List.getElem?_eq_getElem hk)).1 (j % 4) u e.symm
      rwa [add_of_add, show j / 4 * 4 + j % 4 = j by omega] at this
    · obtain ⟨k, hk, e⟩ := List.mem_iff_getElem.1 ht
      exact (hat k t (by rw [List.getElem?_eq_getElem hk, e])).2.1
    · have e : elems.map (·.1) = ts.map datT := by
        apply List.ext_getElem?
        intro k
        rw [List.getElem?_map, List.getElem?_map]
        rcases Nat.lt_or_ge k ts.length with hk | hk
        · have g : ts[k]? = some ts[k] := List.getElem?_eq_getElem hk
          rw [(hat k _ g).2.2, g]; rfl
        · rw [List.getElem?_eq_none hk, List.getElem?_eq_none (by omega)]; rfl
      rw [hy]
      show letters ts ≤ Rows.uptoBulk (.slice (elems.map (·.1)) (rest.map (·.1)))
      rw [e]
      have := letters_le (H := H) ts
      simp only [Rows.uptoBulk]
      omega
/-- The steps, as they came in. -/
structure StepsIn (w : World) (A : Option Addr) (len cap : Nat) : Prop where
  cap_ : len ≤ cap ∧ cap ≤ maxLen
  el : ∀ k, k < len → ∃ (ad : Addr) (kd : Int) (m : ByteArray) (n : Int), A = some ad ∧ w.cell? (ad.add (k * 3)) = some (.int .i64 kd) ∧ w.cell? ⟨(ad.add (k * 3)).block, (ad.add (k * 3)).off + 1, none⟩ = some (.string m) ∧ w.cell? ⟨(ad.add (k * 3)).block, (ad.add (k * 3)).off + 2, none⟩ = some (.int .i64 n) ∧
    -9223372036854775808 ≤ n ∧ n ≤ 9223372036854775807
set_option maxRecDepth 100000 in
theorem open_steps {H : Type} {enc : TypeId × Value → H} {W : World} {held : Bool} {f : Nat} {v : Value} {y : DataW H × List MemPlace} (h : DataW.trod enc Try.prog W 0 (fun _ => true) held f 38 [v] = some y) :
    ∃ (A : Option Addr) (len cap : Nat), v = .slice A len cap ∧ StepsIn W A len cap := by
  rcases DataW.trod_slice Try.underlying38 h with ⟨hcs, _⟩ | ⟨a, len, cap, elems, rest, n, _, hcs, _, _, hl, hm, hlen, hel, _, _⟩
  · simp at hcs
    exact ⟨none, 0, 0, hcs, ⟨Nat.le_refl _, Nat.zero_le _⟩, fun k hk => absurd hk (by omega)⟩
  · simp at hcs
    refine ⟨some a, len, cap, hcs, ⟨hl, hm⟩, fun k hk => ?_⟩
    have hE := hel k hk
    rw [show Try.prog.cellsOf 45 = 3 by kernel_rfl] at hE
    have hlk : k < elems.length := by omega
    rw [List.getElem?_eq_getElem hlk, Option.bind_eq_some_iff] at hE
    obtain ⟨cs, h1, h2⟩ := hE
    obtain ⟨_, h3, h4⟩ := World.cells?_some h1
    obtain ⟨y0, y1, y2, n', _, hl3, t0, t1, t2⟩ := trod_struct3 Try.underlying45 h2
    obtain ⟨c0, c1, c2, rfl⟩ : ∃ c0 c1 c2, cs = [c0, c1, c2] := by
      match cs, h3 with
      | [c0, c1, c2], _ => exact ⟨c0, c1, c2, rfl⟩
    have e0 := h4 0 (by omega)
    have e1 := h4 1 (by omega)
    have e2 := h4 2 (by omega)
    clear h1 h2 h3 h4 hel
    simp only [Addr.add_add, List.getElem?_cons_zero, List.getElem?_cons_succ] at e0 e1 e2
    have u0 : DataW.trod enc Try.prog W 0 (fun _ => true) held n' 3 [c0] = some y0 := t0
    have u1 : DataW.trod enc Try.prog W 0 (fun _ => true) held n' 9 [c1] = some y1 := t1
    have u2 : DataW.trod enc Try.prog W 0 (fun _ => true) held n' 2 [c2] = some y2 := t2
    obtain ⟨z0, hz0, _, hw0⟩ := DataW.trod_int Try.underlying3 u0
    obtain ⟨z1, hz1, _, hw1⟩ := DataW.trod_string Try.underlying9 u1
    obtain ⟨z2, hz2, _, hw2⟩ := DataW.trod_int Try.underlying2 u2
    simp at hz0 hz1 hz2
    subst hz0; subst hz1; subst hz2
    have b2 := bounds_i64 hw2
    rw [show a.add (k * 3 + 1) = ⟨(a.add (k * 3)).block, (a.add (k * 3)).off + 1, none⟩ by rw [← Addr.add_add]; rfl] at e1
    rw [show a.add (k * 3 + 2) = ⟨(a.add (k * 3)).block, (a.add (k * 3)).off + 2, none⟩ by rw [← Addr.add_add]; rfl] at e2
    exact ⟨a, z0, z1, z2, rfl, e0, e1, e2, b2.1, b2.2⟩
end Go.Proofs.Ytdgflkkdcejadaa
