/- Lists in memory, whatever their elements are; lists that came in. Plain theorems, no claim of their own. -/
import Derived.Test.YtpemamkhaiiaaaaLBase
import Derived.Deep.Strs
import Derived.Lib.SmallJoins
import Derived.ChangeSlices
import Derived.WideShapes
import Derived.OpenShut
import Derived.ChangeSame
namespace Go.Proofs.Ytpemamkhaiiaaaa
open Go.RowKit
/-- How an element lies in memory: its cells, and what holds of an element that the code can meet. -/
structure El (α : Type) where
  cells : α → List Value
  sz : Nat
  fine : α → Prop
  len : ∀ a, fine a → (cells a).length = sz
  one : ∀ a, ∀ u ∈ cells a, u.oneCell' = true
  pos : 0 < sz
section
variable {α : Type} (E : El α)
/-- All elements' cells. -/
def El.all (l : List α) : List Value := l.flatMap E.cells
def El.Fine (l : List α) : Prop := ∀ x ∈ l, E.fine x
theorem El.Fine.nil : E.Fine [] := fun _ h => by cases h
variable {E}
theorem El.Fine.tail {x : α} {r : List α} (h : E.Fine (x :: r)) : E.Fine r := fun y hy => h y (List.mem_cons_of_mem _ hy)
theorem El.Fine.head {x : α} {r : List α} (h : E.Fine (x :: r)) : E.fine x := h x List.mem_cons_self
theorem El.Fine.snoc {l : List α} {x : α} (h : E.Fine l) (hx : E.fine x) : E.Fine (l ++ [x]) := fun y hy => by
  rcases List.mem_append.1 hy with g | g
  · exact h y g
  · rw [List.mem_singleton.1 g]; exact hx
theorem El.Fine.take {l : List α} (h : E.Fine l) (k : Nat) : E.Fine (l.take k) := fun y hy => h y (List.mem_of_mem_take hy)
theorem El.Fine.drop {l : List α} (h : E.Fine l) (k : Nat) : E.Fine (l.drop k) := fun y hy => h y (List.mem_of_mem_drop hy)
theorem El.all_length {l : List α} (h : E.Fine l) : (E.all l).length = l.length * E.sz := by
  induction l with
  | nil => simp [El.all]
  | cons t r ih =>
    show (E.cells t ++ E.all r).length = _
    rw [List.length_append, ih h.tail, E.len t h.head, List.length_cons, Nat.succ_mul]; omega
theorem El.all_append (a b : List α) : E.all (a ++ b) = E.all a ++ E.all b := by simp [El.all]
theorem El.all_one (t : α) : E.all [t] = E.cells t := by simp [El.all]
theorem El.all_drop {l : List α} (h : E.Fine l) (k : Nat) : (E.all l).drop (k * E.sz) = E.all (l.drop k) := by
  induction l generalizing k with
  | nil => simp [El.all]
  | cons t r ih =>
    have ht := E.len t h.head
    cases k with
    | zero => simp
    | succ k =>
      show (E.cells t ++ E.all r).drop ((k + 1) * E.sz) = E.all (r.drop k)
      rw [← ih h.tail k, List.drop_append, Nat.succ_mul, List.drop_of_length_le (by rw [ht]; exact Nat.le_add_left _ _), List.nil_append, ht, Nat.add_sub_cancel]
theorem El.all_take {l : List α} (h : E.Fine l) (k : Nat) : (E.all l).take (k * E.sz) = E.all (l.take k) := by
  have e : E.all l = E.all (l.take k) ++ E.all (l.drop k) := by rw [← El.all_append, List.take_append_drop]
  by_cases hk : k ≤ l.length
  · have hl : (E.all (l.take k)).length = k * E.sz := by rw [El.all_length (h.take k), List.length_take, Nat.min_eq_left hk]
    rw [e, ← hl, List.take_left']
    rfl
  · rw [List.take_of_length_le (l := l) (by omega), List.take_of_length_le]
    rw [El.all_length h]
    exact Nat.mul_le_mul_right _ (by omega)
theorem El.all_at {l : List α} (h : E.Fine l) {k i : Nat} {x : α} (hk : l[k]? = some x) (hi : i < E.sz) : (E.all l)[k * E.sz + i]? = (E.cells x)[i]? := by
  obtain ⟨hl, rfl⟩ := List.getElem?_eq_some_iff.1 hk
  have e := El.all_drop h k
  rw [List.drop_eq_getElem_cons hl] at e
  have : (E.all l)[k * E.sz + i]? = ((E.all l).drop (k * E.sz))[i]? := by rw [List.getElem?_drop]
  rw [this, e]
  show (E.cells l[k] ++ E.all (l.drop (k + 1)))[i]? = _
  rw [List.getElem?_append_left (by rw [E.len _ (h _ (List.getElem_mem hl))]; exact hi)]
end
/-- A slice that reads as l. -/
structure Lst {α : Type} (E : El α) (w : World) (A : Option Addr) (n c : Nat) (l : List α) : Prop where
  reads : Reads w w.heap.size E.sz A n (E.all l)
  len : l.length = n
  cap : n ≤ c
  few : n ≤ 9223372036854775807
  fine : E.Fine l
section
variable {α : Type} {E : El α} {w w' : World} {A : Option Addr} {n c : Nat} {l : List α}
theorem Lst.keep (h : Lst E w A n c l) (hb : Below w.heap.size w w') : Lst E w' A n c l := ⟨(h.reads.below hb).more hb.size, h.len, h.cap, h.few, h.fine⟩
theorem Lst.drew (h : Lst E w A n c l) : Lst E w.drew A n c l := h.keep (below_drawn w)
theorem Lst.drewN (h : Lst E w A n c l) (q : Nat) : Lst E (w.drewN q) A n c l := h.keep (below_drewN (Below.refl _ _) q)
theorem Lst.nil (w : World) : Lst E w none 0 0 [] := ⟨by show Reads w w.heap.size E.sz none 0 []; exact Reads.none_, rfl, Nat.le_refl _, Nat.zero_le _, El.Fine.nil E⟩
theorem Lst.nil' (w : World) (c : Nat) (A : Option Addr) : Lst E w A 0 c [] := ⟨⟨by simp [El.all], fun h => absurd h (Nat.lt_irrefl 0)⟩, rfl, Nat.zero_le _, Nat.zero_le _, El.Fine.nil E⟩
theorem Lst.get (h : Lst E w A n c l) {k : Nat} (hk : k < n) : ∃ x, l[k]? = some x ∧ E.fine x := by
  have hl : k < l.length := by rw [h.len]; exact hk
  exact ⟨l[k], List.getElem?_eq_getElem hl, h.fine _ (List.getElem_mem hl)⟩
/-- The k-th element's cells. -/
theorem Lst.at0 (h : Lst E w A n c l) {k : Nat} (hk : k < n) : ∃ (ad : Addr) (x : α), A = some ad ∧ l[k]? = some x ∧ E.fine x ∧ ad.block < w.heap.size ∧
    ∀ i u, (E.cells x)[i]? = some u → w.cell? ((ad.add (k * E.sz)).add i) = some u := by
  obtain ⟨ad, e, hb, hc⟩ := h.reads.2 (by omega)
  obtain ⟨x, hx, hf⟩ := h.get hk
  refine ⟨ad, x, e, hx, hf, hb, fun i u hu => ?_⟩
  have hi : i < E.sz := by rw [← E.len x hf]; exact (List.getElem?_eq_some_iff.1 hu).1
  rw [add_of_add]
  exact hc _ u ((El.all_at h.fine hx hi).trans hu)
theorem Lst.take (h : Lst E w A n c l) {k : Nat} (hk : k ≤ n) : Lst E w A k c (l.take k) := by
  have hl := h.len
  refine ⟨⟨by rw [El.all_length (h.fine.take k), List.length_take, Nat.min_eq_left (by omega)], fun h0 => ?_⟩, by rw [List.length_take]; omega, Nat.le_trans hk h.cap, Nat.le_trans hk h.few, h.fine.take k⟩
  obtain ⟨ad, e, hb, hc⟩ := h.reads.2 (by omega)
  refine ⟨ad, e, hb, fun j u hu => hc j u ?_⟩
  rw [← El.all_take h.fine] at hu
  have hj := (List.getElem?_eq_some_iff.1 hu).1
  rw [List.length_take] at hj
  rwa [List.getElem?_take_of_lt (by omega)] at hu
theorem Lst.drop (h : Lst E w A n c l) {k : Nat} (hk : k ≤ n) : Lst E w (if c = k then A else A.map (·.add (k * E.sz))) (n - k) (c - k) (l.drop k) := by
  have := h.reads.cut (k := k) hk h.cap
  rw [El.all_drop h.fine] at this
  exact ⟨this, by rw [List.length_drop, h.len], by have := h.cap; omega, by have := h.few; omega, h.fine.drop k⟩
end
/-- The call's own row. -/
def OwnL {α : Type} (E : El α) (e : TypeId) (w : World) (B : Nat) (v : Value) (l : List α) : Prop := w.ownsRow B e E.sz v l.length (E.all l) ∧ E.Fine l
section
variable {α : Type} {E : El α} {e : TypeId} {w wr w1 w' : World} {B : Nat} {v v' : Value} {l : List α}
theorem OwnL.nil (e : TypeId) (w : World) (B : Nat) : OwnL E e w B (.slice none 0 0) [] := ⟨World.ownsRow_nil _ _ _ _, El.Fine.nil E⟩
theorem OwnL.form2 (h : OwnL E e w B v l) (hn : l.length ≤ 9223372036854775807) : ∃ A c, v = .slice A l.length c ∧ Lst E w A l.length c l ∧ ∀ ad, A = some ad → B ≤ ad.block ∧ ad.block < w.heap.size := by
  have K : ∃ A c, v = .slice A l.length c ∧ Lst E w A l.length c l := by
    rcases h.1.2 with ⟨rfl, h0⟩ | ⟨g, cap, cur, rfl, hg, hh, hc, hm, hsz, ht⟩
    · have : l = [] := List.eq_nil_of_length_eq_zero h0
      subst this
      exact ⟨none, 0, rfl, Lst.nil _⟩
    · exact ⟨_, _, rfl, ⟨Reads.of_own (A := some ⟨g, 0, none⟩) (c := cap) h.1, rfl, hc, hn, h.2⟩⟩
  obtain ⟨A, c, hv, ht⟩ := K
  refine ⟨A, c, hv, ht, fun ad ha => ?_⟩
  subst ha
  exact World.ownsRow.lt h.1 ad.block (by rw [hv]; rfl)
theorem OwnL.form (h : OwnL E e w B v l) (hn : l.length ≤ 9223372036854775807) : ∃ A c, v = .slice A l.length c ∧ Lst E w A l.length c l := by
  obtain ⟨A, c, hv, ht, _⟩ := h.form2 hn
  exact ⟨A, c, hv, ht⟩
theorem OwnL.keep (h : OwnL E e w B v l) (hb : Below w.heap.size w w') : OwnL E e w' B v l :=
  ⟨World.ownsRow.kept (row := none) h.1 ⟨hb.os, hb.tape, hb.output, hb.size, fun k hk _ => hb.block k hk⟩ (by cases hv : v.ownBlock <;> simp), h.2⟩
theorem OwnL.app {x : α} (h : OwnL E e wr B v l) (hx : E.fine x) (hB : Below B w wr) (hs : B ≤ wr.heap.size) (hown : w1.ownsRow B e E.sz v' (l.length + 1) (E.all l ++ E.cells x)) (hg : wr.grownBy w1 v.ownBlock) :
    OwnL E e w1 B v' (l ++ [x]) ∧ Below B w w1 := by
  refine ⟨⟨?_, h.2.snoc hx⟩, hB.grown hg hs (fun k hk => (World.ownsRow.lt h.1 k hk).1)⟩
  rw [El.all_append, El.all_one, List.length_append]
  exact hown
end
/-- A call hands back a slice that reads as l. -/
def GivesL {α : Type} (E : El α) (l : List α) (w : World) (e : Ending) (w' : World) : Prop := ∃ A n c, e = .returned (.slice A n c) ∧ Lst E w' A n c l ∧ Below w.heap.size w w'
/-- A slice that came in. -/
structure LstIn {α : Type} (E : El α) (w : World) (A : Option Addr) (len cap : Nat) (l : List α) : Prop where
  cap_ : len ≤ cap ∧ cap ≤ maxLen
  lst : Lst E w A len cap l
/-- What is read of a type's cells is an element. -/
def Opens {α : Type} (E : El α) (P : Program) (te : TypeId) : Prop :=
  ∀ (H : Type) (enc : TypeId × Value → H) (W : World) (held : Bool) (n : Nat) (cs : List Value) (y : DataW H × List MemPlace), DataW.trod enc P W 0 (fun _ => true) held n te cs = some y → ∃ x : α, cs = E.cells x ∧ E.fine x
theorem cut_cells (cs : List Value) (a s b : Nat) (h : b = a + s) : cs.drop a = (cs.drop a).take s ++ cs.drop b := by
  subst h
  conv => lhs; rw [← List.take_append_drop s (cs.drop a)]
  rw [List.drop_drop]
theorem open_lst {α : Type} {E : El α} {P : Program} {t te : TypeId} (ht : P.underlying t = some (.slice te)) (hc : P.cellsOf te = E.sz) (hO : Opens E P te)
    {H : Type} {enc : TypeId × Value → H} {W : World} {held : Bool} {f : Nat} {v : Value} {y : DataW H × List MemPlace} (h : DataW.trod enc P W 0 (fun _ => true) held f t [v] = some y) :
    ∃ (A : Option Addr) (len cap : Nat) (l : List α), v = .slice A len cap ∧ LstIn E W A len cap l := by
  rcases DataW.trod_slice ht h with ⟨hcs, _⟩ | ⟨a, len, cap, elems, rest, n, _, hcs, hy, _, hl, hm, hlen, hel, _, _⟩
  · simp at hcs
    exact ⟨none, 0, 0, [], hcs, ⟨⟨Nat.le_refl _, Nat.zero_le _⟩, Lst.nil _⟩⟩
  · simp at hcs
    have EE : ∀ k, k < len → ∃ x : α, (∀ j u, (E.cells x)[j]? = some u → W.cell? ((a.add (k * E.sz)).add j) = some u) ∧ E.fine x := fun k hk => by
      have hE := hel k hk
      rw [hc] at hE
      have hlk : k < elems.length := by omega
      rw [List.getElem?_eq_getElem hlk, Option.bind_eq_some_iff] at hE
      obtain ⟨cs, h1, h2⟩ := hE
      obtain ⟨_, h3, h4⟩ := World.cells?_some h1
      obtain ⟨x, rfl, hf⟩ := hO _ _ _ _ _ _ _ h2
      refine ⟨x, fun j u hu => ?_, hf⟩
      rw [h4 j (by rw [← h3]; exact (List.getElem?_eq_some_iff.1 hu).1), hu]
    obtain ⟨ts, hts, hat⟩ : ∃ ts : List α, ts.length = len ∧ ∀ k t, ts[k]? = some t → (∀ j u, (E.cells t)[j]? = some u → W.cell? ((a.add (k * E.sz)).add j) = some u) ∧ E.fine t := by
      refine ⟨List.ofFn (fun i : Fin len => Classical.choose (EE i.val i.isLt)), by simp, fun k t hk => ?_⟩
      obtain ⟨hk', e⟩ := List.getElem?_eq_some_iff.1 hk
      rw [List.getElem_ofFn] at e
      subst e
      exact Classical.choose_spec (EE k (by simpa using hk'))
    have HF : E.Fine ts := fun t ht => by
      obtain ⟨k, hk, e⟩ := List.mem_iff_getElem.1 ht
      exact (hat k t (by rw [List.getElem?_eq_getElem hk, e])).2
    have hmx : len ≤ 9223372036854775807 := Nat.le_trans hl hm
    refine ⟨some a, len, cap, ts, hcs, ⟨⟨hl, hm⟩, ⟨⟨by rw [El.all_length HF, hts], fun hp => ⟨a, rfl, ?_, fun j u hu => ?_⟩⟩, hts, hl, hmx, HF⟩⟩⟩
    · have hx := List.getElem?_eq_getElem (l := ts) (i := 0) (by omega)
      have h0 := hat 0 ts[0] hx
      have hp0 : 0 < (E.cells ts[0]).length := by rw [E.len _ h0.2]; exact E.pos
      have h1 := h0.1 0 _ (List.getElem?_eq_getElem hp0)
      have := World.block_lt_of_cell? W _ h1
      rwa [block_of_add, block_of_add] at this
    · have hj : j < ts.length * E.sz := by
        have := (List.getElem?_eq_some_iff.1 hu).1
        rwa [El.all_length HF] at this
      have hk : j / E.sz < ts.length := Nat.div_lt_of_lt_mul (by rwa [Nat.mul_comm] at hj)
      have hx := List.getElem?_eq_getElem hk
      have e := El.all_at HF (i := j % E.sz) hx (Nat.mod_lt _ E.pos)
      have ej : j / E.sz * E.sz + j % E.sz = j := by rw [Nat.mul_comm]; exact Nat.div_add_mod j E.sz
      rw [ej, hu] at e
      have := (hat (j / E.sz) _ hx).1 (j % E.sz) u e.symm
      rwa [add_of_add, ej] at this
/-- Texts, integers as elements. -/
def strE : El (List UInt8) where
  cells s := [.string (str s)]
  sz := 1
  fine s := s.length ≤ 9223372036854775807
  len _ _ := rfl
  one a u hu := by rw [List.mem_singleton.1 hu]; rfl
  pos := by decide
def intE : El Int where
  cells x := [.int .i64 x]
  sz := 1
  fine x := -9223372036854775808 ≤ x ∧ x ≤ 9223372036854775807
  len _ _ := rfl
  one a u hu := by rw [List.mem_singleton.1 hu]; rfl
  pos := by decide
/-- The k-th, as the walk spells it. -/
theorem str_at {w : World} {A : Option Addr} {n c : Nat} {l : List (List UInt8)} (h : Lst strE w A n c l) {k : Nat} (hk : k < n) : ∃ (ad : Addr) (s : List UInt8), A = some ad ∧ l[k]? = some s ∧ s.length ≤ 9223372036854775807 ∧ ad.block < w.heap.size ∧ w.cell? (ad.add k) = some (.string (str s)) := by
  obtain ⟨ad, p, e, hx, hf, hb, hc⟩ := h.at0 hk
  refine ⟨ad, p, e, hx, hf, hb, ?_⟩
  have := hc 0 _ rfl
  rw [add_of_add] at this
  simpa [strE] using this
theorem int_at {w : World} {A : Option Addr} {n c : Nat} {l : List Int} (h : Lst intE w A n c l) {k : Nat} (hk : k < n) : ∃ (ad : Addr) (x : Int), A = some ad ∧ l[k]? = some x ∧ (-9223372036854775808 ≤ x ∧ x ≤ 9223372036854775807) ∧ ad.block < w.heap.size ∧ w.cell? (ad.add k) = some (.int .i64 x) := by
  obtain ⟨ad, p, e, hx, hf, hb, hc⟩ := h.at0 hk
  refine ⟨ad, p, e, hx, hf, hb, ?_⟩
  have := hc 0 _ rfl
  rw [add_of_add] at this
  simpa [intE] using this
/-- A literal slice. -/
theorem Lst.lit {α : Type} {E : El α} {w : World} {b : Nat} {T : TypeId} {cs : Array Value} (L : List α) (n : Nat) (h : w.heap[b]? = some (.cells cs T (0, 0))) (hc : cs.toList = E.all L) (hn : L.length = n) (hf : n ≤ 9223372036854775807) (hfi : E.Fine L) : Lst E w (some ⟨b, 0, none⟩) n n L := by
  refine ⟨⟨by rw [El.all_length hfi, hn], fun _ => ⟨_, rfl, (Array.getElem?_eq_some_iff.1 h).1, fun j u hu => ?_⟩⟩, hn, Nat.le_refl _, hf, hfi⟩
  rw [addr_add, Nat.zero_add, cell_of_row w b j _ _ _ h]
  rw [← hc] at hu
  simpa using hu
theorem opens_str {P : Program} {te : TypeId} (ht : P.underlying te = some .string) : Opens strE P te := fun H enc W held n cs y h => by
  obtain ⟨s, rfl, _, hs⟩ := DataW.trod_string ht h
  exact ⟨s.data.toList, by simp [strE, str_self], by show s.data.toList.length ≤ _; rw [size_list]; exact hs⟩
theorem opens_int {P : Program} {te : TypeId} (ht : P.underlying te = some (.int .i64)) : Opens intE P te := fun H enc W held n cs y h => by
  obtain ⟨s, rfl, _, hs⟩ := DataW.trod_int ht h
  exact ⟨s, rfl, bounds_i64 hs⟩
end Go.Proofs.Ytpemamkhaiiaaaa
