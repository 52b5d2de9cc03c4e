/- GList, EBase, EOpen, joined: no claim of its own. -/
import Derived.Test.YtjjpfpgjpmedmaaLBase
import Derived.Deep.Strs
import Derived.Lib.SmallJoins
import Derived.ChangeSlices
import Derived.WideShapes
import Derived.OpenShut
import Derived.ChangeSame
import Derived.Test.YtjjpfpgjpmedmaaMathE
namespace Go.Proofs.Ytjjpfpgjpmedmaa
open Go.RowKit
/-- How an element lies in memory: its cells, and what holds of an element that the code can meet. -/
structure El (α : Type) where
  cells : α → List Value
  sz : Nat
  fine : α → Prop
  len : ∀ a, fine a → (cells a).length = sz
  one : ∀ a, ∀ u ∈ cells a, u.oneCell' = true
  pos : 0 < sz
section
variable {α : Type} (E : El α)
/-- All elements' cells. -/
def El.all (l : List α) : List Value := l.flatMap E.cells
def El.Fine (l : List α) : Prop := ∀ x ∈ l, E.fine x
theorem El.Fine.nil : E.Fine [] := fun _ h => by cases h
variable {E}
theorem El.Fine.tail {x : α} {r : List α} (h : E.Fine (x :: r)) : E.Fine r := fun y hy => h y (List.mem_cons_of_mem _ hy)
theorem El.Fine.head {x : α} {r : List α} (h : E.Fine (x :: r)) : E.fine x := h x List.mem_cons_self
theorem El.Fine.snoc {l : List α} {x : α} (h : E.Fine l) (hx : E.fine x) : E.Fine (l ++ [x]) := fun y hy => by
  rcases List.mem_append.1 hy with g | g
  · exact h y g
  · rw [List.mem_singleton.1 g]; exact hx
theorem El.Fine.take {l : List α} (h : E.Fine l) (k : Nat) : E.Fine (l.take k) := fun y hy => h y (List.mem_of_mem_take hy)
theorem El.Fine.drop {l : List α} (h : E.Fine l) (k : Nat) : E.Fine (l.drop k) := fun y hy => h y (List.mem_of_mem_drop hy)
theorem El.all_length {l : List α} (h : E.Fine l) : (E.all l).length = l.length * E.sz := by
  induction l with
  | nil => simp [El.all]
  | cons t r ih =>
    show (E.cells t ++ E.all r).length = _
    rw [List.length_append, ih h.tail, E.len t h.head, List.length_cons, Nat.succ_mul]; omega
theorem El.all_append (a b : List α) : E.all (a ++ b) = E.all a ++ E.all b := by simp [El.all]
theorem El.all_one (t : α) : E.all [t] = E.cells t := by simp [El.all]
theorem El.all_drop {l : List α} (h : E.Fine l) (k : Nat) : (E.all l).drop (k * E.sz) = E.all (l.drop k) := by
  induction l generalizing k with
  | nil => simp [El.all]
  | cons t r ih =>
    have ht := E.len t h.head
    cases k with
    | zero => simp
    | succ k =>
      show (E.cells t ++ E.all r).drop ((k + 1) * E.sz) = E.all (r.drop k)
      rw [← ih h.tail k, List.drop_append, Nat.succ_mul, List.drop_of_length_le (by rw [ht]; exact Nat.le_add_left _ _), List.nil_append, ht, Nat.add_sub_cancel]
theorem El.all_take {l : List α} (h : E.Fine l) (k : Nat) : (E.all l).take (k * E.sz) = E.all (l.take k) := by
  have e : E.all l = E.all (l.take k) ++ E.all (l.drop k) := by rw [← El.all_append, List.take_append_drop]
  by_cases hk : k ≤ l.length
  · have hl : (E.all (l.take k)).length = k * E.sz := by rw [El.all_length (h.take k), List.length_take, Nat.min_eq_left hk]
    rw [e, ← hl, List.take_left']
    rfl
  · rw [List.take_of_length_le (l := l) (by omega), List.take_of_length_le]
    rw [El.all_length h]
    exact Nat.mul_le_mul_right _ (by omega)
theorem El.all_at {l : List α} (h : E.Fine l) {k i : Nat} {x : α} (hk : l[k]? = some x) (hi : i < E.sz) : (E.all l)[k * E.sz + i]? = (E.cells x)[i]? := by
  obtain ⟨hl, rfl⟩ := List.getElem?_eq_some_iff.1 hk
  have e := El.all_drop h k
  rw [List.drop_eq_getElem_cons hl] at e
  have : (E.all l)[k * E.sz + i]? = ((E.all l).drop (k * E.sz))[i]? := by rw [List.getElem?_drop]
  rw [this, e]
  show (E.cells l[k] ++ E.all (l.drop (k + 1)))[i]? = _
  rw [List.getElem?_append_left (by rw [E.len _ (h _ (List.getElem_mem hl))]; exact hi)]
end
/-- A slice that reads as l. -/
structure Lst {α : Type} (E : El α) (w : World) (A : Option Addr) (n c : Nat) (l : List α) : Prop where
  reads : Reads w w.heap.size E.sz A n (E.all l)
  len : l.length = n
  cap : n ≤ c
  few : n ≤ 9223372036854775807
  fine : E.Fine l
section
variable {α : Type} {E : El α} {w w' : World} {A : Option Addr} {n c : Nat} {l : List α}
theorem Lst.keep (h : Lst E w A n c l) (hb : Below w.heap.size w w') : Lst E w' A n c l := ⟨(h.reads.below hb).more hb.size, h.len, h.cap, h.few, h.fine⟩
theorem Lst.drew (h : Lst E w A n c l) : Lst E w.drew A n c l := h.keep (below_drawn w)
theorem Lst.drewN (h : Lst E w A n c l) (q : Nat) : Lst E (w.drewN q) A n c l := h.keep (below_drewN (Below.refl _ _) q)
theorem Lst.nil (w : World) : Lst E w none 0 0 [] := ⟨by show Reads w w.heap.size E.sz none 0 []; exact Reads.none_, rfl, Nat.le_refl _, Nat.zero_le _, El.Fine.nil E⟩
theorem Lst.get (h : Lst E w A n c l) {k : Nat} (hk : k < n) : ∃ x, l[k]? = some x ∧ E.fine x := by
  have hl : k < l.length := by rw [h.len]; exact hk
  exact ⟨l[k], List.getElem?_eq_getElem hl, h.fine _ (List.getElem_mem hl)⟩
/-- The k-th element's cells. -/
theorem Lst.at0 (h : Lst E w A n c l) {k : Nat} (hk : k < n) : ∃ (ad : Addr) (x : α), A = some ad ∧ l[k]? = some x ∧ E.fine x ∧ ad.block < w.heap.size ∧
    ∀ i u, (E.cells x)[i]? = some u → w.cell? ((ad.add (k * E.sz)).add i) = some u := by
  obtain ⟨ad, e, hb, hc⟩ := h.reads.2 (by omega)
  obtain ⟨x, hx, hf⟩ := h.get hk
  refine ⟨ad, x, e, hx, hf, hb, fun i u hu => ?_⟩
  have hi : i < E.sz := by rw [← E.len x hf]; exact (List.getElem?_eq_some_iff.1 hu).1
  rw [add_of_add]
  exact hc _ u ((El.all_at h.fine hx hi).trans hu)
theorem Lst.take (h : Lst E w A n c l) {k : Nat} (hk : k ≤ n) : Lst E w A k c (l.take k) := by
  have hl := h.len
  refine ⟨⟨by rw [El.all_length (h.fine.take k), List.length_take, Nat.min_eq_left (by omega)], fun h0 => ?_⟩, by rw [List.length_take]; omega, Nat.le_trans hk h.cap, Nat.le_trans hk h.few, h.fine.take k⟩
  obtain ⟨ad, e, hb, hc⟩ := h.reads.2 (by omega)
  refine ⟨ad, e, hb, fun j u hu => hc j u ?_⟩
  rw [← El.all_take h.fine] at hu
  have hj := (List.getElem?_eq_some_iff.1 hu).1
  rw [List.length_take] at hj
  rwa [List.getElem?_take_of_lt (by omega)] at hu
theorem Lst.drop (h : Lst E w A n c l) {k : Nat} (hk : k ≤ n) : Lst E w (if c = k then A else A.map (·.add (k * E.sz))) (n - k) (c - k) (l.drop k) := by
  have := h.reads.cut (k := k) hk h.cap
  rw [El.all_drop h.fine] at this
  exact ⟨this, by rw [List.length_drop, h.len], by have := h.cap; omega, by have := h.few; omega, h.fine.drop k⟩
end
/-- The call's own row. -/
def OwnL {α : Type} (E : El α) (e : TypeId) (w : World) (B : Nat) (v : Value) (l : List α) : Prop := w.ownsRow B e E.sz v l.length (E.all l) ∧ E.Fine l
section
variable {α : Type} {E : El α} {e : TypeId} {w wr w1 w' : World} {B : Nat} {v v' : Value} {l : List α}
theorem OwnL.nil (e : TypeId) (w : World) (B : Nat) : OwnL E e w B (.slice none 0 0) [] := ⟨World.ownsRow_nil _ _ _ _, El.Fine.nil E⟩
theorem OwnL.form2 (h : OwnL E e w B v l) (hn : l.length ≤ 9223372036854775807) : ∃ A c, v = .slice A l.length c ∧ Lst E w A l.length c l ∧ ∀ ad, A = some ad → B ≤ ad.block ∧ ad.block < w.heap.size := by
  have K : ∃ A c, v = .slice A l.length c ∧ Lst E w A l.length c l := by
    rcases h.1.2 with ⟨rfl, h0⟩ | ⟨g, cap, cur, rfl, hg, hh, hc, hm, hsz, ht⟩
    · have : l = [] := List.eq_nil_of_length_eq_zero h0
      subst this
      exact ⟨none, 0, rfl, Lst.nil _⟩
    · exact ⟨_, _, rfl, ⟨Reads.of_own (A := some ⟨g, 0, none⟩) (c := cap) h.1, rfl, hc, hn, h.2⟩⟩
  obtain ⟨A, c, hv, ht⟩ := K
  refine ⟨A, c, hv, ht, fun ad ha => ?_⟩
  subst ha
  exact World.ownsRow.lt h.1 ad.block (by rw [hv]; rfl)
theorem OwnL.form (h : OwnL E e w B v l) (hn : l.length ≤ 9223372036854775807) : ∃ A c, v = .slice A l.length c ∧ Lst E w A l.length c l := by
  obtain ⟨A, c, hv, ht, _⟩ := h.form2 hn
  exact ⟨A, c, hv, ht⟩
theorem OwnL.keep (h : OwnL E e w B v l) (hb : Below w.heap.size w w') : OwnL E e w' B v l :=
  ⟨World.ownsRow.kept (row := none) h.1 ⟨hb.os, hb.tape, hb.output, hb.size, fun k hk _ => hb.block k hk⟩ (by cases hv : v.ownBlock <;> simp), h.2⟩
theorem OwnL.app {x : α} (h : OwnL E e wr B v l) (hx : E.fine x) (hB : Below B w wr) (hs : B ≤ wr.heap.size) (hown : w1.ownsRow B e E.sz v' (l.length + 1) (E.all l ++ E.cells x)) (hg : wr.grownBy w1 v.ownBlock) :
    OwnL E e w1 B v' (l ++ [x]) ∧ Below B w w1 := by
  refine ⟨⟨?_, h.2.snoc hx⟩, hB.grown hg hs (fun k hk => (World.ownsRow.lt h.1 k hk).1)⟩
  rw [El.all_append, El.all_one, List.length_append]
  exact hown
end
/-- A call hands back a slice that reads as l. -/
def GivesL {α : Type} (E : El α) (l : List α) (w : World) (e : Ending) (w' : World) : Prop := ∃ A n c, e = .returned (.slice A n c) ∧ Lst E w' A n c l ∧ Below w.heap.size w w'
/-- A slice that came in. -/
structure LstIn {α : Type} (E : El α) (w : World) (A : Option Addr) (len cap : Nat) (l : List α) : Prop where
  cap_ : len ≤ cap ∧ cap ≤ maxLen
  lst : Lst E w A len cap l
/-- What is read of a type's cells is an element. -/
def Opens {α : Type} (E : El α) (P : Program) (te : TypeId) : Prop :=
  ∀ (H : Type) (enc : TypeId × Value → H) (W : World) (held : Bool) (n : Nat) (cs : List Value) (y : DataW H × List MemPlace), DataW.trod enc P W 0 (fun _ => true) held n te cs = some y → ∃ x : α, cs = E.cells x ∧ E.fine x
theorem open_lst {α : Type} {E : El α} {P : Program} {t te : TypeId} (ht : P.underlying t = some (.slice te)) (hc : P.cellsOf te = E.sz) (hO : Opens E P te)
    {H : Type} {enc : TypeId × Value → H} {W : World} {held : Bool} {f : Nat} {v : Value} {y : DataW H × List MemPlace} (h : DataW.trod enc P W 0 (fun _ => true) held f t [v] = some y) :
    ∃ (A : Option Addr) (len cap : Nat) (l : List α), v = .slice A len cap ∧ LstIn E W A len cap l := by
  rcases DataW.trod_slice ht h with ⟨hcs, _⟩ | ⟨a, len, cap, elems, rest, n, _, hcs, hy, _, hl, hm, hlen, hel, _, _⟩
  · simp at hcs
    exact ⟨none, 0, 0, [], hcs, ⟨⟨Nat.le_refl _, Nat.zero_le _⟩, Lst.nil _⟩⟩
  · simp at hcs
    have EE : ∀ k, k < len → ∃ x : α, (∀ j u, (E.cells x)[j]? = some u → W.cell? ((a.add (k * E.sz)).add j) = some u) ∧ E.fine x := fun k hk => by
      have hE := hel k hk
      rw [hc] at hE
      have hlk : k < elems.length := by omega
      rw [List.getElem?_eq_getElem hlk, Option.bind_eq_some_iff] at hE
      obtain ⟨cs, h1, h2⟩ := hE
      obtain ⟨_, h3, h4⟩ := World.cells?_some h1
      obtain ⟨x, rfl, hf⟩ := hO _ _ _ _ _ _ _ h2
      refine ⟨x, fun j u hu => ?_, hf⟩
      rw [h4 j (by rw [← h3]; exact (List.getElem?_eq_some_iff.1 hu).1), hu]
    obtain ⟨ts, hts, hat⟩ : ∃ ts : List α, ts.length = len ∧ ∀ k t, ts[k]? = some t → (∀ j u, (E.cells t)[j]? = some u → W.cell? ((a.add (k * E.sz)).add j) = some u) ∧ E.fine t := by
      refine ⟨List.ofFn (fun i : Fin len => Classical.choose (EE i.val i.isLt)), by simp, fun k t hk => ?_⟩
      obtain ⟨hk', e⟩ := List.getElem?_eq_some_iff.1 hk
      rw [List.getElem_ofFn] at e
      subst e
      exact Classical.choose_spec (EE k (by simpa using hk'))
    have HF : E.Fine ts := fun t ht => by
      obtain ⟨k, hk, e⟩ := List.mem_iff_getElem.1 ht
      exact (hat k t (by rw [List.getElem?_eq_getElem hk, e])).2
    have hmx : len ≤ 9223372036854775807 := Nat.le_trans hl hm
    refine ⟨some a, len, cap, ts, hcs, ⟨⟨hl, hm⟩, ⟨⟨by rw [El.all_length HF, hts], fun hp => ⟨a, rfl, ?_, fun j u hu => ?_⟩⟩, hts, hl, hmx, HF⟩⟩⟩
    · have hx := List.getElem?_eq_getElem (l := ts) (i := 0) (by omega)
      have h0 := hat 0 ts[0] hx
      have hp0 : 0 < (E.cells ts[0]).length := by rw [E.len _ h0.2]; exact E.pos
      have h1 := h0.1 0 _ (List.getElem?_eq_getElem hp0)
      have := World.block_lt_of_cell? W _ h1
      rwa [block_of_add, block_of_add] at this
    · have hj : j < ts.length * E.sz := by
        have := (List.getElem?_eq_some_iff.1 hu).1
        rwa [El.all_length HF] at this
      have hk : j / E.sz < ts.length := Nat.div_lt_of_lt_mul (by rwa [Nat.mul_comm] at hj)
      have hx := List.getElem?_eq_getElem hk
      have e := El.all_at HF (i := j % E.sz) hx (Nat.mod_lt _ E.pos)
      have ej : j / E.sz * E.sz + j % E.sz = j := by rw [Nat.mul_comm]; exact Nat.div_add_mod j E.sz
      rw [ej, hu] at e
      have := (hat (j / E.sz) _ hx).1 (j % E.sz) u e.symm
      rwa [add_of_add, ej] at this
def intE : El Int where
  cells x := [.int .i64 x]
  sz := 1
  fine x := -9223372036854775808 ≤ x ∧ x ≤ 9223372036854775807
  len _ _ := rfl
  one a u hu := by rw [List.mem_singleton.1 hu]; rfl
  pos := by decide
/-- A literal slice. -/
theorem Lst.lit {α : Type} {E : El α} {w : World} {b : Nat} {T : TypeId} {cs : Array Value} (L : List α) (n : Nat) (h : w.heap[b]? = some (.cells cs T (0, 0))) (hc : cs.toList = E.all L) (hn : L.length = n) (hf : n ≤ 9223372036854775807) (hfi : E.Fine L) : Lst E w (some ⟨b, 0, none⟩) n n L := by
  refine ⟨⟨by rw [El.all_length hfi, hn], fun _ => ⟨_, rfl, (Array.getElem?_eq_some_iff.1 h).1, fun j u hu => ?_⟩⟩, hn, Nat.le_refl _, hf, hfi⟩
  rw [addr_add, Nat.zero_add, cell_of_row w b j _ _ _ h]
  rw [← hc] at hu
  simpa using hu
end Go.Proofs.Ytjjpfpgjpmedmaa
namespace Go.Proofs.Ytjjpfpgjpmedmaa
open Go.RowKit
open ME (F Nd)
/-- Expressions in order, as they lie in memory: each with where its arguments lie. -/
inductive FT where
  | nil
  | cons (o : Int) (b : List Int) (v : Int) (A : Option Addr) (c : Nat) (k r : FT)
def FT.f : FT → F
  | .nil => .nil
  | .cons o b v _ _ k r => .cons o b v k.f r.f
def FT.len : FT → Nat
  | .nil => 0
  | .cons _ _ _ _ _ _ r => r.len + 1
def FT.size : FT → Nat
  | .nil => 0
  | .cons _ _ _ _ _ k r => 1 + k.size + r.size
def In64 (z : Int) : Prop := -9223372036854775808 ≤ z ∧ z ≤ 9223372036854775807
/-- One expression's cells; its value. -/
def cellsE (o : Int) (b : List Int) (v : Int) (A : Option Addr) (n c : Nat) : List Value := .int .i64 o :: (b.map (Value.int .i64) ++ [.int .i64 v, .slice A n c])
/-- Expressions lie from an address on, in blocks of a kind. -/
def Lay (w : World) (ok : Nat → Prop) : Addr → FT → Prop
  | _, .nil => True
  | a, .cons o b v A c k r => (ok a.block ∧ a.block < w.heap.size ∧ b.length = 6 ∧ (∀ i u, (cellsE o b v A k.len c)[i]? = some u → w.cell? (a.add i) = some u)) ∧ (In64 o ∧ In64 v ∧ (∀ z ∈ b, In64 z)) ∧ (k.len ≤ c ∧ k.len ≤ 9223372036854775807) ∧
      (k = .nil ∨ ∃ ad, A = some ad ∧ Lay w ok ad k) ∧ Lay w ok (a.add 9) r
/-- A slice that reads as expressions. -/
structure Kids (w : World) (ok : Nat → Prop) (A : Option Addr) (c : Nat) (k : FT) : Prop where
  cap : k.len ≤ c
  few : k.len ≤ 9223372036854775807
  lay : k = .nil ∨ ∃ ad, A = some ad ∧ Lay w ok ad k
/-- One expression, as a value. -/
structure NT where
  o : Int
  b : List Int
  v : Int
  A : Option Addr
  c : Nat
  k : FT
def NT.n (x : NT) : Nd := ⟨x.o, x.b, x.v, x.k.f⟩
def NT.size (x : NT) : Nat := x.k.size + 1
structure NT.Ok (x : NT) (w : World) (ok : Nat → Prop) : Prop where
  six : x.b.length = 6
  o64 : In64 x.o
  v64 : In64 x.v
  b64 : ∀ z ∈ x.b, In64 z
  kids : Kids w ok x.A x.c x.k
theorem cell_same {w w' : World} {a : Addr} (h : w'.heap[a.block]? = w.heap[a.block]?) : w'.cell? a = w.cell? a := by unfold World.cell?; rw [h]
section
variable {w w' : World} {ok ok' : Nat → Prop}
theorem Lay.keep (h : ∀ k, ok k → k < w.heap.size → w'.heap[k]? = w.heap[k]?) (hs : w.heap.size ≤ w'.heap.size) (hk : ∀ k, ok k → k < w.heap.size → ok' k) : ∀ (t : FT) {a : Addr}, Lay w ok a t → Lay w' ok' a t
  | .nil, _, _ => trivial
  | .cons o b v A c k r, a, ⟨⟨h1, h2, h3, h4⟩, h5, h6, h7, h8⟩ =>
    ⟨⟨hk _ h1 h2, Nat.lt_of_lt_of_le h2 hs, h3, fun i u hu => by
      have hb : (a.add i).block = a.block := block_of_add a i
      have := h4 i u hu
      rw [← this]
      exact cell_same (by rw [hb]; exact h _ h1 h2)⟩, h5, h6, (by
      rcases h7 with g | ⟨ad, g1, g2⟩
      · exact .inl g
      · exact .inr ⟨ad, g1, Lay.keep h hs hk k g2⟩), Lay.keep h hs hk r h8⟩
theorem Kids.keep {A : Option Addr} {c : Nat} {k : FT} (q : Kids w ok A c k) (h : ∀ k, ok k → k < w.heap.size → w'.heap[k]? = w.heap[k]?) (hs : w.heap.size ≤ w'.heap.size) (hk : ∀ k, ok k → k < w.heap.size → ok' k) : Kids w' ok' A c k :=
  ⟨q.cap, q.few, q.lay.imp (fun g => g) fun ⟨ad, g1, g2⟩ => ⟨ad, g1, Lay.keep h hs hk k g2⟩⟩
theorem NT.Ok.keep {x : NT} (q : x.Ok w ok) (h : ∀ k, ok k → k < w.heap.size → w'.heap[k]? = w.heap[k]?) (hs : w.heap.size ≤ w'.heap.size) (hk : ∀ k, ok k → k < w.heap.size → ok' k) : x.Ok w' ok' :=
  ⟨q.six, q.o64, q.v64, q.b64, q.kids.keep h hs hk⟩
theorem NT.Ok.below {x : NT} (q : x.Ok w ok) (hb : Below w.heap.size w w') : x.Ok w' ok := q.keep (fun k _ hk => hb.block k hk) hb.size fun _ h _ => h
theorem Kids.below {A : Option Addr} {c : Nat} {k : FT} (q : Kids w ok A c k) (hb : Below w.heap.size w w') : Kids w' ok A c k := q.keep (fun k _ hk => hb.block k hk) hb.size fun _ h _ => h
theorem Kids.nil (w : World) (ok : Nat → Prop) (A : Option Addr) (c : Nat) : Kids w ok A c .nil := ⟨Nat.zero_le _, Nat.zero_le _, .inl rfl⟩
end
/-- What is left of a slice of expressions from the i-th on. -/
structure Rest (w : World) (ok : Nat → Prop) (A : Option Addr) (i : Nat) (rest : FT) (n : Nat) : Prop where
  len : i + rest.len = n
  lay : rest = .nil ∨ ∃ ad, A = some ad ∧ Lay w ok (ad.add (i * 9)) rest
section
variable {w w' : World} {ok ok' : Nat → Prop} {A : Option Addr} {i n c : Nat} {rs k : FT}
theorem Kids.rest (h : Kids w ok A c k) : Rest w ok A 0 k k.len := ⟨by omega, h.lay.imp (fun g => g) fun ⟨ad, g1, g2⟩ => ⟨ad, g1, by rwa [show ad.add (0 * 9) = ad by unfold Addr.add; simp]⟩⟩
theorem Rest.keep (q : Rest w ok A i rs n) (h : ∀ k, ok k → k < w.heap.size → w'.heap[k]? = w.heap[k]?) (hs : w.heap.size ≤ w'.heap.size) (hk : ∀ k, ok k → k < w.heap.size → ok' k) : Rest w' ok' A i rs n :=
  ⟨q.len, q.lay.imp (fun g => g) fun ⟨ad, g1, g2⟩ => ⟨ad, g1, Lay.keep h hs hk rs g2⟩⟩
theorem Rest.below (q : Rest w ok A i rs n) (hb : Below w.heap.size w w') : Rest w' ok A i rs n := q.keep (fun k _ hk => hb.block k hk) hb.size fun _ h _ => h
end
end Go.Proofs.Ytjjpfpgjpmedmaa
namespace Go.Proofs.Ytjjpfpgjpmedmaa
open Go.RowKit
def FT.of : List NT → FT
  | [] => .nil
  | x :: r => .cons x.o x.b x.v x.A x.c x.k (FT.of r)
theorem FT.of_len : ∀ l : List NT, (FT.of l).len = l.length
  | [] => rfl
  | _ :: r => by simp [FT.of, FT.len, FT.of_len r]
/-- One expression's cells at an address. -/
structure NodeAt (w : World) (ok : Nat → Prop) (a : Addr) (x : NT) : Prop where
  in_ : ok a.block
  lt : a.block < w.heap.size
  good : x.Ok w ok
  cells : ∀ i u, (cellsE x.o x.b x.v x.A x.k.len x.c)[i]? = some u → w.cell? (a.add i) = some u
theorem lay_of {w : World} {ok : Nat → Prop} : ∀ (l : List NT) (a : Addr), (∀ i x, l[i]? = some x → NodeAt w ok (a.add (i * 9)) x) → Lay w ok a (FT.of l)
  | [], _, _ => trivial
  | x :: r, a, h => by
    have h0 := h 0 x rfl
    rw [show a.add (0 * 9) = a by unfold Addr.add; simp] at h0
    refine ⟨⟨h0.in_, h0.lt, h0.good.six, h0.cells⟩, ⟨h0.good.o64, h0.good.v64, h0.good.b64⟩, ⟨h0.good.kids.cap, h0.good.kids.few⟩, h0.good.kids.lay, lay_of r _ fun i y hy => ?_⟩
    rw [add_of_add, show 9 + i * 9 = (i + 1) * 9 by omega]
    exact h (i + 1) y hy
theorem cells_bun : Try.prog.cellsOf 24 = 6 := by kernel_rfl
theorem cells_one : Try.prog.cellsOf 3 = 1 := by kernel_rfl
set_option maxRecDepth 100000 in
theorem bun_of {H : Type} {enc : TypeId × Value → H} {W : World} {held : Bool} {n : Nat} {cs : List Value} {y : DataW H × List MemPlace} (h : DataW.trod enc Try.prog W 0 (fun _ => true) held n 24 cs = some y) :
    ∃ b : List Int, b.length = 6 ∧ (∀ z ∈ b, In64 z) ∧ cs = b.map (Value.int .i64) := by
  obtain ⟨xs, m, _, _, hcs, hl, hi⟩ := DataW.trod_array Try.underlying24 h
  have hsz : cs.length = 6 := by
    rw [cells_bun] at hcs
    exact hcs
  obtain ⟨c0, c1, c2, c3, c4, c5, rfl⟩ : ∃ c0 c1 c2 c3 c4 c5, cs = [c0, c1, c2, c3, c4, c5] := by
    match cs, hsz with
    | [c0, c1, c2, c3, c4, c5], _ => exact ⟨c0, c1, c2, c3, c4, c5, rfl⟩
  have one : ∀ (i : Nat) (c : Value), i < 6 → DataW.trod enc Try.prog W 0 (fun _ => true) held m 3 [c] = xs[i]? → ∃ x, c = .int .i64 x ∧ In64 x := by
    intro i c hi6 hc
    rw [List.getElem?_eq_getElem (by omega)] at hc
    obtain ⟨x, e0, _, e1⟩ := DataW.trod_int Try.underlying3 hc
    exact ⟨x, by simpa using e0, bounds_i64 e1⟩
  have hce := cells_one
  obtain ⟨x0, rfl, k0⟩ := one 0 c0 (by decide) (by have := hi 0 (by decide); rw [hce] at this; exact this)
  obtain ⟨x1, rfl, k1⟩ := one 1 c1 (by decide) (by have := hi 1 (by decide); rw [hce] at this; exact this)
  obtain ⟨x2, rfl, k2⟩ := one 2 c2 (by decide) (by have := hi 2 (by decide); rw [hce] at this; exact this)
  obtain ⟨x3, rfl, k3⟩ := one 3 c3 (by decide) (by have := hi 3 (by decide); rw [hce] at this; exact this)
  obtain ⟨x4, rfl, k4⟩ := one 4 c4 (by decide) (by have := hi 4 (by decide); rw [hce] at this; exact this)
  obtain ⟨x5, rfl, k5⟩ := one 5 c5 (by decide) (by have := hi 5 (by decide); rw [hce] at this; exact this)
  refine ⟨[x0, x1, x2, x3, x4, x5], rfl, fun z hz => ?_, rfl⟩
  simp only [List.mem_cons, List.not_mem_nil, or_false] at hz
  rcases hz with rfl | rfl | rfl | rfl | rfl | rfl <;> assumption
end Go.Proofs.Ytjjpfpgjpmedmaa
