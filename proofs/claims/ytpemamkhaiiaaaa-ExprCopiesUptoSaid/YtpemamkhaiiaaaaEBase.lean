/- Words for the walks of chapter 11: expressions in memory. Plain theorems, no claim of their own. -/
import Derived.Test.YtpemamkhaiiaaaaMathE
import Derived.Test.YtpemamkhaiiaaaaGList
namespace Go.Proofs.Ytpemamkhaiiaaaa
open Go.RowKit
open ME (F Nd)
/-- Expressions in order, as they lie in memory: each with where its arguments lie. -/
inductive FT where
  | nil
  | cons (o : Int) (b : List Int) (v : Int) (A : Option Addr) (c : Nat) (k r : FT)
def FT.f : FT → F
  | .nil => .nil
  | .cons o b v _ _ k r => .cons o b v k.f r.f
def FT.len : FT → Nat
  | .nil => 0
  | .cons _ _ _ _ _ _ r => r.len + 1
def FT.size : FT → Nat
  | .nil => 0
  | .cons _ _ _ _ _ k r => 1 + k.size + r.size
theorem FT.len_f : ∀ t : FT, t.f.len = t.len
  | .nil => rfl
  | .cons _ _ _ _ _ _ r => by simp [FT.f, FT.len, ME.F.len, FT.len_f r]
theorem FT.size_f : ∀ t : FT, t.f.size = t.size
  | .nil => rfl
  | .cons _ _ _ _ _ k r => by simp [FT.f, FT.size, ME.F.size, FT.size_f k, FT.size_f r]
def In64 (z : Int) : Prop := -9223372036854775808 ≤ z ∧ z ≤ 9223372036854775807
/-- One expression's cells; its value. -/
def cellsE (o : Int) (b : List Int) (v : Int) (A : Option Addr) (n c : Nat) : List Value := .int .i64 o :: (b.map (Value.int .i64) ++ [.int .i64 v, .slice A n c])
/-- Expressions lie from an address on, in blocks of a kind. -/
def Lay (w : World) (ok : Nat → Prop) : Addr → FT → Prop
  | _, .nil => True
  | a, .cons o b v A c k r => (ok a.block ∧ a.block < w.heap.size ∧ b.length = 6 ∧ (∀ i u, (cellsE o b v A k.len c)[i]? = some u → w.cell? (a.add i) = some u)) ∧ (In64 o ∧ In64 v ∧ (∀ z ∈ b, In64 z)) ∧ (k.len ≤ c ∧ k.len ≤ 9223372036854775807) ∧
      (k = .nil ∨ ∃ ad, A = some ad ∧ Lay w ok ad k) ∧ Lay w ok (a.add 9) r
/-- A slice that reads as expressions. -/
structure Kids (w : World) (ok : Nat → Prop) (A : Option Addr) (c : Nat) (k : FT) : Prop where
  cap : k.len ≤ c
  few : k.len ≤ 9223372036854775807
  lay : k = .nil ∨ ∃ ad, A = some ad ∧ Lay w ok ad k
/-- One expression, as a value. -/
structure NT where
  o : Int
  b : List Int
  v : Int
  A : Option Addr
  c : Nat
  k : FT
def NT.n (x : NT) : Nd := ⟨x.o, x.b, x.v, x.k.f⟩
def NT.size (x : NT) : Nat := x.k.size + 1
theorem NT.size_n (x : NT) : x.n.size = x.size := by unfold NT.n NT.size ME.Nd.size; rw [FT.size_f]
structure NT.Ok (x : NT) (w : World) (ok : Nat → Prop) : Prop where
  six : x.b.length = 6
  o64 : In64 x.o
  v64 : In64 x.v
  b64 : ∀ z ∈ x.b, In64 z
  kids : Kids w ok x.A x.c x.k
theorem cell_same {w w' : World} {a : Addr} (h : w'.heap[a.block]? = w.heap[a.block]?) : w'.cell? a = w.cell? a := by unfold World.cell?; rw [h]
section
variable {w w' : World} {ok ok' : Nat → Prop}
theorem Lay.keep (h : ∀ k, ok k → k < w.heap.size → w'.heap[k]? = w.heap[k]?) (hs : w.heap.size ≤ w'.heap.size) (hk : ∀ k, ok k → k < w.heap.size → ok' k) : ∀ (t : FT) {a : Addr}, Lay w ok a t → Lay w' ok' a t
  | .nil, _, _ => trivial
  | .cons o b v A c k r, a, ⟨⟨h1, h2, h3, h4⟩, h5, h6, h7, h8⟩ =>
    ⟨⟨hk _ h1 h2, Nat.lt_of_lt_of_le h2 hs, h3, fun i u hu => by
      have hb : (a.add i).block = a.block := block_of_add a i
      have := h4 i u hu
      rw [← this]
      exact cell_same (by rw [hb]; exact h _ h1 h2)⟩, h5, h6, (by
      rcases h7 with g | ⟨ad, g1, g2⟩
      · exact .inl g
      · exact .inr ⟨ad, g1, Lay.keep h hs hk k g2⟩), Lay.keep h hs hk r h8⟩
theorem Kids.keep {A : Option Addr} {c : Nat} {k : FT} (q : Kids w ok A c k) (h : ∀ k, ok k → k < w.heap.size → w'.heap[k]? = w.heap[k]?) (hs : w.heap.size ≤ w'.heap.size) (hk : ∀ k, ok k → k < w.heap.size → ok' k) : Kids w' ok' A c k :=
  ⟨q.cap, q.few, q.lay.imp (fun g => g) fun ⟨ad, g1, g2⟩ => ⟨ad, g1, Lay.keep h hs hk k g2⟩⟩
theorem NT.Ok.keep {x : NT} (q : x.Ok w ok) (h : ∀ k, ok k → k < w.heap.size → w'.heap[k]? = w.heap[k]?) (hs : w.heap.size ≤ w'.heap.size) (hk : ∀ k, ok k → k < w.heap.size → ok' k) : x.Ok w' ok' :=
  ⟨q.six, q.o64, q.v64, q.b64, q.kids.keep h hs hk⟩
theorem NT.Ok.below {x : NT} (q : x.Ok w ok) (hb : Below w.heap.size w w') : x.Ok w' ok := q.keep (fun k _ hk => hb.block k hk) hb.size fun _ h _ => h
theorem Kids.below {A : Option Addr} {c : Nat} {k : FT} (q : Kids w ok A c k) (hb : Below w.heap.size w w') : Kids w' ok A c k := q.keep (fun k _ hk => hb.block k hk) hb.size fun _ h _ => h
theorem Kids.nil (w : World) (ok : Nat → Prop) (A : Option Addr) (c : Nat) : Kids w ok A c .nil := ⟨Nat.zero_le _, Nat.zero_le _, .inl rfl⟩
end
/-- What is left of a slice of expressions from the i-th on. -/
structure Rest (w : World) (ok : Nat → Prop) (A : Option Addr) (i : Nat) (rest : FT) (n : Nat) : Prop where
  len : i + rest.len = n
  lay : rest = .nil ∨ ∃ ad, A = some ad ∧ Lay w ok (ad.add (i * 9)) rest
section
variable {w w' : World} {ok ok' : Nat → Prop} {A : Option Addr} {i n c : Nat} {rs k : FT}
theorem Kids.rest (h : Kids w ok A c k) : Rest w ok A 0 k k.len := ⟨by omega, h.lay.imp (fun g => g) fun ⟨ad, g1, g2⟩ => ⟨ad, g1, by rwa [show ad.add (0 * 9) = ad by unfold Addr.add; simp]⟩⟩
theorem Rest.keep (q : Rest w ok A i rs n) (h : ∀ k, ok k → k < w.heap.size → w'.heap[k]? = w.heap[k]?) (hs : w.heap.size ≤ w'.heap.size) (hk : ∀ k, ok k → k < w.heap.size → ok' k) : Rest w' ok' A i rs n :=
  ⟨q.len, q.lay.imp (fun g => g) fun ⟨ad, g1, g2⟩ => ⟨ad, g1, Lay.keep h hs hk rs g2⟩⟩
theorem Rest.below (q : Rest w ok A i rs n) (hb : Below w.heap.size w w') : Rest w' ok A i rs n := q.keep (fun k _ hk => hb.block k hk) hb.size fun _ h _ => h
theorem Rest.end_ (q : Rest w ok A i rs n) (h : ¬ i < n) : rs = .nil ∧ i = n := by
  have := q.len
  cases rs with
  | nil => exact ⟨rfl, by simp only [FT.len] at this; omega⟩
  | cons _ _ _ _ _ _ r => simp only [FT.len] at this; omega
theorem Rest.open_ (q : Rest w ok A i rs n) (h : i < n) : ∃ (ad : Addr) (o x0 x1 x2 x3 x4 x5 v : Int) (A' : Option Addr) (c' : Nat) (k r : FT), A = some ad ∧ rs = .cons o [x0, x1, x2, x3, x4, x5] v A' c' k r ∧ NT.Ok ⟨o, [x0, x1, x2, x3, x4, x5], v, A', c', k⟩ w ok ∧ Rest w ok A (i + 1) r n ∧
    ad.block < w.heap.size ∧ ok ad.block ∧
    w.cell? (ad.add (i * 9)) = some (.int .i64 o) ∧ w.cell? ⟨(ad.add (i * 9)).block, (ad.add (i * 9)).off + 1, none⟩ = some (.int .i64 x0) ∧ w.cell? ⟨(ad.add (i * 9)).block, (ad.add (i * 9)).off + 2, none⟩ = some (.int .i64 x1) ∧
    w.cell? ⟨(ad.add (i * 9)).block, (ad.add (i * 9)).off + 3, none⟩ = some (.int .i64 x2) ∧ w.cell? ⟨(ad.add (i * 9)).block, (ad.add (i * 9)).off + 4, none⟩ = some (.int .i64 x3) ∧
    w.cell? ⟨(ad.add (i * 9)).block, (ad.add (i * 9)).off + 5, none⟩ = some (.int .i64 x4) ∧ w.cell? ⟨(ad.add (i * 9)).block, (ad.add (i * 9)).off + 6, none⟩ = some (.int .i64 x5) ∧
    w.cell? ⟨(ad.add (i * 9)).block, (ad.add (i * 9)).off + 7, none⟩ = some (.int .i64 v) ∧ w.cell? ⟨(ad.add (i * 9)).block, (ad.add (i * 9)).off + 8, none⟩ = some (.slice A' k.len c') := by
  have hl := q.len
  cases rs with
  | nil => simp only [FT.len] at hl; omega
  | cons o b v A' c' k r =>
    rcases q.lay with g | ⟨ad, rfl, ⟨h1, h2, h3, h4⟩, ⟨h5, h6, h7⟩, ⟨h8, h9⟩, h10, h11⟩
    · cases g
    · obtain ⟨x0, x1, x2, x3, x4, x5, rfl⟩ := six h3
      have hb : (ad.add (i * 9)).block = ad.block := block_of_add ad _
      rw [hb] at h1 h2
      refine ⟨ad, o, x0, x1, x2, x3, x4, x5, v, A', c', k, r, rfl, rfl, ⟨rfl, h5, h6, h7, h8, h9, h10⟩, ⟨by simp only [FT.len] at hl; omega, .inr ⟨ad, rfl, ?_⟩⟩, h2, h1, ?_, ?_, ?_, ?_, ?_, ?_, ?_, ?_, ?_⟩
      · rw [add_of_add, show i * 9 + 9 = (i + 1) * 9 by omega] at h11; exact h11
      · have := h4 0 _ rfl; rwa [show ∀ a : Addr, a.add 0 = a from fun a => by unfold Addr.add; simp] at this
      all_goals first | exact h4 1 _ rfl | exact h4 2 _ rfl | exact h4 3 _ rfl | exact h4 4 _ rfl | exact h4 5 _ rfl | exact h4 6 _ rfl | exact h4 7 _ rfl | exact h4 8 _ rfl
end
end Go.Proofs.Ytpemamkhaiiaaaa
