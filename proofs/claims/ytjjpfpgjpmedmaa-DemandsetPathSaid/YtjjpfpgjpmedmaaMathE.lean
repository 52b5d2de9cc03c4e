/- Expressions as forests: the mathematics of chapter 11. No claim of its own. -/
import Derived.Test.YtjjpfpgjpmedmaaJB
namespace Go.Proofs.Ytjjpfpgjpmedmaa.ME
open Go.RowKit
/-- Expressions in order, each with its arguments. -/
inductive F where
  | nil
  | cons (o : Int) (b : List Int) (v : Int) (k r : F)
deriving DecidableEq
/-- A node, with its arguments. -/
structure Nd where
  o : Int
  b : List Int
  v : Int
  k : F
namespace F
def len : F → Nat
  | nil => 0
  | cons _ _ _ _ r => r.len + 1
def size : F → Nat
  | nil => 0
  | cons _ _ _ k r => 1 + k.size + r.size
def depth : F → Nat
  | nil => 0
  | cons _ _ _ k r => max (k.depth + 1) r.depth
def pre : F → List Nd
  | nil => []
  | cons o b v k r => ⟨o, b, v, k⟩ :: (k.pre ++ r.pre)
def app : F → F → F
  | nil, g => g
  | cons o b v k r, g => cons o b v k (r.app g)
def take : Nat → F → F
  | 0, _ => nil
  | _ + 1, nil => nil
  | n + 1, cons o b v k r => cons o b v k (r.take n)
def map (g : Nd → Nd) : F → F
  | nil => nil
  | cons o b v k r => cons (g ⟨o, b, v, k.map g⟩).o (g ⟨o, b, v, k.map g⟩).b (g ⟨o, b, v, k.map g⟩).v (g ⟨o, b, v, k.map g⟩).k (r.map g)
def roots : F → List Nd
  | nil => []
  | cons o b v k r => ⟨o, b, v, k⟩ :: r.roots
theorem map_id : ∀ f : F, f.map (fun n => n) = f
  | nil => rfl
  | cons _ _ _ k r => by simp only [map, map_id k, map_id r]
end F
namespace Nd
def f (n : Nd) : F := .cons n.o n.b n.v n.k .nil
def size (n : Nd) : Nat := n.k.size + 1
def depth (n : Nd) : Nat := n.k.depth + 1
def pre (n : Nd) : List Nd := n :: n.k.pre
def map (g : Nd → Nd) (n : Nd) : Nd := g ⟨n.o, n.b, n.v, n.k.map g⟩
theorem map_id (n : Nd) : n.map (fun n => n) = n := by unfold map; rw [F.map_id]
end Nd
/-- The greatest quantities. -/
def zero6 : List Int := [0, 0, 0, 0, 0, 0]
/-- The errors of a node. -/
def formB (n : Nd) : Bool :=
  if n.o = 1 then decide (n.k.len = 0)
  else if n.o = 2 ∨ n.o = 3 then decide (1 ≤ n.k.len) && decide (n.k.len ≤ 8) && decide (n.b = zero6) && decide (n.v = 0)
  else if n.o = 4 then decide (n.k.len = 1)
  else if n.o = 5 then decide (n.k.len = 1) && decide (n.b = zero6)
  else false
def rangeB (n : Nd) : Bool :=
  if n.o = 2 ∨ n.o = 3 then true
  else if n.v < 1 ∨ 1000000 < n.v then false
  else decide (n.o = 5) || (decide (chk n.b = 0) && decide (1 ≤ totB n.b 6))
def nodeE (n : Nd) : Int := if formB n = false then 2 else if rangeB n = false then 4 else 0
def firstN : List Nd → Int
  | [] => 0
  | n :: r => if nodeE n ≠ 0 then nodeE n else firstN r
def wideB (l : List Nd) : Bool := l.all fun n => decide (n.k.len ≤ 8)
def checkE (n : Nd) : Int :=
  if 6 < n.depth then 9 else if 40 < n.size then 3 else if wideB n.pre = false then 3 else firstN n.pre
theorem firstN_zero : ∀ {l : List Nd}, firstN l = 0 ↔ ∀ n ∈ l, nodeE n = 0
  | [] => by simp [firstN]
  | n :: r => by
    rw [firstN]
    by_cases h : nodeE n = 0
    · rw [if_neg (fun g => g h), firstN_zero]
      simp [h]
    · rw [if_pos h]
      simp [h]
theorem checkE_zero {n : Nd} : checkE n = 0 ↔ n.depth ≤ 6 ∧ n.size ≤ 40 ∧ wideB n.pre = true ∧ ∀ x ∈ n.pre, nodeE x = 0 := by
  unfold checkE
  by_cases h1 : 6 < n.depth
  · rw [if_pos h1]; simp; omega
  · rw [if_neg h1]
    by_cases h2 : 40 < n.size
    · rw [if_pos h2]; simp; omega
    · rw [if_neg h2]
      by_cases h3 : wideB n.pre = false
      · rw [if_pos h3]; simp [h3]
      · rw [if_neg h3, firstN_zero]
        have : wideB n.pre = true := by simpa using h3
        exact ⟨fun h => ⟨by omega, by omega, this, h⟩, fun h => h.2.2.2⟩
/-- The law's function of a node. -/
def addV : Int → F → Int
  | v, .nil => v
  | v, .cons _ _ x _ r => addV (wrap64 (wrap64 (v * 3) + x)) r
end Go.Proofs.Ytjjpfpgjpmedmaa.ME
