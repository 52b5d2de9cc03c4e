/- Slices of steps. Plain theorems, no claim of their own. -/
import Derived.Test.YtjjpfpgjpmedmaaBRows
import Derived.Test.YtjjpfpgjpmedmaaJVM
namespace Go.Proofs.Ytjjpfpgjpmedmaa
open Go.RowKit
def cellsS (p : List Int × Int) : List Value := cellsR p.1 ++ [.int .i64 p.2]
def cellsSs (S : VV.St) : List Value := S.flatMap cellsS
/-- All of six quantities. -/
def AllS (S : VV.St) : Prop := ∀ p ∈ S, p.1.length = 6
theorem cellsS_length {p : List Int × Int} (h : p.1.length = 6) : (cellsS p).length = 7 := by simp [cellsS, cellsR, h]
theorem cellsSs_append (a b : VV.St) : cellsSs (a ++ b) = cellsSs a ++ cellsSs b := by simp [cellsSs]
theorem cellsSs_one (t : List Int × Int) : cellsSs [t] = cellsS t := by simp [cellsSs]
theorem cellsSs_drop {S : VV.St} (h : AllS S) (k : Nat) : (cellsSs S).drop (k * 7) = cellsSs (S.drop k) := by
  induction S generalizing k with
  | nil => simp [cellsSs]
  | cons t r ih =>
    have ht := cellsS_length (h t List.mem_cons_self)
    cases k with
    | zero => simp
    | succ k =>
      show (cellsS t ++ cellsSs r).drop ((k + 1) * 7) = cellsSs (r.drop k)
      rw [← ih (fun x hx => h x (List.mem_cons_of_mem _ hx)) k, List.drop_append, show (cellsS t).drop ((k + 1) * 7) = [] from List.drop_of_length_le (by rw [ht]; omega), List.nil_append]
      congr 1
      rw [ht]; omega
theorem cellsSs_at {S : VV.St} (h : AllS S) (k i : Nat) (hk : k < S.length) (hi : i < 7) : (cellsSs S)[k * 7 + i]? = (cellsS S[k])[i]? := by
  have e := cellsSs_drop h k
  rw [List.drop_eq_getElem_cons hk] at e
  have : (cellsSs S)[k * 7 + i]? = ((cellsSs S).drop (k * 7))[i]? := by rw [List.getElem?_drop]
  rw [this, e]
  show (cellsS S[k] ++ cellsSs (S.drop (k + 1)))[i]? = _
  rw [List.getElem?_append_left (by rw [cellsS_length (h _ (List.getElem_mem hk))]; exact hi)]
/-- A slice of steps that reads as S. -/
structure StW (w : World) (A : Option Addr) (n c : Nat) (S : VV.St) : Prop where
  reads : Reads w w.heap.size 7 A n (cellsSs S)
  len : S.length = n
  cap : n ≤ c
  few : n ≤ 100000
  all : AllS S
section
variable {w w' : World} {A : Option Addr} {n c : Nat} {S : VV.St}
theorem StW.keep (h : StW w A n c S) (hb : Below w.heap.size w w') : StW w' A n c S := ⟨(h.reads.below hb).more hb.size, h.len, h.cap, h.few, h.all⟩
theorem StW.nil (w : World) : StW w none 0 0 [] := ⟨Reads.none_, rfl, Nat.le_refl _, Nat.zero_le _, fun _ h => by cases h⟩
theorem StW.at_ (h : StW w A n c S) {k : Nat} (hk : k < n) : ∃ (ad : Addr) (a b c d e f v : Int), A = some ad ∧ S[k]? = some ([a, b, c, d, e, f], v) ∧ ad.block < w.heap.size ∧
    w.cell? (ad.add (k * 7)) = some (.int .i64 a) ∧ w.cell? ⟨(ad.add (k * 7)).block, (ad.add (k * 7)).off + 1, none⟩ = some (.int .i64 b) ∧
    w.cell? ⟨(ad.add (k * 7)).block, (ad.add (k * 7)).off + 2, none⟩ = some (.int .i64 c) ∧ w.cell? ⟨(ad.add (k * 7)).block, (ad.add (k * 7)).off + 3, none⟩ = some (.int .i64 d) ∧
    w.cell? ⟨(ad.add (k * 7)).block, (ad.add (k * 7)).off + 4, none⟩ = some (.int .i64 e) ∧ w.cell? ⟨(ad.add (k * 7)).block, (ad.add (k * 7)).off + 5, none⟩ = some (.int .i64 f) ∧
    w.cell? ⟨(ad.add (k * 7)).block, (ad.add (k * 7)).off + 6, none⟩ = some (.int .i64 v) := by
  obtain ⟨ad, hA, hb, hc⟩ := h.reads.2 (by omega)
  have hl : k < S.length := by rw [h.len]; exact hk
  obtain ⟨x0, x1, x2, x3, x4, x5, hx⟩ := six (h.all _ (List.getElem_mem hl))
  obtain ⟨v, hv⟩ : ∃ v, v = S[k].2 := ⟨_, rfl⟩
  have hp : S[k] = ([x0, x1, x2, x3, x4, x5], v) := by rw [hv, ← hx]
  have at_ : ∀ i, i < 7 → (cellsSs S)[k * 7 + i]? = (cellsS ([x0, x1, x2, x3, x4, x5], v))[i]? := fun i hi => by rw [cellsSs_at h.all k i hl hi, hp]
  have c0 := hc (k * 7 + 0) _ ((at_ 0 (by decide)).trans rfl)
  have c1 := hc (k * 7 + 1) _ ((at_ 1 (by decide)).trans rfl)
  have c2 := hc (k * 7 + 2) _ ((at_ 2 (by decide)).trans rfl)
  have c3 := hc (k * 7 + 3) _ ((at_ 3 (by decide)).trans rfl)
  have c4 := hc (k * 7 + 4) _ ((at_ 4 (by decide)).trans rfl)
  have c5 := hc (k * 7 + 5) _ ((at_ 5 (by decide)).trans rfl)
  have c6 := hc (k * 7 + 6) _ ((at_ 6 (by decide)).trans rfl)
  rw [show ad.add (k * 7 + 1) = ⟨(ad.add (k * 7)).block, (ad.add (k * 7)).off + 1, none⟩ by rw [← Addr.add_add]; rfl] at c1
  rw [show ad.add (k * 7 + 2) = ⟨(ad.add (k * 7)).block, (ad.add (k * 7)).off + 2, none⟩ by rw [← Addr.add_add]; rfl] at c2
  rw [show ad.add (k * 7 + 3) = ⟨(ad.add (k * 7)).block, (ad.add (k * 7)).off + 3, none⟩ by rw [← Addr.add_add]; rfl] at c3
  rw [show ad.add (k * 7 + 4) = ⟨(ad.add (k * 7)).block, (ad.add (k * 7)).off + 4, none⟩ by rw [← Addr.add_add]; rfl] at c4
  rw [show ad.add (k * 7 + 5) = ⟨(ad.add (k * 7)).block, (ad.add (k * 7)).off + 5, none⟩ by rw [← Addr.add_add]; rfl] at c5
  rw [show ad.add (k * 7 + 6) = ⟨(ad.add (k * 7)).block, (ad.add (k * 7)).off + 6, none⟩ by rw [← Addr.add_add]; rfl] at c6
  exact ⟨ad, x0, x1, x2, x3, x4, x5, v, hA, by rw [List.getElem?_eq_getElem hl, hp], hb, c0, c1, c2, c3, c4, c5, c6⟩
end
/-- The call's own row of steps. -/
def OwnS (w : World) (B : Nat) (v : Value) (S : VV.St) : Prop := w.ownsRow B 127 7 v S.length (cellsSs S) ∧ AllS S
section
variable {w wr w1 w' : World} {B : Nat} {v v' : Value} {S : VV.St}
theorem OwnS.nil (w : World) (B : Nat) : OwnS w B (.slice none 0 0) [] := ⟨World.ownsRow_nil _ _ _ _, fun _ h => by cases h⟩
theorem StW.of_own {base : Nat} {e : TypeId} {c : Nat} {xs : List Value} {A : Option Addr} {n : Nat} (h : w.ownsRow base e 7 (.slice A n c) n xs) : Reads w w.heap.size 7 A n xs := Reads.of_own h
theorem OwnS.form (h : OwnS w B v S) (hn : S.length ≤ 100000) : ∃ A c, v = .slice A S.length c ∧ StW w A S.length c S := by
  rcases h.1.2 with ⟨rfl, h0⟩ | ⟨g, cap, cur, rfl, hg, hh, hc, hm, hsz, ht⟩
  · have : S = [] := List.eq_nil_of_length_eq_zero h0
    subst this
    exact ⟨none, 0, rfl, StW.nil _⟩
  · exact ⟨_, _, rfl, ⟨Reads.of_own (A := some ⟨g, 0, none⟩) (c := cap) h.1, rfl, hc, hn, h.2⟩⟩
theorem OwnS.keep (h : OwnS w B v S) (hb : Below w.heap.size w w') : OwnS w' B v S :=
  ⟨World.ownsRow.kept (row := none) h.1 ⟨hb.os, hb.tape, hb.output, hb.size, fun k hk _ => hb.block k hk⟩ (by cases hv : v.ownBlock <;> simp), h.2⟩
theorem OwnS.app {p : List Int × Int} (h : OwnS wr B v S) (hr : p.1.length = 6) (hB : Below B w wr) (hs : B ≤ wr.heap.size) (hown : w1.ownsRow B 127 7 v' (S.length + 1) (cellsSs S ++ cellsS p)) (hg : wr.grownBy w1 v.ownBlock) :
    OwnS w1 B v' (S ++ [p]) ∧ Below B w w1 := by
  refine ⟨⟨?_, ?_⟩, hB.grown hg hs (fun k hk => (World.ownsRow.lt h.1 k hk).1)⟩
  · rw [cellsSs_append, cellsSs_one, List.length_append]
    exact hown
  · intro x hx
    rcases List.mem_append.1 hx with g | g
    · exact h.2 x g
    · rw [List.mem_singleton.1 g]; exact hr
end
theorem VV.worth_snoc (S : VV.St) (s : List Int × Int) (x : List Int) : VV.worth (S ++ [s]) x = if VV.leB s.1 x then max (VV.worth S x) s.2 else VV.worth S x := by
  have h0 : VV.worth [] x = 0 := rfl
  have h1 := VV.worth_nonneg S x
  rw [VV.worth_append, VV.worth_cons, h0]
  by_cases h : VV.leB s.1 x = true <;> simp only [h, if_true, if_false, Bool.false_eq_true] <;> omega
end Go.Proofs.Ytjjpfpgjpmedmaa
