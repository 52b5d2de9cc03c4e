/- Slices of bundles. Plain theorems, no claim of their own. -/
import Derived.Test.YtjjpfpgjpmedmaaJB
import Derived.Laws.NewBlocks
namespace Go.Proofs.Ytjjpfpgjpmedmaa
open Go.RowKit
def cellsR (r : List Int) : List Value := r.map (Value.int .i64)
def cellsRs (rs : List (List Int)) : List Value := rs.flatMap cellsR
/-- All of six quantities. -/
def All6 (rs : List (List Int)) : Prop := ∀ r ∈ rs, r.length = 6
theorem cellsRs_append (a b : List (List Int)) : cellsRs (a ++ b) = cellsRs a ++ cellsRs b := by simp [cellsRs]
theorem cellsRs_one (t : List Int) : cellsRs [t] = cellsR t := by simp [cellsRs]
theorem cellsRs_drop {rs : List (List Int)} (h : All6 rs) (k : Nat) : (cellsRs rs).drop (k * 6) = cellsRs (rs.drop k) := by
  induction rs generalizing k with
  | nil => simp [cellsRs]
  | cons t r ih =>
    have ht := h t List.mem_cons_self
    cases k with
    | zero => simp
    | succ k =>
      show (cellsR t ++ cellsRs r).drop ((k + 1) * 6) = cellsRs (r.drop k)
      rw [← ih (fun x hx => h x (List.mem_cons_of_mem _ hx)) k, List.drop_append, show (cellsR t).drop ((k + 1) * 6) = [] from List.drop_of_length_le (by simp [cellsR, ht]; omega), List.nil_append]
      congr 1
      simp [cellsR, ht]; omega
theorem cellsRs_at {rs : List (List Int)} (h : All6 rs) (k i : Nat) (hk : k < rs.length) (hi : i < 6) : (cellsRs rs)[k * 6 + i]? = (cellsR rs[k])[i]? := by
  have e := cellsRs_drop h k
  rw [List.drop_eq_getElem_cons hk] at e
  have : (cellsRs rs)[k * 6 + i]? = ((cellsRs rs).drop (k * 6))[i]? := by rw [List.getElem?_drop]
  rw [this, e]
  show (cellsR rs[k] ++ cellsRs (rs.drop (k + 1)))[i]? = _
  rw [List.getElem?_append_left (by simp [cellsR, h _ (List.getElem_mem hk)]; omega)]
/-- A slice of bundles that reads as rs. -/
structure Rws (w : World) (A : Option Addr) (n c : Nat) (rs : List (List Int)) : Prop where
  reads : Reads w w.heap.size 6 A n (cellsRs rs)
  len : rs.length = n
  cap : n ≤ c
  few : n ≤ 100000
  all : All6 rs
section
variable {w w' : World} {A : Option Addr} {n c : Nat} {rs : List (List Int)}
theorem Rws.keep (h : Rws w A n c rs) (hb : Below w.heap.size w w') : Rws w' A n c rs := ⟨(h.reads.below hb).more hb.size, h.len, h.cap, h.few, h.all⟩
theorem Rws.nil (w : World) : Rws w none 0 0 [] := ⟨Reads.none_, rfl, Nat.le_refl _, Nat.zero_le _, fun _ h => by cases h⟩
theorem Rws.at_ (h : Rws w A n c rs) {k : Nat} (hk : k < n) : ∃ (ad : Addr) (a b c d e f : Int), A = some ad ∧ rs[k]? = some [a, b, c, d, e, f] ∧ ad.block < w.heap.size ∧
    w.cell? (ad.add (k * 6)) = some (.int .i64 a) ∧ w.cell? ⟨(ad.add (k * 6)).block, (ad.add (k * 6)).off + 1, none⟩ = some (.int .i64 b) ∧
    w.cell? ⟨(ad.add (k * 6)).block, (ad.add (k * 6)).off + 2, none⟩ = some (.int .i64 c) ∧ w.cell? ⟨(ad.add (k * 6)).block, (ad.add (k * 6)).off + 3, none⟩ = some (.int .i64 d) ∧
    w.cell? ⟨(ad.add (k * 6)).block, (ad.add (k * 6)).off + 4, none⟩ = some (.int .i64 e) ∧ w.cell? ⟨(ad.add (k * 6)).block, (ad.add (k * 6)).off + 5, none⟩ = some (.int .i64 f) := by
  obtain ⟨ad, hA, hb, hc⟩ := h.reads.2 (by omega)
  have hl : k < rs.length := by rw [h.len]; exact hk
  obtain ⟨x0, x1, x2, x3, x4, x5, hx⟩ := six (h.all _ (List.getElem_mem hl))
  have at_ : ∀ i, i < 6 → (cellsRs rs)[k * 6 + i]? = (cellsR [x0, x1, x2, x3, x4, x5])[i]? := fun i hi => by rw [cellsRs_at h.all k i hl hi, hx]
  have c0 := hc (k * 6 + 0) _ ((at_ 0 (by decide)).trans rfl)
  have c1 := hc (k * 6 + 1) _ ((at_ 1 (by decide)).trans rfl)
  have c2 := hc (k * 6 + 2) _ ((at_ 2 (by decide)).trans rfl)
  have c3 := hc (k * 6 + 3) _ ((at_ 3 (by decide)).trans rfl)
  have c4 := hc (k * 6 + 4) _ ((at_ 4 (by decide)).trans rfl)
  have c5 := hc (k * 6 + 5) _ ((at_ 5 (by decide)).trans rfl)
  rw [show ad.add (k * 6 + 1) = ⟨(ad.add (k * 6)).block, (ad.add (k * 6)).off + 1, none⟩ by rw [← Addr.add_add]; rfl] at c1
  rw [show ad.add (k * 6 + 2) = ⟨(ad.add (k * 6)).block, (ad.add (k * 6)).off + 2, none⟩ by rw [← Addr.add_add]; rfl] at c2
  rw [show ad.add (k * 6 + 3) = ⟨(ad.add (k * 6)).block, (ad.add (k * 6)).off + 3, none⟩ by rw [← Addr.add_add]; rfl] at c3
  rw [show ad.add (k * 6 + 4) = ⟨(ad.add (k * 6)).block, (ad.add (k * 6)).off + 4, none⟩ by rw [← Addr.add_add]; rfl] at c4
  rw [show ad.add (k * 6 + 5) = ⟨(ad.add (k * 6)).block, (ad.add (k * 6)).off + 5, none⟩ by rw [← Addr.add_add]; rfl] at c5
  exact ⟨ad, x0, x1, x2, x3, x4, x5, hA, by rw [List.getElem?_eq_getElem hl, hx], hb, c0, c1, c2, c3, c4, c5⟩
end
theorem infoBun : (Try.prog.info? 24).map (fun i => (i.zero, i.size, i.bytes)) = some (some (.agg #[.int .i64 0, .int .i64 0, .int .i64 0, .int .i64 0, .int .i64 0, .int .i64 0]), 6, 48) := by kernel_rfl
/-- The call's own row of bundles. -/
def OwnR (w : World) (B : Nat) (v : Value) (rs : List (List Int)) : Prop := w.ownsRow B 24 6 v rs.length (cellsRs rs) ∧ All6 rs
section
variable {w wr w1 w' : World} {B : Nat} {v v' : Value} {rs : List (List Int)}
theorem OwnR.nil (w : World) (B : Nat) : OwnR w B (.slice none 0 0) [] := ⟨World.ownsRow_nil _ _ _ _, fun _ h => by cases h⟩
theorem OwnR.form (h : OwnR w B v rs) (hn : rs.length ≤ 100000) : ∃ A c, v = .slice A rs.length c ∧ Rws w A rs.length c rs := by
  rcases h.1.2 with ⟨rfl, h0⟩ | ⟨g, cap, cur, rfl, hg, hh, hc, hm, hsz, ht⟩
  · have : rs = [] := List.eq_nil_of_length_eq_zero h0
    subst this
    exact ⟨none, 0, rfl, Rws.nil _⟩
  · exact ⟨_, _, rfl, ⟨Reads.of_own (A := some ⟨g, 0, none⟩) (c := cap) h.1, rfl, hc, hn, h.2⟩⟩
theorem OwnR.keep (h : OwnR w B v rs) (hb : Below w.heap.size w w') : OwnR w' B v rs :=
  ⟨World.ownsRow.kept (row := none) h.1 ⟨hb.os, hb.tape, hb.output, hb.size, fun k hk _ => hb.block k hk⟩ (by cases hv : v.ownBlock <;> simp), h.2⟩
theorem OwnR.app {r : List Int} (h : OwnR wr B v rs) (hr : r.length = 6) (hB : Below B w wr) (hs : B ≤ wr.heap.size) (hown : w1.ownsRow B 24 6 v' (rs.length + 1) (cellsRs rs ++ cellsR r)) (hg : wr.grownBy w1 v.ownBlock) :
    OwnR w1 B v' (rs ++ [r]) ∧ Below B w w1 := by
  refine ⟨⟨?_, ?_⟩, hB.grown hg hs (fun k hk => (World.ownsRow.lt h.1 k hk).1)⟩
  · rw [cellsRs_append, cellsRs_one, List.length_append]
    exact hown
  · intro x hx
    rcases List.mem_append.1 hx with g | g
    · exact h.2 x g
    · rw [List.mem_singleton.1 g]; exact hr
end
theorem BB.row {w : World} {g : Nat} {T : TypeId} {r : List Int} (h : BB w g T r) : ∀ j u, (cellsR r)[j]? = some u → w.cell? ((⟨g, 0, none⟩ : Addr).add j) = some u := by
  intro j u hu
  rw [addr_add, Nat.zero_add, cell_of_row w g j _ _ _ h.1]
  unfold cellsB
  rw [List.getElem?_toArray]
  exact hu
theorem cellsR_one (r : List Int) : ∀ u ∈ cellsR r, u.oneCell' = true := by
  intro u hu
  obtain ⟨x, _, rfl⟩ := List.mem_map.1 hu
  rfl
theorem row_all (s : List Int) (i n : Nat) (hi : i ≤ 6) : All6 (MB.row s i n) := by
  intro r hr
  obtain ⟨k, _, rfl⟩ := List.mem_map.1 hr
  exact MB.pad_length (by rw [MB.D_length]; exact hi)
/-- A call hands back a slice that reads as these bundles. -/
def GivesRws (rs : List (List Int)) (w : World) (e : Ending) (w' : World) : Prop := ∃ A n c, e = .returned (.slice A n c) ∧ Rws w' A n c rs ∧ Below w.heap.size w w'
end Go.Proofs.Ytjjpfpgjpmedmaa
