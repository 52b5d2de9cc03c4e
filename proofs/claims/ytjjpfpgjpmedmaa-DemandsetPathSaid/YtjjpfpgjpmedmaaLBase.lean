/- Words for the walks of chapter 6. Plain theorems, no claim of their own. -/
import Derived.Test.YtjjpfpgjpmedmaaChecked
import Derived.Test.YtjjpfpgjpmedmaaMathL
import Derived.WalkKit
import Derived.Below
import Derived.Laws.OwnMore
import Derived.Deep.AppendLies
import Derived.Deep.Draws
import Derived.Maps.AppendAt
import Derived.RegionTactic
import Derived.OwnWalk
import Derived.Lib.Hide
import Derived.Deep.QuietTactic
import Derived.BigQuiet
import Derived.BigRegion
import Derived.WalkSpells
import Derived.Outline
import Derived.StillTailTactics
import Derived.Laws.RangeAny
namespace Go.Proofs.Ytjjpfpgjpmedmaa
open Go.RowKit
/-- A call hands back v; nothing that was there has turned. -/
def Gives (v : Value) (w : World) (e : Ending) (w' : World) : Prop := e = .returned v ∧ Below w.heap.size w w'
theorem below_new (w : World) (o : Obj) : Below w.heap.size w (w.alloc o) := (Below.refl _ _).alloc (Nat.le_refl _) _
theorem below_drawn (w : World) : Below w.heap.size w w.drew := (Below.refl _ _).drew
theorem below_drewN {w W : World} {B : Nat} (h : Below B W w) (q : Nat) : Below B W (w.drewN q) := by
  induction q with
  | zero => exact h
  | succ q ih => exact ih.drew
theorem heap_new (w : World) (o : Obj) : (w.alloc o).heap[w.heap.size]? = some o := Array.getElem?_push_size
/-- The text of a list of bytes. -/
def str (l : List UInt8) : ByteArray := ⟨l.toArray⟩
theorem block_of_add (a : Addr) (n : Nat) : (a.add n).block = a.block := by unfold Addr.add; split <;> rfl
theorem add_of_add (a : Addr) (i j : Nat) : (a.add i).add j = a.add (i + j) := by
  unfold Addr.add
  by_cases hi : i = 0 <;> by_cases hj : j = 0 <;> simp [hi, hj, Nat.add_assoc]
theorem addr_add (g o j : Nat) : (⟨g, o, none⟩ : Addr).add j = ⟨g, o + j, none⟩ := by unfold Addr.add; split <;> simp_all

def Reads (w : World) (B size : Nat) (A : Option Addr) (n : Nat) (xs : List Value) : Prop :=
  xs.length = n * size ∧ (0 < n → ∃ ad, A = some ad ∧ ad.block < B ∧ ∀ j u, xs[j]? = some u → w.cell? (ad.add j) = some u)
section
variable {w w' : World} {B B' size n : Nat} {A : Option Addr} {xs : List Value}
theorem Reads.none_ : Reads w B size A 0 [] := ⟨by simp, fun h => absurd h (by omega)⟩
theorem Reads.keep (h : Reads w B size A n xs) (hk : ∀ p : Addr, p.block < B → w'.cell? p = w.cell? p) : Reads w' B size A n xs :=
  ⟨h.1, fun hn => by
    obtain ⟨ad, e, hb, hc⟩ := h.2 hn
    exact ⟨ad, e, hb, fun j u hu => (hk _ (by rw [block_of_add]; exact hb)).trans (hc j u hu)⟩⟩
theorem Reads.more (h : Reads w B size A n xs) (hB : B ≤ B') : Reads w B' size A n xs :=
  ⟨h.1, fun hn => by
    obtain ⟨ad, e, hb, hc⟩ := h.2 hn
    exact ⟨ad, e, by omega, hc⟩⟩
theorem Reads.below (h : Reads w B size A n xs) (hb : Below B w w') : Reads w' B size A n xs := h.keep fun _ hp => hb.cell hp
theorem Reads.cut (h : Reads w B size A n xs) {k cap : Nat} (hk : k ≤ n) (hc : n ≤ cap) :
    Reads w B size (if cap = k then A else A.map (·.add (k * size))) (n - k) (xs.drop (k * size)) := by
  refine ⟨by rw [List.length_drop, h.1, Nat.sub_mul], fun hn => ?_⟩
  obtain ⟨ad, rfl, hb, hcell⟩ := h.2 (by omega)
  rw [if_neg (by omega)]
  refine ⟨ad.add (k * size), rfl, by rw [block_of_add]; exact hb, fun j u hu => ?_⟩
  rw [add_of_add]
  exact hcell _ u (by rw [← hu, List.getElem?_drop])
theorem Reads.of_own {base : Nat} {e : TypeId} {c : Nat} (h : w.ownsRow base e size (.slice A n c) n xs) : Reads w w.heap.size size A n xs := by
  refine ⟨h.1, fun hn => ?_⟩
  obtain ⟨g, cap, hv, _, hlt⟩ := h.form hn
  have hA : A = some ⟨g, 0, none⟩ := by injection hv
  subst hA
  exact ⟨_, rfl, hlt, h.cells (g := g) rfl⟩
end
/-- A token's cells. -/
def cellsT (t : Tk) : List Value := [.int .i64 t.kind, .string (str t.text), .int .i64 t.value, .int .i64 t.at_]
def cellsTs (ts : List Tk) : List Value := ts.flatMap cellsT
theorem cellsTs_drop (ts : List Tk) (k : Nat) : (cellsTs ts).drop (k * 4) = cellsTs (ts.drop k) := by
  induction ts generalizing k with
  | nil => simp [cellsTs]
  | cons t r ih =>
    cases k with
    | zero => simp
    | succ k =>
      show (cellsT t ++ cellsTs r).drop ((k + 1) * 4) = cellsTs (r.drop k)
      rw [← ih k, List.drop_append, show (cellsT t).drop ((k + 1) * 4) = [] from List.drop_of_length_le (by simp [cellsT]; omega), List.nil_append]
      congr 1
      simp [cellsT]; omega
theorem cellsTs_at (ts : List Tk) (k i : Nat) (h : k < ts.length) (hi : i < 4) : (cellsTs ts)[k * 4 + i]? = (cellsT ts[k])[i]? := by
  have e := cellsTs_drop ts k
  rw [List.drop_eq_getElem_cons h] at e
  have : (cellsTs ts)[k * 4 + i]? = ((cellsTs ts).drop (k * 4))[i]? := by rw [List.getElem?_drop]
  rw [this, e]
  show (cellsT ts[k] ++ cellsTs (ts.drop (k + 1)))[i]? = _
  rw [List.getElem?_append_left (by simp [cellsT]; omega)]
/-- A slice of tokens that reads as ts. -/
structure Tks (w : World) (A : Option Addr) (n c : Nat) (ts : List Tk) : Prop where
  reads : Reads w w.heap.size 4 A n (cellsTs ts)
  len : ts.length = n
  cap : n ≤ c
  few : n ≤ 100000
section
variable {w w' : World} {A : Option Addr} {n c : Nat} {ts : List Tk}
theorem Tks.keep (h : Tks w A n c ts) (hb : Below w.heap.size w w') : Tks w' A n c ts := ⟨(h.reads.below hb).more hb.size, h.len, h.cap, h.few⟩
theorem Tks.nil (w : World) : Tks w none 0 0 [] := ⟨Reads.none_, rfl, Nat.le_refl _, Nat.zero_le _⟩
theorem Tks.at_ (h : Tks w A n c ts) {k : Nat} (hk : k < n) : ∃ (ad : Addr) (t : Tk), A = some ad ∧ ts[k]? = some t ∧ ad.block < w.heap.size ∧
    w.cell? (ad.add (k * 4)) = some (.int .i64 t.kind) ∧ w.cell? ⟨(ad.add (k * 4)).block, (ad.add (k * 4)).off + 1, none⟩ = some (.string (str t.text)) ∧
    w.cell? ⟨(ad.add (k * 4)).block, (ad.add (k * 4)).off + 2, none⟩ = some (.int .i64 t.value) ∧ w.cell? ⟨(ad.add (k * 4)).block, (ad.add (k * 4)).off + 3, none⟩ = some (.int .i64 t.at_) := by
  obtain ⟨ad, e, hb, hc⟩ := h.reads.2 (by omega)
  have hl : k < ts.length := by rw [h.len]; exact hk
  have c0 := hc (k * 4 + 0) _ ((cellsTs_at ts k 0 hl (by decide)).trans rfl)
  have c1 := hc (k * 4 + 1) _ ((cellsTs_at ts k 1 hl (by decide)).trans rfl)
  have c2 := hc (k * 4 + 2) _ ((cellsTs_at ts k 2 hl (by decide)).trans rfl)
  have c3 := hc (k * 4 + 3) _ ((cellsTs_at ts k 3 hl (by decide)).trans rfl)
  rw [show ad.add (k * 4 + 1) = ⟨(ad.add (k * 4)).block, (ad.add (k * 4)).off + 1, none⟩ by rw [← Addr.add_add]; rfl] at c1
  rw [show ad.add (k * 4 + 2) = ⟨(ad.add (k * 4)).block, (ad.add (k * 4)).off + 2, none⟩ by rw [← Addr.add_add]; rfl] at c2
  rw [show ad.add (k * 4 + 3) = ⟨(ad.add (k * 4)).block, (ad.add (k * 4)).off + 3, none⟩ by rw [← Addr.add_add]; rfl] at c3
  exact ⟨ad, ts[k], e, List.getElem?_eq_getElem hl, hb, c0, c1, c2, c3⟩
end
/-- The call's own row of tokens. -/
def OwnT (e : TypeId) (w : World) (B : Nat) (v : Value) (ts : List Tk) : Prop := w.ownsRow B e 4 v ts.length (cellsTs ts)
theorem OwnT.nil (e : TypeId) (w : World) (B : Nat) : OwnT e w B (.slice none 0 0) [] := World.ownsRow_nil _ _ _ _
theorem OwnT.form {e : TypeId} {w : World} {B : Nat} {v : Value} {ts : List Tk} (h : OwnT e w B v ts) (hn : ts.length ≤ 100000) : ∃ A c, v = .slice A ts.length c ∧ Tks w A ts.length c ts := by
  rcases h.2 with ⟨rfl, h0⟩ | ⟨g, cap, cur, rfl, hg, hh, hc, hm, hsz, ht⟩
  · have : ts = [] := List.eq_nil_of_length_eq_zero h0
    subst this
    exact ⟨none, 0, rfl, Tks.nil _⟩
  · exact ⟨_, _, rfl, ⟨Reads.of_own (A := some ⟨g, 0, none⟩) (c := cap) h, rfl, hc, hn⟩⟩
theorem OwnT.form2 {e : TypeId} {w : World} {B : Nat} {v : Value} {ts : List Tk} (h : OwnT e w B v ts) (hn : ts.length ≤ 100000) : ∃ A c, v = .slice A ts.length c ∧ Tks w A ts.length c ts ∧ ∀ ad, A = some ad → B ≤ ad.block ∧ ad.block < w.heap.size := by
  obtain ⟨A, c, hv, ht⟩ := h.form hn
  refine ⟨A, c, hv, ht, fun ad ha => ?_⟩
  subst ha
  exact World.ownsRow.lt h ad.block (by rw [hv]; rfl)
/-- Block g holds four cells. -/
def TB (w : World) (g : Nat) (T : TypeId) (a b c d : Value) : Prop := w.heap[g]? = some (.cells #[a, b, c, d] T (0, 0))
section
variable {w w' : World} {g : Nat} {T : TypeId} {a b c d : Value}
theorem TB.new (w : World) (T : TypeId) (a b c d : Value) : TB (w.alloc (.cells #[a, b, c, d] T)) w.heap.size T a b c d := heap_new w _
theorem TB.lt (h : TB w g T a b c d) : g < w.heap.size := (Array.getElem?_eq_some_iff.1 h).1
theorem TB.keep (h : TB w g T a b c d) (hb : Below w.heap.size w w') : TB w' g T a b c d := (hb.block g h.lt).trans h
theorem TB.drew (h : TB w g T a b c d) : TB w.drew g T a b c d := h
theorem TB.cells (h : TB w g T a b c d) : w.cell? ⟨g, 0, none⟩ = some a ∧ w.cell? ⟨g, 1, none⟩ = some b ∧ w.cell? ⟨g, 2, none⟩ = some c ∧ w.cell? ⟨g, 3, none⟩ = some d := by
  have h' : w.heap[g]? = some (.cells #[a, b, c, d] T (0, 0)) := h
  exact ⟨by rw [cell_of_row w g 0 _ _ _ h']; rfl, by rw [cell_of_row w g 1 _ _ _ h']; rfl, by rw [cell_of_row w g 2 _ _ _ h']; rfl, by rw [cell_of_row w g 3 _ _ _ h']; rfl⟩
theorem TB.free (h : TB w g T a b c d) : w.frozen? ⟨g, 0, none⟩ = false ∧ w.frozen? ⟨g, 1, none⟩ = false ∧ w.frozen? ⟨g, 2, none⟩ = false ∧ w.frozen? ⟨g, 3, none⟩ = false := by
  have h' : w.heap[g]? = some (.cells #[a, b, c, d] T (0, 0)) := h
  refine ⟨?_, ?_, ?_, ?_⟩ <;> simp [World.frozen?, h']
end
theorem TB.row {w : World} {g : Nat} {T : TypeId} {a b c d : Value} (h : TB w g T a b c d) : ∀ j u, [a, b, c, d][j]? = some u → w.cell? ((⟨g, 0, none⟩ : Addr).add j) = some u := by
  intro j u hu
  have h' : w.heap[g]? = some (.cells #[a, b, c, d] T (0, 0)) := h
  rw [addr_add, Nat.zero_add, cell_of_row w g j _ _ _ h']
  simpa using hu
end Go.Proofs.Ytjjpfpgjpmedmaa
