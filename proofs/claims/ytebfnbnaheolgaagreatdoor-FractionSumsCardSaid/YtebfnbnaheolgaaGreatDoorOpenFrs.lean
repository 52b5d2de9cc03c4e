/- OpenFrs, Frs, joined: no claim of its own. -/
import Derived.Test.YtebfnbnaheolgaaGreatDoorOpenFr
import Derived.Deep.Strs
import Derived.Test.YtebfnbnaheolgaaGreatDoorRValid
namespace Go.Proofs.YtebfnbnaheolgaaGreatDoor
open Go.ChangeShapes Go.WideShapes Go.ChangeAt Go.RowKit Go.Joins Go.Deep
/-- The element k of a list of fractions, as it lies. -/
structure FrCell (W : World) (a : Addr) (k : Nat) (s : Bool) (A : Option Addr) (n c : Nat) (z0 : List Int) (B : Option Addr) (m d : Nat) (z1 : List Int) : Prop where
  c0 : W.cell? (a.add (k * 3)) = some (.bool s)
  c1 : W.cell? (a.add (k * 3 + 1)) = some (.slice A n c)
  c2 : W.cell? (a.add (k * 3 + 2)) = some (.slice B m d)
  x : IsRow .u32 W A n c z0
  y : IsRow .u32 W B m d z1
set_option maxRecDepth 100000 in
theorem open_fracs {H : Type} {enc : TypeId × Value → H} {W : World} {held : Bool} {f : Nat} {v : Value} {y : DataW H × List MemPlace} (h : DataW.trod enc Tryz.prog W 0 (fun _ => true) held f 22 [v] = some y) :
    v = .slice none 0 0 ∨ ∃ (a : Addr) (len cap : Nat), v = .slice (some a) len cap ∧ len ≤ cap ∧ cap ≤ maxLen ∧ ∀ k, k < len → ∃ (s : Bool) (A : Option Addr) (n c : Nat) (z0 : List Int) (B : Option Addr) (m d : Nat) (z1 : List Int), FrCell W a k s A n c z0 B m d z1 := by
  rcases DataW.trod_slice Tryz.underlying22 h with ⟨hcs, _⟩ | ⟨a, len, cap, elems, rest, n, _, hcs, _, _, hl, hm, hlen, hel, _, _⟩
  · simp at hcs
    exact .inl hcs
  · simp at hcs
    refine .inr ⟨a, len, cap, hcs, hl, hm, fun k hk => ?_⟩
    have hE := hel k hk
    rw [show Tryz.prog.cellsOf 27 = 3 by kernel_rfl] at hE
    have hlk : k < elems.length := by omega
    rw [List.getElem?_eq_getElem hlk, Option.bind_eq_some_iff] at hE
    obtain ⟨cs, h1, h2⟩ := hE
    obtain ⟨_, h3, h4⟩ := World.cells?_some h1
    obtain ⟨y0, y1, y2, n', _, hl3, t0, t1, t2⟩ := trod_struct3 Tryz.underlying27 h2
    obtain ⟨c0, c1, c2, rfl⟩ : ∃ c0 c1 c2, cs = [c0, c1, c2] := by
      match cs, h3 with
      | [c0, c1, c2], _ => exact ⟨c0, c1, c2, rfl⟩
    have e0 := h4 0 (by omega)
    have e1 := h4 1 (by omega)
    have e2 := h4 2 (by omega)
    clear h1 h2 h3 h4 hel
    simp only [Addr.add_add, List.getElem?_cons_zero, List.getElem?_cons_succ] at e0 e1 e2
    have u0 : DataW.trod enc Tryz.prog W 0 (fun _ => true) held n' 4 [c0] = some y0 := t0
    have u1 : DataW.trod enc Tryz.prog W 0 (fun _ => true) held n' 25 [c1] = some y1 := t1
    have u2 : DataW.trod enc Tryz.prog W 0 (fun _ => true) held n' 25 [c2] = some y2 := t2
    obtain ⟨b, hb, _⟩ := DataW.trod_bool Tryz.underlying4 u0
    simp at hb
    obtain ⟨A, n1, c, z0, rfl, w0⟩ := row_of u1
    obtain ⟨B, m, d, z1, rfl, w1⟩ := row_of u2
    exact ⟨b, A, n1, c, z0, B, m, d, z1, by rw [← hb]; exact e0, e1, e2, w0, w1⟩
end Go.Proofs.YtebfnbnaheolgaaGreatDoor
namespace Go.Proofs.YtebfnbnaheolgaaGreatDoor
open Go.RowKit
/-- The element k of the list at a is the fraction X. -/
structure ElFr (a : Addr) (k : Nat) (X : Fr) (A : Option Addr) (n c : Nat) (B : Option Addr) (m d : Nat) (xs ys : List Nat) (W : World) : Prop where
  c0 : W.cell? (a.add (k * 3)) = some (.bool X.s)
  c1 : W.cell? (a.add (k * 3 + 1)) = some (.slice A n c)
  c2 : W.cell? (a.add (k * 3 + 2)) = some (.slice B m d)
  x : Num W A n c xs X.p
  y : Num W B m d ys X.q
theorem ElFr.keep {a : Addr} {k : Nat} {X : Fr} {A : Option Addr} {n c : Nat} {B : Option Addr} {m d : Nat} {xs ys : List Nat} {W W' : World} (h : ElFr a k X A n c B m d xs ys W) (hb : Below W.heap.size W W') : ElFr a k X A n c B m d xs ys W' :=
  ⟨(hb.cell (World.block_lt_of_cell? W _ h.c0)).trans h.c0, (hb.cell (World.block_lt_of_cell? W _ h.c1)).trans h.c1, (hb.cell (World.block_lt_of_cell? W _ h.c2)).trans h.c2, h.x.keep hb, h.y.keep hb⟩
/-- The slice A of the fractions L, each of at most i digits. -/
structure Frs (A : Option Addr) (len cap : Nat) (L : List Fr) (i : Nat) (W : World) : Prop where
  hlen : L.length = len
  hcap : len ≤ cap ∧ cap ≤ maxLen
  hnil : A = none → len = 0 ∧ cap = 0
  el : ∀ a, A = some a → ∀ k (hk : k < L.length), Bd L[k] i ∧ ∃ (A : Option Addr) (n c : Nat) (B : Option Addr) (m d : Nat) (xs ys : List Nat), ElFr a k L[k] A n c B m d xs ys W
theorem Frs.keep {A : Option Addr} {len cap : Nat} {L : List Fr} {i : Nat} {W W' : World} (h : Frs A len cap L i W) (hb : Below W.heap.size W W') : Frs A len cap L i W' :=
  ⟨h.hlen, h.hcap, h.hnil, fun a ha k hk => by
    obtain ⟨b, A, n, c, B, m, d, xs, ys, e⟩ := h.el a ha k hk
    exact ⟨b, A, n, c, B, m, d, xs, ys, e.keep hb⟩⟩
def sumFr (L : List Fr) : Fr := L.foldl Fr.add Fr.zero
theorem sumFr_take {L : List Fr} {k : Nat} (hk : k < L.length) : sumFr (L.take (k + 1)) = Fr.add (sumFr (L.take k)) L[k] := by
  unfold sumFr
  rw [List.take_succ_eq_append_getElem hk, List.foldl_append]
  rfl
theorem zero_bd (i : Nat) (hi : 0 < i) : Bd Fr.zero i := ⟨Nat.pow_pos (by decide), by
  show 1 < 4294967296 ^ i
  have := Nat.pow_le_pow_right (n := 4294967296) (by decide) hi
  omega, Fr.zero_ok⟩
/-- After k fractions of at most i digits the sum has at most 1 + k * (i + 1). -/
theorem sumFr_bd {L : List Fr} {i : Nat} (hL : ∀ X ∈ L, Bd X i) : Bd (sumFr L) (1 + L.length * (i + 1)) := by
  have go : ∀ (L : List Fr) (S : Fr) (j : Nat), (∀ X ∈ L, Bd X i) → Bd S j → Bd (L.foldl Fr.add S) (j + L.length * (i + 1)) := by
    intro L
    induction L with
    | nil => intro S j _ h; simpa using h
    | cons X L ih =>
      intro S j hL h
      refine (ih (Fr.add S X) (j + i + 1) (fun Y hY => hL Y (List.mem_cons_of_mem _ hY)) (h.add (hL X (List.mem_cons_self ..)))).mono ?_
      simp only [List.length_cons, Nat.add_mul]
      omega
  exact go L Fr.zero 1 hL (zero_bd 1 (by decide))
def dotFr (L M : List Fr) : Fr := sumFr (List.zipWith Fr.mul L M)
end Go.Proofs.YtebfnbnaheolgaaGreatDoor
