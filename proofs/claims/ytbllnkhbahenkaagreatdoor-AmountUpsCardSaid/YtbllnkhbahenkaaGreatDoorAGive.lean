/- The closure of Share that gives units on: no claim of its own. -/
import Derived.Test.YtbllnkhbahenkaaGreatDoorAF
namespace Go.Proofs.YtbllnkhbahenkaaGreatDoor
open Go.RowKit MA
set_option maxRecDepth 100000 in
set_option maxHeartbeats 1000000 in
theorem give_any (w : World) (p b1 b2 n i : Nat) (x u m : Int) (h0 : w.cell? ⟨b1, 0, none⟩ = some (.slice (some ⟨p, 0, none⟩) n n)) (h1 : w.cell? ⟨p, i, none⟩ = some (.int .i64 x)) (h2 : w.cell? ⟨b2, 0, none⟩ = some (.int .i64 m))
    (fr1 : w.frozen? ⟨p, i, none⟩ = false) (fr2 : w.frozen? ⟨b2, 0, none⟩ = false) (hi : i < n) (_hn : n ≤ 40) (hne : p ≠ b2) (x0 : 0 ≤ x) (x1 : x ≤ 10000000) (u0 : 0 ≤ u) (u1 : u ≤ 10000000) (m0 : -100000000 ≤ m) (m1 : m ≤ 100000000) :
    Calls Tryz.prog 67 #[.int .i64 i, .int .i64 u, .pointer (some ⟨b1, 0, none⟩), .pointer (some ⟨b2, 0, none⟩)] w fun e w' => e = .returned (.tuple #[]) ∧ (w.setCell ⟨p, i, none⟩ (.int .i64 (x + u))).setCell ⟨b2, 0, none⟩ (.int .i64 (m - u)) = w' := by
  have h3 : (w.setCell ⟨p, i, none⟩ (.int .i64 (x + u))).cell? ⟨b2, 0, none⟩ = some (.int .i64 m) := (World.cell?_setCell_other _ _ _ _ (by intro e; simp only [Addr.mk.injEq] at e; exact hne e.1)).trans h2
  have fr3 : (w.setCell ⟨p, i, none⟩ (.int .i64 (x + u))).frozen? ⟨b2, 0, none⟩ = false := by rw [World.frozen?_setCell]; exact fr2
  have e1 : IntKind.i64.wrap (x + u) = x + u := IntWalk.i64_in _ (by omega)
  have e2 : IntKind.i64.wrap (m - u) = m - u := IntWalk.i64_in _ (by omega)
  go_enter Tryz.func67, Tryz.ntmps67
  go_wp2
  go_end0
  exact ⟨rfl, rfl⟩
/-- What holds while Share gives units on: the parts' cells, the variable that holds their slice, the variable that holds what is missing. -/
structure Sh (w wr : World) (p b n : Nat) (f : Nat → Int) (m : Int) : Prop where
  arr : Blk wr p (F f n) 2
  box : Blk wr b [.slice (some ⟨p, 0, none⟩) n n] 55
  mis : Blk wr (b + 1) [.int .i64 m] 2
  bel : Below w.heap.size w wr
  hp : w.heap.size ≤ p
  hb : p < b
theorem Sh.keep {w wr w1 : World} {p b n : Nat} {f : Nat → Int} {m : Int} (h : Sh w wr p b n f m) (hb : Below wr.heap.size wr w1) : Sh w w1 p b n f m :=
  ⟨h.arr.keep hb, h.box.keep hb, h.mis.keep hb, h.bel.trans (hb.mono h.bel.size), h.hp, h.hb⟩
theorem Sh.eq {w wr : World} {p b n : Nat} {f g : Nat → Int} {m m' : Int} (h : Sh w wr p b n f m) (hf : ∀ i, i < n → f i = g i) (hm : m = m') : Sh w wr p b n g m' := by
  subst hm; exact ⟨F_congr hf ▸ h.arr, h.box, h.mis, h.bel, h.hp, h.hb⟩
/-- What the closure has done. -/
def Gave (w wr : World) (p b n : Nat) (g : Nat → Int) (m : Int) (e : Ending) (w' : World) : Prop :=
  e = .returned (.tuple #[]) ∧ Sh w w' p b n g m ∧ (∀ k cs T, Blk wr k cs T → k ≠ p → k ≠ b + 1 → Blk w' k cs T)
theorem give_sh {w wr : World} {p b n i : Nat} {f g : Nat → Int} {u m m' : Int} (h : Sh w wr p b n f m) (hi : i < n) (hn : n ≤ 40) (x0 : 0 ≤ f i) (x1 : f i ≤ 10000000) (u0 : 0 ≤ u) (u1 : u ≤ 10000000) (m0 : -100000000 ≤ m) (m1 : m ≤ 100000000)
    (hg : ∀ k, k < n → g k = if k = i then f i + u else f k) (hm : m - u = m') :
    Calls Tryz.prog 67 #[.int .i64 i, .int .i64 u, .pointer (some ⟨b, 0, none⟩), .pointer (some ⟨b + 1, 0, none⟩)] wr (Gave w wr p b n g m') := by
  have hpb := h.hb
  have hpw := h.hp
  refine (give_any wr p b (b + 1) n i (f i) u m (h.box.cell rfl) (h.arr.cell (F_at f hi)) (h.mis.cell rfl) (h.arr.frozen i) (h.mis.frozen 0) hi hn (by omega) x0 x1 u0 u1 m0 m1).mono ?_
  rintro e w' ⟨rfl, rfl⟩
  subst hm
  refine ⟨rfl, ⟨?_, ?_, ?_, ?_, h.hp, h.hb⟩, ?_⟩
  · have := (h.arr.set i (.int .i64 (f i + u))).other (g := b + 1) (by omega) 0 (.int .i64 (m - u))
    rwa [F_set f g (f i + u) hg] at this
  · exact (h.box.other (by omega) _ _).other (by omega) _ _
  · have := (h.mis.other (g := p) (by omega) i (.int .i64 (f i + u))).set 0 (.int .i64 (m - u))
    exact this
  · exact (h.bel.setCell (p := ⟨p, i, none⟩) h.hp _).setCell (p := ⟨b + 1, 0, none⟩) (by show w.heap.size ≤ b + 1; omega) _
  · intro k cs T hb h1 h2
    exact (hb.other h1 _ _).other h2 _ _
end Go.Proofs.YtbllnkhbahenkaaGreatDoor
