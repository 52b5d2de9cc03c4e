/- The bytes of a text in a row that the call has made: no claim of its own. -/
import Derived.Test.YtohamhejmmangaaDoorKAwake
namespace Go.Proofs.YtohamhejmmangaaDoor
open Go.RowKit
/-- Block g holds the bytes l from its head on; they may be written. -/
def BytesAt (w : World) (g : Nat) (l : List UInt8) : Prop := ∀ j (hj : j < l.length), w.cell? ⟨g, j, none⟩ = some (.int .u8 (l[j].toNat : Int)) ∧ w.frozen? ⟨g, j, none⟩ = false
theorem BytesAt.keep {w w' : World} {g B : Nat} {l : List UInt8} (h : BytesAt w g l) (hb : Below B w w') (hB : w.heap.size ≤ B) : BytesAt w' g l := fun j hj => by
  have hlt := World.block_lt_of_cell? w _ (h j hj).1
  have hlt' : g < B := Nat.lt_of_lt_of_le hlt hB
  rw [hb.cell (p := ⟨g, j, none⟩) hlt', hb.frozen (p := ⟨g, j, none⟩) hlt']
  exact h j hj
theorem BytesAt.set {w : World} {g : Nat} {l : List UInt8} (h : BytesAt w g l) {k : Nat} (hk : k < l.length) (b : UInt8) {u : Int} (hu : u = (b.toNat : Int)) : BytesAt (w.setCell ⟨g, k, none⟩ (.int .u8 u)) g (l.set k b) := by
  subst hu
  intro j hj
  have hj' : j < l.length := by simpa using hj
  refine ⟨?_, (World.frozen?_setCell _ _ _ _).trans (h j hj').2⟩
  by_cases e : k = j
  · subst e
    rw [World.cell?_setCell_same _ _ _ (h k hk).1]
    simp
  · rw [World.cell?_setCell_other _ _ _ _ (fun x => e (by injection x))]
    rw [(h j hj').1, List.getElem_set_ne e]
/-- The bytes of a text, in a new row. -/
theorem to_bytes (w : World) (s : ByteArray) (n : Nat) (hn : s.size = n) : ∃ cap w', (convert 9 37 (.string s)).run Tryd.prog w = .ok (.slice (some ⟨w.heap.size, 0, none⟩) n cap) w' ∧ Below w.heap.size w w' ∧ BytesAt w' w.heap.size s.data.toList := by
  subst hn
  refine ⟨_, _, run_bytes_of_string (P := Tryd.prog) w 9 37 5 s Tryd.underlying9 Tryd.underlying37 Tryd.underlying5, (Below.refl _ _).drew.alloc (Nat.le_refl _) _, fun j hj => ?_⟩
  have hj' : j < s.data.size := by simpa using hj
  generalize grownCap w s.size 0 5 = cap
  refine ⟨?_, ?_⟩
  · have := World.cell?_alloc_mark w.drew (bytesRow s cap) 5 ((bytesRow s cap).size, (bytesRow s cap).size + 1) j
    rw [show w.drew.heap.size = w.heap.size from rfl] at this
    rw [this, bytesRow_at s cap j hj']
    simp
  · have := World.frozen?_alloc_mark w.drew (bytesRow s cap) 5 (bytesRow s cap).size ((bytesRow s cap).size + 1) j
    rw [show w.drew.heap.size = w.heap.size from rfl] at this
    rw [this]
    have : j < (bytesRow s cap).size := by unfold bytesRow; rw [Array.size_append, Array.size_map]; omega
    rw [Bool.and_eq_false_iff]
    exact .inl (decide_eq_false (by omega))
theorem BytesAt.text {w : World} {g n : Nat} {l : List UInt8} (h : BytesAt w g l) (hn : l.length = n) (cap : Nat) : (convert 37 9 (.slice (some ⟨g, 0, none⟩) n cap)).run Tryd.prog w = .ok (.string (str l)) w := by
  subst hn
  refine run_convert_bytes_back w 37 9 5 ⟨g, 0, none⟩ cap l Tryd.underlying37 Tryd.underlying5 Tryd.underlying9 (fun j hj => ?_)
  have e : (⟨g, 0, none⟩ : Addr).add j = ⟨g, j, none⟩ := by unfold Addr.add; split <;> simp_all
  rw [e]
  exact (h j hj).1
/-- A byte with some of its bits turned. -/
theorem mask_ne (b m : UInt8) (h : m.toNat ≠ 0) : b ^^^ m ≠ b := fun e => h (by
  have := congrArg UInt8.toNat e
  rw [UInt8.toNat_xor] at this
  have z : b.toNat ^^^ m.toNat = b.toNat ^^^ 0 := by rw [this, Nat.xor_zero]
  exact xor_cancel_left z)
theorem mask_int (b m : UInt8) : bits BinOp.xor IntKind.u8 (b.toNat : Int) (m.toNat : Int) = ((b ^^^ m).toNat : Int) := by
  rw [u8_xor_nat _ _ b.toNat_lt m.toNat_lt, UInt8.toNat_xor]
end Go.Proofs.YtohamhejmmangaaDoor
