/- Rows that the call has made, as windows: no claim of its own. -/
import Derived.Test.YtbjkkiehpfnogaaDoorWins
import Derived.Laws.CopyOwn
import Derived.StillTailTactics
namespace Go.Proofs.YtbjkkiehpfnogaaDoor
open Go.RowKit
theorem infoU32 : (Tryd.prog.info? 46).map (fun i => (i.zero, i.size, i.bytes)) = some (some (.int .u32 0), 1, 4) := by kernel_rfl
theorem sizeU32 : (Tryd.prog.info? 46).map (·.size) = some 1 := by kernel_rfl
theorem madeU32 (n : Nat) : (madeCells #[Value.int .u32 0] n).toList = Dg (List.replicate n 0) := by
  have h : ∀ i : Nat, (#[Value.int .u32 0] : Array Value)[i % 1]! = .int .u32 0 := fun i => by rw [Nat.mod_one]; rfl
  simp [madeCells, Dg, Value.cells, h, List.map_const']
theorem own_win {w : World} {base g n : Nat} {xs : List Nat} (h : w.ownsRow base 46 1 (.slice (some ⟨g, 0, none⟩) n n) n (Dg xs)) (hl : ∀ d ∈ xs, d < 4294967296) : Win w g [] xs [] := by
  refine ⟨?_, hl⟩
  rcases h.2 with ⟨h1, _⟩ | ⟨g', cap, cur, h1, _, hh, _, _, hs, ht⟩
  · cases h1
  · injection h1 with h1 h2 h3
    injection h1 with h1
    injection h1 with h1
    subst h1 h3
    have hc : cur = (Dg xs).toArray := by
      rw [List.take_of_length_le (by simp [hs])] at ht
      rw [← ht]
    rw [hh, hc]
    simp
theorem made_win {w : World} {base g n : Nat} (h : w.ownsRow base 46 1 (.slice (some ⟨g, 0, none⟩) n n) n (madeCells #[Value.int .u32 0] n).toList) : Win w g [] (List.replicate n 0) [] := by
  rw [madeU32] at h
  exact own_win h (by intro d hd; have := (List.mem_replicate.1 hd).2; omega)
theorem split3 (row : List Nat) (i l : Nat) : row.take i ++ (row.drop i).take l ++ row.drop (i + l) = row := by
  rw [List.append_assoc, ← List.drop_drop, List.take_append_drop, List.take_append_drop]
theorem Win.part {w : World} {g : Nat} {row : List Nat} (h : Win w g [] row []) (i l : Nat) : Win w g (row.take i) ((row.drop i).take l) (row.drop (i + l)) :=
  ⟨by rw [split3]; simpa using h.blk, fun d hd => h.lt d (List.mem_of_mem_drop (List.mem_of_mem_take hd))⟩
theorem Win.join {w w' : World} {g : Nat} {row win : List Nat} {i l : Nat} (h : Win w g [] row []) (k : Win w' g (row.take i) win (row.drop (i + l))) : Win w' g [] (row.take i ++ win ++ row.drop (i + l)) [] :=
  ⟨by simpa using k.blk, fun d hd => by
    rcases List.mem_append.1 hd with hd | hd
    · rcases List.mem_append.1 hd with hd | hd
      · exact h.lt d (List.mem_of_mem_take hd)
      · exact k.lt d hd
    · exact h.lt d (List.mem_of_mem_drop hd)⟩
theorem dval_part (row win : List Nat) (i l : Nat) (h : i + l ≤ row.length) (hl : win.length = l) :
    dval (row.take i ++ win ++ row.drop (i + l)) + 4294967296 ^ i * dval ((row.drop i).take l) = dval row + 4294967296 ^ i * dval win := by
  have e := congrArg dval (split3 row i l)
  rw [dval_append, dval_append] at e
  rw [dval_append, dval_append, ← e]
  have h1 : (List.take i row).length = i := by simp; omega
  have h2 : (List.take i row ++ win).length = i + l := by simp; omega
  have h3 : (List.take i row ++ List.take l (List.drop i row)).length = i + l := by simp; omega
  rw [h1, h2, h3]
  omega
end Go.Proofs.YtbjkkiehpfnogaaDoor
