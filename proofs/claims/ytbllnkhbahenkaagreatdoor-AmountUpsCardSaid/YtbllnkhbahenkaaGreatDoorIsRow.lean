/- A slice of numbers that came in, as a list of digits: no claim of its own. -/
import Derived.Test.YtbllnkhbahenkaaGreatDoorLives
import Derived.OpenShut
namespace Go.Proofs.YtbllnkhbahenkaaGreatDoor
open Go.RowKit
/-- What is told of a slice of numbers that came in. -/
def IsRow (k : IntKind) (w : World) (a : Option Addr) (len cap : Nat) (zs : List Int) : Prop :=
  (a = none ∧ len = 0 ∧ cap = 0 ∧ zs = []) ∨
  ∃ x, a = some x ∧ len ≤ cap ∧ cap ≤ maxLen ∧ zs.length = cap ∧ (∀ i, i < zs.length → w.cell? (x.add i) = some (.int k (zs.getD i 0))) ∧ ∀ n ∈ zs, (Lit.int k n).wf = true
theorem wf_u32 (n : Int) (h : (Lit.int .u32 n).wf = true) : 0 ≤ n ∧ n < 4294967296 := by
  have := bounds_u32 h
  omega
theorem IsRow.len_le {w : World} {a : Option Addr} {len cap : Nat} {zs : List Int} (h : IsRow .u32 w a len cap zs) : len ≤ 9223372036854775807 := by
  rcases h with ⟨_, rfl, _⟩ | ⟨x, _, h1, h2, _⟩
  · omega
  · unfold maxLen at h2; omega
theorem IsRow.lst {w : World} {a : Option Addr} {len cap : Nat} {zs : List Int} (h : IsRow .u32 w a len cap zs) (hs : len ≤ 35184372088832) : ∃ xs, Lst w a len cap xs := by
  rcases h with ⟨rfl, rfl, rfl, rfl⟩ | ⟨x, rfl, h1, h2, hz, hc, hwf⟩
  · exact ⟨[], Reads.none_, rfl, Nat.le_refl _, by omega, by simp⟩
  · have hb : ∀ z ∈ zs, 0 ≤ z ∧ z < 4294967296 := fun z hz' => wf_u32 z (hwf z hz')
    refine ⟨(zs.take len).map Int.toNat, ⟨⟨by simp [Dg]; omega, fun hp => ?_⟩, by simp; omega, h1, hs, fun d hd => ?_⟩⟩
    · refine ⟨x, rfl, ?_, fun j u hu => ?_⟩
      · have := World.block_lt_of_cell? w _ (hc 0 (by omega))
        rwa [block_of_add] at this
      · have hj : j < len := by
          have := (List.getElem?_eq_some_iff.1 hu).1
          simp [Dg] at this; omega
        rw [hc j (by omega)]
        have hm : zs.getD j 0 ∈ zs := by
          rw [List.getD_eq_getElem?_getD, List.getElem?_eq_getElem (by omega)]; exact List.getElem_mem _
        have := (hb _ hm).1
        rw [← hu]
        simp only [Dg, List.map_map, List.getElem?_map, List.getElem?_take_of_lt hj, List.getElem?_eq_getElem (show j < zs.length by omega), Option.map_some, Function.comp]
        rw [List.getD_eq_getElem?_getD, List.getElem?_eq_getElem (by omega)] at this ⊢
        simp only [Option.getD_some] at this ⊢
        rw [Int.toNat_of_nonneg this]
    · obtain ⟨z, hz', rfl⟩ := List.mem_map.1 hd
      have := hb z (List.mem_of_mem_take hz')
      omega
end Go.Proofs.YtbllnkhbahenkaaGreatDoor
