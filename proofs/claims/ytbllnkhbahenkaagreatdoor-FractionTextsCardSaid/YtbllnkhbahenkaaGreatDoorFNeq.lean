/- Two writings compared: no claim of its own. -/
import Derived.Test.YtbllnkhbahenkaaGreatDoorFRead2
import Derived.DeepKeys
namespace Go.Proofs.YtbllnkhbahenkaaGreatDoor
open Go.RowKit
theorem lit_bool (d : Nat) (a : Bool) : Tryz.prog.keyLits (d + 1) 4 [.bool a] = some [.bool a] := by
  unfold Program.keyLits
  simp only [Tryz.underlying4]
theorem lit_str (d : Nat) (s : ByteArray) (hs : s.size ≤ 200000) : Tryz.prog.keyLits (d + 1) 9 [.string s] = some [.string s.data.toList] := by
  unfold Program.keyLits
  simp only [Tryz.underlying9]
  exact if_pos (Nat.le_trans hs (by decide))
theorem wr_lits (a b : Bool) (s t : ByteArray) (hs : s.size ≤ 200000) (ht : t.size ≤ 200000) : Tryz.prog.keyLits 10 44 [.bool a, .string s, .bool b, .string t] = some [.bool a, .string s.data.toList, .bool b, .string t.data.toList] := by
  have c0 : Tryz.prog.cellsOf 44 = 4 := by kernel_rfl
  have c1 : Tryz.prog.cellsOf 4 = 1 := by kernel_rfl
  have c2 : Tryz.prog.cellsOf 9 = 1 := by kernel_rfl
  have l1 := lit_bool 8 a
  have l2 := lit_str 8 s hs
  have l3 := lit_bool 8 b
  have l4 := lit_str 8 t ht
  unfold Program.keyLits
  simp only [Tryz.underlying44]
  rw [if_pos ⟨c0.symm ▸ rfl, by kernel_rfl⟩]
  simp only [List.mapM_cons, List.mapM_nil, List.drop_zero, List.drop_succ_cons, c1, c2, List.take_succ_cons, List.take_zero, l1, l2, l3, l4]
  rfl
theorem neq_any (a b a' b' : Bool) (s t s' t' : ByteArray) (hs : s.size ≤ 200000) (ht : t.size ≤ 200000) (hs' : s'.size ≤ 200000) (ht' : t'.size ≤ 200000) (w : World) :
    ∃ r : Bool, (binOp .neq 44 (.agg #[.bool a, .string s, .bool b, .string t]) (.agg #[.bool a', .string s', .bool b', .string t'])).run Tryz.prog w = .ok (.bool (!r)) w ∧ (r = true ↔ (a = a' ∧ s = s' ∧ b = b' ∧ t = t')) := by
  obtain ⟨r, hr, hiff⟩ := run_equalIn_deep (P := Tryz.prog) 9998 2 44 (by kernel_rfl) w 10 10 (.agg #[.bool a, .string s, .bool b, .string t]) (.agg #[.bool a', .string s', .bool b', .string t']) _ _ (by kernel_rfl) (by kernel_rfl) (wr_lits a b s t hs ht) (wr_lits a' b' s' t' hs' ht')
  refine ⟨r, ?_, ?_⟩
  · have e : (Op.equal 44 (.agg #[.bool a, .string s, .bool b, .string t]) (.agg #[.bool a', .string s', .bool b', .string t'])).run Tryz.prog w = .ok r w := hr
    unfold binOp
    simp only [Sem.run_bind, e, Result.andThen_ok]
    rfl
  · rw [hiff]
    constructor
    · intro h
      injection h with h1 h
      injection h with h2 h
      injection h with h3 h
      injection h with h4 _
      injection h1 with h1
      injection h2 with h2
      injection h3 with h3
      injection h4 with h4
      exact ⟨h1, bytes_eq _ _ h2, h3, bytes_eq _ _ h4⟩
    · rintro ⟨rfl, rfl, rfl, rfl⟩
      rfl
end Go.Proofs.YtbllnkhbahenkaaGreatDoor
