/- Two bundles compared: no claim of its own. -/
import Derived.Test.YtjjpfpgjpmedmaaJB
import Derived.ChangeKeysEq
import Derived.Laws.StructEq
namespace Go.Proofs.Ytjjpfpgjpmedmaa
open Go.RowKit
theorem part_int (v : Array Value) (k : Nat) (x : Int) (h : v[k]? = some (.int .i64 x)) (w : World) : (part 3 v (k * 1)).run Try.prog w = .ok (.int .i64 x) w := by
  exact run_part_plain w (by kernel_rfl) (by simpa using h)
theorem items_eq (u v : Array Value) (xs ys : List Int) (hx : ∀ k, k < 6 → u[k]? = some (.int .i64 (MB.at_ xs k))) (hy : ∀ k, k < 6 → v[k]? = some (.int .i64 (MB.at_ ys k))) (w : World) :
    ∀ ks : List Nat, (∀ k ∈ ks, k < 6) → (Op.eqItems 9999 3 1 u v ks).run Try.prog w = .ok (ks.all fun k => MB.at_ xs k == MB.at_ ys k) w
  | [], _ => by simp [Op.eqItems]
  | k :: ks, h => by
    have ih := items_eq u v xs ys hx hy w ks fun j hj => h j (List.mem_cons_of_mem _ hj)
    have e := run_equalIn_int (P := Try.prog) w 9998 3 .i64 .i64 (MB.at_ xs k) (MB.at_ ys k) Try.underlying3
    simp only [Op.eqItems, Sem.run_bind, part_int u k _ (hx k (h k List.mem_cons_self)), part_int v k _ (hy k (h k List.mem_cons_self)), e, Result.andThen_ok]
    by_cases hq : MB.at_ xs k = MB.at_ ys k
    · simp [hq, ih]
    · simp [hq]
set_option maxRecDepth 100000 in
theorem run_same (xs ys : List Int) (hx : xs.length = 6) (hy : ys.length = 6) (w : World) :
    (Op.equalIn 10000 24 (.agg (cellsB xs)) (.agg (cellsB ys))).run Try.prog w = .ok (decide (xs = ys)) w := by
  obtain ⟨i, hi⟩ : ∃ i, Try.prog.info? 3 = some i := ⟨_, by rfl⟩
  have hc : Try.prog.cellsOf 3 = 1 := by kernel_rfl
  rw [run_equalIn_array w 9999 (cellsB xs) (cellsB ys) Try.underlying24 hi, hc,
    items_eq _ _ xs ys (fun k hk => cellsB_at (by omega)) (fun k hk => cellsB_at (by omega)) w _ (fun k hk => by simpa using hk)]
  congr 1
  rw [Bool.eq_iff_iff]
  simp only [List.all_eq_true, List.mem_range, beq_iff_eq, decide_eq_true_eq]
  exact ⟨fun h => MB.ext6 hx hy h, fun h k _ => by rw [h]⟩
end Go.Proofs.Ytjjpfpgjpmedmaa
