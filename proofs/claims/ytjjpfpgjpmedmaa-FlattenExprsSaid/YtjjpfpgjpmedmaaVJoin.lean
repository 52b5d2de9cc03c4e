/- bundle.Join, as chapter 7 has it. No claim of its own. -/
import Derived.Test.YtjjpfpgjpmedmaaJB
namespace Go.Proofs.Ytjjpfpgjpmedmaa
open Go.RowKit
set_option maxRecDepth 100000 in
set_option maxHeartbeats 2000000 in
theorem join_any (a b c d e f a' b' c' d' e' f' : Int) (w : World) : Calls Try.prog 102 #[.agg #[.int .i64 a, .int .i64 b, .int .i64 c, .int .i64 d, .int .i64 e, .int .i64 f], .agg #[.int .i64 a', .int .i64 b', .int .i64 c', .int .i64 d', .int .i64 e', .int .i64 f']] w
    (Gives (aggB (joinB [a, b, c, d, e, f] [a', b', c', d', e', f'])) w) := by
  obtain ⟨F, hF⟩ : ∃ F : Nat → Int, F = fun k => if MB.at_ [a, b, c, d, e, f] k < MB.at_ [a', b', c', d', e', f'] k then MB.at_ [a', b', c', d', e', f'] k else MB.at_ [a, b, c, d, e, f] k := ⟨_, rfl⟩
  have HS := Lib.hid (three_start F w a b c d e f a' b' c' d' e' f')
  have HR := Lib.hid (show joinB [a, b, c, d, e, f] [a', b', c', d', e', f'] = mapB F by rw [hF]; rfl)
  obtain ⟨xs, hxs⟩ : ∃ xs, [a, b, c, d, e, f] = xs := ⟨_, rfl⟩
  obtain ⟨ys, hys⟩ : ∃ ys, [a', b', c', d', e', f'] = ys := ⟨_, rfl⟩
  rw [hxs, hys] at HS
  rw [hxs, hys] at hF
  rw [HR.out]
  clear HR hxs hys
  have HF := Lib.hid hF
  clear hF
  go_enter Try.func102, Try.ntmps102
  go_wp2
  obtain ⟨W, hW⟩ : ∃ W, W = ((w.alloc (.cells #[.int .i64 a, .int .i64 b, .int .i64 c, .int .i64 d, .int .i64 e, .int .i64 f] 24)).alloc (.cells #[.int .i64 a', .int .i64 b', .int .i64 c', .int .i64 d', .int .i64 e', .int .i64 f'] 24)).alloc (.cells #[.int .i64 0, .int .i64 0, .int .i64 0, .int .i64 0, .int .i64 0, .int .i64 0] 24) := ⟨_, rfl⟩
  rw [← hW] at HS ⊢
  clear hW
  go_loopw [5, 6] (fun _ i wr => ∃ (k : Nat) (zs : List Int), k ≤ 6 ∧ i = .int .i64 k ∧ Done F w.heap.size w xs ys wr k zs) (fun _ i _ => 6 - (intOf i).toNat)
  case atStart => exact ⟨0, _, Nat.zero_le _, rfl, HS.out⟩
  case round =>
    obtain ⟨k, zs, hk, rfl, hd⟩ := hrel
    have HD := Lib.hid hd
    clear hd HS
    by_cases hlt : k < 6
    · have c1 : wr.cell? ⟨w.heap.size, k, none⟩ = some (.int .i64 (MB.at_ xs k)) := by rw [← HD.out.rest k (Nat.le_refl _)]; exact HD.out.here.cell hlt
      have c2 := HD.out.other.cell hlt
      have g1 := HD.out.here.free k
      have hsz := HD.out.here.lt
      have hFk : (if MB.at_ xs k < MB.at_ ys k then MB.at_ ys k else MB.at_ xs k) = F k := by rw [HF.out]
      have HFk := Lib.hid hFk
      clear hFk
      go_wp2
      go_still_tail 9, (by kernel_rfl)
      change wpList _ _ _ _ _ wr.drew
      go_wp2
      go_roundw
      case rel => exact ⟨k + 1, _, by omega, by go_num, HD.out.drew.step hlt _ (by rw [← HFk.out])⟩
      case measure => simp [intOf]; omega
    · obtain rfl : k = 6 := by omega
      have HE := Lib.hid (mapB_ext _ HD.out.here.2 HD.out.done)
      obtain ⟨z0, z1, z2, z3, z4, z5, hz⟩ := six HD.out.here.2
      have hh := HD.out.here
      rw [hz] at hh
      rw [hz] at HE
      obtain ⟨c0, c1, c2, c3, c4, c5⟩ := cells6 hh
      obtain ⟨r0, r1, r2, r3, r4, r5⟩ := cells6 HD.out.res
      obtain ⟨g0, g1, g2, g3, g4, g5⟩ := free6 HD.out.res
      have hsz := HD.out.res.lt
      have HBl := Lib.hid HD.out.below
      clear hz hh HD
      go_wp2
      refine bodyPost_ret (v := .agg #[.int .i64 z0, .int .i64 z1, .int .i64 z2, .int .i64 z3, .int .i64 z4, .int .i64 z5]) (by simp [results, Try.results102, go_sem, r0, r1, r2, r3, r4, r5]) rfl ⟨ret_agg (xs := [z0, z1, z2, z3, z4, z5]) HE.out, ?_⟩
      exact below_six HBl.out _ (by omega) _ _ _ _ _ _

end Go.Proofs.Ytjjpfpgjpmedmaa
