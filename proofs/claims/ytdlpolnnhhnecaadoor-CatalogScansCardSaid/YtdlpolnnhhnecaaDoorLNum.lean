/- A word's token, a number's token: no claim of its own. -/
import Derived.Test.YtdlpolnnhhnecaaDoorLPre
namespace Go.Proofs.YtdlpolnnhhnecaaDoor
open Go.RowKit
set_option maxRecDepth 100000 in
set_option maxHeartbeats 1000000 in
theorem word_any (s : ByteArray) (hs : s.size ≤ 9223372036854775807) (w : World) :
    Calls Tryd.prog 65 #[.string s] w (GivesTk (if 12 < s.data.toList.length then (.zero, 3) else (⟨1, s.data.toList, 0, 0⟩, 0)) w) := by
  rw [size_list]
  by_cases h : 12 < s.size
  · rw [if_pos h]
    go_enter Tryd.func65, Tryd.ntmps65
    go_wp2
    exact bodyPost_ret (v := .tuple #[.agg #[.int .i64 0, .string ⟨#[]⟩, .int .i64 0, .int .i64 0], .int .i64 3]) (by simp [results, Tryd.results65, go_sem]) rfl ⟨rfl, below_new _ _⟩
  · rw [if_neg h]
    have E := Lib.hid (str_self s)
    go_enter Tryd.func65, Tryd.ntmps65
    go_wp2
    exact bodyPost_ret (v := .tuple #[.agg #[.int .i64 1, .string s, .int .i64 0, .int .i64 0], .int .i64 0]) (by simp [results, Tryd.results65, go_sem]) rfl ⟨by unfold aggT; rw [E.out], below_new _ _⟩
/-- What number answers. -/
def numT (l : List UInt8) : Tk × Int :=
  if (l.head?.map UInt8.toNat = some 48) ∧ 1 < l.length then (.zero, 2)
  else if 9 < l.length then (.zero, 4)
  else (⟨2, l, (numV l : Nat), 0⟩, 0)
set_option maxRecDepth 100000 in
set_option maxHeartbeats 1000000 in
theorem number_any (s : ByteArray) (h0 : 0 < s.size) (hs : s.size ≤ 9223372036854775807) (hd : ∀ (j : Nat) (hj : j < s.size), digitN (s[j]).toNat = true) (w : World) :
    Calls Tryd.prog 69 #[.string s] w (GivesTk (numT s.data.toList) w) := by
  have hl := size_list s
  have e0 : s.data.toList.head?.map UInt8.toNat = some (s[0]).toNat := by rw [List.head?_eq_getElem?, at_list s 0 h0]; rfl
  have HD := Lib.hid hd
  clear hd
  by_cases hz : (s[0]).toNat = 48 ∧ 1 < s.size
  · have E : Hid (numT s.data.toList = (.zero, 2)) := Lib.hid (if_pos ⟨by rw [e0, hz.1], by omega⟩)
    obtain ⟨hz1, hz2⟩ := hz
    have hb : (((s[0]).toNat : Int) == 48) = true := by rw [hz1]; rfl
    clear e0 hl hz1
    rw [E.out]
    go_enter Tryd.func69, Tryd.ntmps69
    go_wp2
    exact bodyPost_ret (v := .tuple #[.agg #[.int .i64 0, .string ⟨#[]⟩, .int .i64 0, .int .i64 0], .int .i64 2]) (by simp [results, Tryd.results69, go_sem]) rfl ⟨rfl, below_new _ _⟩
  · have hz' : ¬ (s.data.toList.head?.map UInt8.toNat = some 48 ∧ 1 < s.data.toList.length) := by
      rw [e0, hl]; rintro ⟨a, b⟩; exact hz ⟨by injection a, b⟩
    by_cases h9 : 9 < s.size
    · have E : Hid (numT s.data.toList = (.zero, 4)) := Lib.hid (by unfold numT; rw [if_neg hz', if_pos (by omega)])
      have hb : (((s[0]).toNat : Int) == 48) = false := beq_eq_false_iff_ne.2 (by omega)
      clear e0 hl hz hz'
      rw [E.out]
      go_enter Tryd.func69, Tryd.ntmps69
      go_wp2
      exact bodyPost_ret (v := .tuple #[.agg #[.int .i64 0, .string ⟨#[]⟩, .int .i64 0, .int .i64 0], .int .i64 4]) (by simp [results, Tryd.results69, go_sem]) rfl ⟨rfl, below_new _ _⟩
    · have E : Hid (numT s.data.toList = (⟨2, s.data.toList, (numV s.data.toList : Nat), 0⟩, 0)) := Lib.hid (by unfold numT; rw [if_neg hz', if_neg (by omega)])
      have E2 := Lib.hid (str_self s)
      rw [E.out]
      clear e0 hz'
      have HL := Lib.hid hl
      clear hl E
      by_cases hb0 : (s[0]).toNat = 48
      all_goals
        first
          | (have hb : (((s[0]).toNat : Int) == 48) = true := by rw [hb0]; rfl)
          | (have hb : (((s[0]).toNat : Int) == 48) = false := beq_eq_false_iff_ne.2 (by omega))
        have h1 : (s[0]).toNat = 48 → ¬ 1 < s.size := fun a b => hz ⟨a, b⟩
        first
          | (have h1' := h1 hb0; clear h1 hz hb0)
          | (clear h1 hz hb0)
        go_enter Tryd.func69, Tryd.ntmps69
        go_wp2
        go_loopw [4] (fun v wr => ∃ k : Nat, k ≤ s.size ∧ wr = (w.alloc (.cells #[.int .i64 0, .string ⟨#[]⟩, .int .i64 0, .int .i64 0] 57)).iter s k ∧ v = .int .i64 (numV (s.data.toList.take k) : Nat)) (fun _ w' => s.size - w'.iterPos (w.heap.size + 1))
        case atStart => exact ⟨0, by omega, rfl, rfl⟩
        case round =>
          obtain ⟨k, hk, rfl, rfl⟩ := hrel
          by_cases hlt : k < s.size
          · have hdk := HD.out k hlt
            have hnx : ∀ ty, (Instr.next (.pointer (some ⟨w.heap.size + 1, 0, none⟩)) true ty).run Tryd.prog ((w.alloc (.cells #[.int .i64 0, .string ⟨#[]⟩, .int .i64 0, .int .i64 0] 57)).iter s k) = .ok (.tuple #[.bool true, .int .i64 k, .int .i32 s[k].toNat]) ((w.alloc (.cells #[.int .i64 0, .string ⟨#[]⟩, .int .i64 0, .int .i64 0] 57)).iter s (k + 1)) := fun ty => by
              have := run_next_any (P := Tryd.prog) (w.alloc (.cells #[.int .i64 0, .string ⟨#[]⟩, .int .i64 0, .int .i64 0] 57)) s k ty hlt
              rw [decode_ascii s k hlt (digitN_lt hdk), show (w.alloc (.cells #[.int .i64 0, .string ⟨#[]⟩, .int .i64 0, .int .i64 0] 57)).heap.size = w.heap.size + 1 by simp] at this
              exact this
            obtain ⟨d0, d1⟩ := digitN_yes.1 hdk
            have hy : numV (s.data.toList.take k) < 25600000000 := by
              have h1 := numV_lt (s.data.toList.take k)
              have h2 : 256 * (10 : Nat) ^ (s.data.toList.take k).length ≤ 256 * 10 ^ 8 := Nat.mul_le_mul_left _ (Nat.pow_le_pow_right (by decide) (by rw [List.length_take]; omega))
              exact Nat.lt_of_lt_of_le h1 h2
            have V : Hid (numV (s.data.toList.take (k + 1)) = numV (s.data.toList.take k) * 10 + ((s[k]).toNat - 48)) := Lib.hid (by
              rw [List.take_succ_eq_append_getElem (by rw [size_list]; exact hlt), numV_snoc]; rfl)
            clear hdk
            generalize numV (s.data.toList.take k) = y at *
            generalize s[k].toNat = r at *
            go_wp2
            go_roundw
            case rel => exact ⟨k + 1, by omega, rfl, by rw [V.out]; go_num⟩
            case measure => rw [iter_pos, iter_pos]; omega
          · obtain rfl : k = s.size := by omega
            have hnx : ∀ ty, (Instr.next (.pointer (some ⟨w.heap.size + 1, 0, none⟩)) true ty).run Tryd.prog ((w.alloc (.cells #[.int .i64 0, .string ⟨#[]⟩, .int .i64 0, .int .i64 0] 57)).iter s s.size) = .ok (.tuple #[.bool false]) ((w.alloc (.cells #[.int .i64 0, .string ⟨#[]⟩, .int .i64 0, .int .i64 0] 57)).iter s s.size) := fun ty => by
              have := run_next_end (P := Tryd.prog) (w.alloc (.cells #[.int .i64 0, .string ⟨#[]⟩, .int .i64 0, .int .i64 0] 57)) s s.size ty hlt
              rw [show (w.alloc (.cells #[.int .i64 0, .string ⟨#[]⟩, .int .i64 0, .int .i64 0] 57)).heap.size = w.heap.size + 1 by simp] at this
              exact this
            have V : Hid (s.data.toList.take s.size = s.data.toList) := Lib.hid (List.take_of_length_le (by rw [size_list]; exact Nat.le_refl _))
            rw [V.out]
            generalize numV s.data.toList = y at *
            clear V
            have hbk := ((TB.new w 57 (.int .i64 0) (.string ⟨#[]⟩) (.int .i64 0) (.int .i64 0)).keep (below_iter (w.alloc (.cells #[.int .i64 0, .string ⟨#[]⟩, .int .i64 0, .int .i64 0] 57)) s s.size))
            have B1 := Lib.hid ((below_new w (.cells #[.int .i64 0, .string ⟨#[]⟩, .int .i64 0, .int .i64 0] 57)).trans ((below_iter (w.alloc (.cells #[.int .i64 0, .string ⟨#[]⟩, .int .i64 0, .int .i64 0] 57)) s s.size).mono (below_new w (.cells #[.int .i64 0, .string ⟨#[]⟩, .int .i64 0, .int .i64 0] 57)).size))
            obtain ⟨c0, c1, c2, c3⟩ := hbk.cells
            obtain ⟨f0, f1, f2, f3⟩ := hbk.free
            clear hbk
            go_wp2
            exact bodyPost_ret (v := .tuple #[.agg #[.int .i64 2, .string s, .int .i64 y, .int .i64 0], .int .i64 0]) (by simp [results, Tryd.results69, go_sem, c0, c1, c2, c3]) rfl ⟨by unfold aggT; rw [E2.out], (((B1.out.setCell (by simp) _).setCell (by simp) _).setCell (by simp) _).setCell (by simp) _⟩
end Go.Proofs.YtdlpolnnhhnecaaDoor
