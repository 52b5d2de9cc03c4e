/- The contracts of Hex, of the package and of the reference: no claim of its own. -/
import Derived.Test.YtohamhejmmangaaDoorKBytes
namespace Go.Proofs.YtohamhejmmangaaDoor
open Go.RowKit
theorem digit_text (d : Nat) (h : d < 16) : (⟨#[48, 49, 50, 51, 52, 53, 54, 55, 56, 57, 97, 98, 99, 100, 101, 102]⟩ : ByteArray).extract d (d + 1) = str [hexD d] := bytes_eq _ _ (by
  rw [ByteArray.data_extract, Array.toList_extract, str_data]
  exact (show ∀ d, d < 16 → (([48, 49, 50, 51, 52, 53, 54, 55, 56, 57, 97, 98, 99, 100, 101, 102] : List UInt8).extract d (d + 1)) = [hexD d] by decide) d h)
theorem div16_step (x k : Nat) : x / 16 ^ k / 16 = x / 16 ^ (k + 1) := by rw [Nat.div_div_eq_div_mul, Nat.pow_succ]
def HexInv (G x : Nat) (w : World) (k : Nat) (wr : World) : Prop :=
  ∃ cur : List Nat, wr.heap[G]? = some (.cells (Db cur).toArray 50 (0, 0)) ∧ cur.length = 16 ∧ (∀ d ∈ cur, d < 256) ∧ cur.take k = ((hexOf x).take k).map UInt8.toNat ∧ Below G w wr
theorem HexInv.frozen {G x k : Nat} {w wr : World} (h : HexInv G x w k wr) (i : Nat) : wr.frozen? ⟨G, i, none⟩ = false := by
  obtain ⟨cur, hh, _⟩ := h
  simp [World.frozen?, hh]
theorem HexInv.cell {G x k : Nat} {w wr : World} (h : HexInv G x w k wr) (i : Nat) (hi : i < 16) : ∃ d, wr.cell? ⟨G, i, none⟩ = some (.int .u8 d) := by
  obtain ⟨cur, hh, hl, _⟩ := h
  refine ⟨(cur[i]'(by omega) : Nat), ?_⟩
  rw [cell_of_row wr G i _ _ (0, 0) hh]
  simp [Db, hl, hi]
theorem HexInv.step {G x k : Nat} {w wr : World} (h : HexInv G x w k wr) (hk : k < 16) {u : Int} (hu : u = ((hexD (x / 16 ^ (15 - k) % 16)).toNat : Int)) :
    HexInv G x w (k + 1) (wr.setCell ⟨G, k, none⟩ (.int .u8 u)) := by
  subst hu
  obtain ⟨cur, hh, hl, hd, ht, hb⟩ := h
  refine ⟨cur.set k (hexD (x / 16 ^ (15 - k) % 16)).toNat, ?_, by simpa using hl, fun d hd' => (List.mem_or_eq_of_mem_set hd').elim (hd d) (fun e => e ▸ UInt8.toNat_lt _), ?_, hb.setCell (Nat.le_refl _) _⟩
  · rw [heap_setCell_same wr G k _ _ _ hh]
    simp [Db, List.map_set]
  · have e : (hexOf x)[k]? = some (hexD (x / 16 ^ (15 - k) % 16)) := by
      have := hexLow_at x 16 k hk
      rwa [show 16 - 1 - k = 15 - k by omega] at this
    have hlen : (hexOf x).length = 16 := hexLow_length _ _
    rw [List.take_succ_eq_append_getElem (by simp; omega), List.take_set_of_le (Nat.le_refl _), ht, List.take_succ_eq_append_getElem (by omega)]
    have e2 : (hexOf x)[k] = hexD (x / 16 ^ (15 - k) % 16) := by
      rw [List.getElem?_eq_getElem (by omega)] at e
      exact Option.some.inj e
    rw [List.map_append, List.getElem_set_self]
    exact congrArg (fun z => List.map UInt8.toNat (List.take k (hexOf x)) ++ [UInt8.toNat z]) e2.symm
theorem tab_at (d : Nat) (h : d < 16) : (((⟨#[48, 49, 50, 51, 52, 53, 54, 55, 56, 57, 97, 98, 99, 100, 101, 102]⟩ : ByteArray)[d]'h).toNat : Int) = ((hexD d).toNat : Int) :=
  (show ∀ d : Fin 16, (((⟨#[48, 49, 50, 51, 52, 53, 54, 55, 56, 57, 97, 98, 99, 100, 101, 102]⟩ : ByteArray)[d.val]'d.isLt).toNat : Int) = ((hexD d.val).toNat : Int) by decide) ⟨d, h⟩
theorem shl_step (x k : Nat) : IntKind.u64.wrap ((x * 16 ^ k % 18446744073709551616 : Nat) * 16) = ((x * 16 ^ (k + 1) % 18446744073709551616 : Nat) : Int) := by
  rw [IntKind.wrap_u64, Nat.pow_succ, ← Nat.mul_assoc]
  generalize x * 16 ^ k = y
  omega
theorem HexInv.text {G x : Nat} {w wr : World} (h : HexInv G x w 16 wr) : (convert 37 9 (.slice (some ⟨G, 0, none⟩) 16 16)).run Tryd.prog wr = .ok (.string (str (hexOf x))) wr := by
  obtain ⟨cur, hh, hl, hd, ht, hb⟩ := h
  have hlen : (hexOf x).length = 16 := hexLow_length _ _
  rw [List.take_of_length_le (by omega), List.take_of_length_le (by omega)] at ht
  have conv := run_convert_bytes_arg (P := Tryd.prog) wr 37 5 Tryd.underlying37 Tryd.underlying5 G 0 16 16 (cur.map fun x : Nat => (x : Int)) (by simpa using hl) (fun i hi' => by
    rw [Nat.zero_add, cell_of_row wr G i _ _ (0, 0) hh, natmap_getD]
    simp [Db, hl, hi']) 9 Tryd.underlying9
  rw [conv]
  have : strOfNums (cur.map fun x : Nat => (x : Int)) = str (hexOf x) := bytes_eq _ _ (by
    rw [strOfNums_data, str_data, List.map_map, ht, List.map_map]
    have : (((fun n : Int => UInt8.ofNat n.toNat) ∘ fun x : Nat => (x : Int)) ∘ UInt8.toNat) = id := by funext x; simp
    rw [this, List.map_id])
  rw [this]
set_option maxRecDepth 100000 in
set_option maxHeartbeats 1000000 in
theorem hex_any (x : Nat) (hx : x < 18446744073709551616) (w : World) :
    Calls Tryd.prog 25 #[.int .u64 x] w (Gives (.string (str (hexOf x))) w) := by
  have I0 : Hid (HexInv w.heap.size x w 0 (w.alloc (.cells #[.int .u8 0, .int .u8 0, .int .u8 0, .int .u8 0, .int .u8 0, .int .u8 0, .int .u8 0, .int .u8 0, .int .u8 0, .int .u8 0, .int .u8 0, .int .u8 0, .int .u8 0, .int .u8 0, .int .u8 0, .int .u8 0] 50))) := Lib.hid
    ⟨List.replicate 16 0, Array.getElem?_push_size, rfl, by decide, rfl, below_alloc _ _⟩
  go_enter Tryd.func25, Tryd.ntmps25
  go_wp2
  generalize w.alloc (.cells #[.int .u8 0, .int .u8 0, .int .u8 0, .int .u8 0, .int .u8 0, .int .u8 0, .int .u8 0, .int .u8 0, .int .u8 0, .int .u8 0, .int .u8 0, .int .u8 0, .int .u8 0, .int .u8 0, .int .u8 0, .int .u8 0] 50) = w1 at *
  generalize hG : w.heap.size = G at *
  have HG := Lib.hid hG
  clear hG
  go_loopw [0, 5] (fun v i wr => ∃ k : Nat, k ≤ 16 ∧ i = .int .i64 k ∧ v = .int .u64 (x * 16 ^ k % 18446744073709551616 : Nat) ∧ Hid (HexInv G x w k wr)) (fun _ i _ => 16 - (intOf i).toNat)
  case atStart => exact ⟨0, by omega, rfl, by rw [Nat.pow_zero, Nat.mul_one, Nat.mod_eq_of_lt hx], I0⟩
  case round =>
    obtain ⟨k, hk, rfl, rfl, hi⟩ := hrel
    by_cases hlt : k < 16
    · obtain ⟨d0, hcell⟩ := hi.out.cell k hlt
      have hfz := hi.out.frozen k
      have S := Lib.hid (fun (u : Int) hu => hi.out.step (u := u) hlt hu)
      have T := Lib.hid (top_digit x k hlt)
      have hyl : x * 16 ^ k % 18446744073709551616 < 18446744073709551616 := Nat.mod_lt _ (by decide)
      have W := Lib.hid (shl_step x k)
      clear hi I0
      generalize x * 16 ^ k % 18446744073709551616 = y at *
      go_wp2
      go_roundw
      case rel => exact ⟨k + 1, by omega, by go_num, by rw [W.out], Lib.hid (S.out _ (by rw [tab_at _ (by omega), T.out]))⟩
      case measure => simp [intOf]; omega
    · obtain rfl : k = 16 := by omega
      have C := hi.out.text
      have F : Hid (Gives (.string (str (hexOf x))) w (.returned (.string (str (hexOf x)))) wr) := Lib.hid (by
        obtain ⟨cur, hh, hl, hd, ht, hb⟩ := hi.out
        exact ⟨rfl, HG.out ▸ hb⟩)
      clear hi I0
      generalize str (hexOf x) = t at *
      go_wp2
      go_ret
      exact F.out
set_option maxRecDepth 100000 in
set_option maxHeartbeats 1000000 in
theorem rhex_any (x : Nat) (hx : x < 18446744073709551616) (w : World) :
    Calls Tryd.prog 27 #[.int .u64 x] w (Gives (.string (str (hexOf x))) w) := by
  go_enter Tryd.func27, Tryd.ntmps27
  go_wp2
  go_loop [0, 3, 4] (fun v s i => ∃ k : Nat, k ≤ 16 ∧ i = .int .i64 k ∧ v = .int .u64 (x / 16 ^ k : Nat) ∧ s = .string (str (hexLow x k))) (fun _ _ i => 16 - (intOf i).toNat)
  case atStart => exact ⟨0, by omega, rfl, by simp, rfl⟩
  case round =>
    obtain ⟨k, hk, rfl, rfl, rfl⟩ := hrel
    by_cases hlt : k < 16
    · have hxl : x / 16 ^ k < 18446744073709551616 := Nat.lt_of_le_of_lt (Nat.div_le_self _ _) hx
      have hz : (str (hexLow x k)).size ≤ 16 := by rw [str_size, hexLow_length]; omega
      have D := Lib.hid (div16_step x k)
      have E : Hid ((⟨#[48, 49, 50, 51, 52, 53, 54, 55, 56, 57, 97, 98, 99, 100, 101, 102]⟩ : ByteArray).extract (x / 16 ^ k % 16) (x / 16 ^ k % 16 + 1) ++ str (hexLow x k) = str (hexLow x (k + 1))) := Lib.hid (by
        rw [digit_text _ (Nat.mod_lt _ (by decide)), str_append]; rfl)
      have hsum : ¬ 9223372036854775807 < min (x / 16 ^ k % 16 + 1) 16 - x / 16 ^ k % 16 + (str (hexLow x k)).size := by omega
      generalize str (hexLow x k) = t at *
      generalize x / 16 ^ k = y at *
      go_wp2
      go_round
      case rel => exact ⟨k + 1, by omega, by go_num, by rw [← D.out]; go_num, by rw [E.out]⟩
      case measure => simp [intOf]; omega
    · obtain rfl : k = 16 := by omega
      go_wp2
      go_ret
      exact ⟨rfl, Below.refl _ _⟩
end Go.Proofs.YtohamhejmmangaaDoor
