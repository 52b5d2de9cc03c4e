/- The contracts of the bytes of a number: no claim of its own. -/
import Derived.Test.YtohamhejmmangaaDoorKHash
namespace Go.Proofs.YtohamhejmmangaaDoor
open Go.RowKit
def lowN (x k : Nat) : List Nat := (List.range k).map fun i => x / 256 ^ i % 256
theorem lowB_lowN (x k : Nat) : lowB x k = (lowN x k).map UInt8.ofNat := by simp [lowB, lowN]
theorem lowN_length (x k : Nat) : (lowN x k).length = k := by simp [lowN]
theorem lowN_succ (x k : Nat) : lowN x (k + 1) = lowN x k ++ [x / 256 ^ k % 256] := by simp [lowN, List.range_succ]
theorem div_step (x k : Nat) : x / 256 ^ k / 256 = x / 256 ^ (k + 1) := by rw [Nat.div_div_eq_div_mul, Nat.pow_succ]
def Db (l : List Nat) : List Value := l.map fun d : Nat => Value.int .u8 (d : Int)
theorem Db_length (l : List Nat) : (Db l).length = l.length := by simp [Db]
theorem Db_at (l : List Nat) (k : Nat) (h : k < l.length) : (Db l)[k]? = some (.int .u8 (l[k] : Int)) := by simp [Db, h]
theorem infoU8 : (Tryd.prog.info? 5).map (fun i => (i.zero, i.size, i.bytes)) = some (some (.int .u8 0), 1, 1) := by kernel_rfl
theorem madeU8 (n : Nat) : (madeCells #[Value.int .u8 0] n).toList = Db (List.replicate n 0) := by
  have h : ∀ i : Nat, (#[Value.int .u8 0] : Array Value)[i % 1]! = .int .u8 0 := fun i => by rw [Nat.mod_one]; rfl
  simp [madeCells, Db, h, List.map_const']
/-- A row of bytes that the call has made. -/
structure MineB (w : World) (B : Nat) (A : Option Addr) (n : Nat) (l : List Nat) : Prop where
  len : l.length = n
  lt : ∀ d ∈ l, d < 256
  mem : 0 < n → ∃ g cur, A = some ⟨g, 0, none⟩ ∧ B ≤ g ∧ w.heap[g]? = some (.cells cur 5 (0, 0)) ∧ n ≤ cur.size ∧ cur.toList.take n = Db l
theorem natmap_getD (L : List Nat) (i : Nat) : (L.map fun x : Nat => (x : Int)).getD i 0 = ((L.getD i 0 : Nat) : Int) := by
  rw [List.getD_eq_getElem?_getD, List.getD_eq_getElem?_getD, List.getElem?_map]
  cases L[i]? <;> rfl
section
variable {w w' : World} {B n g : Nat} {A : Option Addr} {l : List Nat}
theorem MineB.at_ (h : MineB w B A n l) {k : Nat} (hk : k < n) : ∃ g, A = some ⟨g, 0, none⟩ ∧ B ≤ g ∧ w.cell? ⟨g, k, none⟩ = some (.int .u8 ((l.getD k 0 : Nat) : Int)) ∧ w.frozen? ⟨g, k, none⟩ = false := by
  obtain ⟨g, cur, rfl, hg, hh, hs, ht⟩ := h.mem (by omega)
  refine ⟨g, rfl, hg, ?_, by simp [World.frozen?, hh]⟩
  rw [cell_of_row w g k cur _ (0, 0) hh]
  have e : cur.toList[k]? = (Db l)[k]? := by rw [← ht, List.getElem?_take_of_lt hk]
  rw [Array.getElem?_toList] at e
  rw [e, Db_at l k (by have := h.len; omega)]
  simp [h.len, hk]
theorem MineB.set (h : MineB w B (some ⟨g, 0, none⟩) n l) (k : Nat) (d : Nat) (hd : d < 256) :
    MineB (w.setCell ⟨g, k, none⟩ (.int .u8 (d : Int))) B (some ⟨g, 0, none⟩) n (l.set k d) := by
  refine ⟨by simpa using h.len, fun x hx => (List.mem_or_eq_of_mem_set hx).elim (h.lt x) (fun e => e ▸ hd), fun h0 => ?_⟩
  obtain ⟨g', cur, e, hg, hh, hs, ht⟩ := h.mem h0
  injection e with e
  injection e with e
  subst e
  refine ⟨g, cur.setIfInBounds k (.int .u8 (d : Int)), rfl, hg, heap_setCell_same w g k cur _ _ hh, by simpa using hs, ?_⟩
  rw [Array.toList_setIfInBounds, List.take_set, ht]
  simp [Db, List.map_set]
/-- The text of a row of bytes. -/
theorem MineB.text (h : MineB w B (some ⟨g, 0, none⟩) n l) (c : Nat) : (convert 37 9 (.slice (some ⟨g, 0, none⟩) n c)).run Tryd.prog w = .ok (.string (str (l.map UInt8.ofNat))) w := by
  have conv := run_convert_bytes_arg (P := Tryd.prog) w 37 5 Tryd.underlying37 Tryd.underlying5 g 0 n c (l.map fun x : Nat => (x : Int)) (by simpa using h.len) (fun i hi' => by
    obtain ⟨g', e, _, hc, _⟩ := h.at_ (k := i) hi'
    injection e with e
    injection e with e
    subst e
    rw [Nat.zero_add, hc, natmap_getD]) 9 Tryd.underlying9
  rw [conv]
  have : strOfNums (l.map fun x : Nat => (x : Int)) = str (l.map UInt8.ofNat) := bytes_eq _ _ (by
    rw [strOfNums_data, str_data, List.map_map]
    have : ((fun n : Int => UInt8.ofNat n.toNat) ∘ fun x : Nat => (x : Int)) = UInt8.ofNat := by funext x; simp
    rw [this])
  rw [this]
end
/-- What holds after k bytes. -/
def LowInv (B g n x : Nat) (w : World) (k : Nat) (wr : World) : Prop :=
  ∃ cur, MineB wr B (some ⟨g, 0, none⟩) n cur ∧ cur.take k = lowN x k ∧ Below B w wr
theorem LowInv.step {B g n x k : Nat} {w wr : World} (h : LowInv B g n x w k wr) (hk : k < n) (hg : B ≤ g) {u : Int} (hu : u = ((x / 256 ^ k % 256 : Nat) : Int)) :
    LowInv B g n x w (k + 1) (wr.setCell ⟨g, k, none⟩ (.int .u8 u)) := by
  subst hu
  obtain ⟨cur, hm, ht, hb⟩ := h
  have hl := hm.len
  refine ⟨cur.set k (x / 256 ^ k % 256), hm.set k _ (Nat.mod_lt _ (by decide)), ?_, hb.setCell hg _⟩
  rw [lowN_succ, ← ht, List.take_succ_eq_append_getElem (by simp; omega), List.take_set_of_le (Nat.le_refl _)]
  simp
set_option maxRecDepth 100000 in
set_option maxHeartbeats 1000000 in
theorem low_any (x n : Nat) (hx : x < 18446744073709551616) (h0 : 0 < n) (hn : n ≤ 100) (w : World) :
    Calls Tryd.prog 31 #[.int .u64 x, .int .i64 n] w (Gives (.string (str (lowB x n))) w) := by
  obtain ⟨i0, hi0, hz0, hz1, hz2⟩ := info_parts infoU8
  go_enter Tryd.func31, Tryd.ntmps31
  go_wp2_with (at_make; refine wpList_make_full _ rfl _ _ 37 rfl w.heap.size 5 i0 (.int .u8 0) 1 Tryd.underlying37 hi0 hz0 hz1 _ _ _ _ n rfl rfl (by omega) (by omega) ?b2 ?b3 (Nat.le_refl _) ?_)
  case b2 => rw [hz2]; omega
  case b3 => unfold maxLen; omega
  intro w1 hown hgrow
  have I0 : Hid (LowInv w.heap.size w.heap.size n x w 0 w1) := Lib.hid (by
    refine ⟨List.replicate n 0, ⟨by simp, by simp, fun _ => ?_⟩, rfl, (Below.refl _ _).grown hgrow (Nat.le_refl _) (by intro k hk; cases hk)⟩
    rcases hown.2 with ⟨h1, _⟩ | ⟨g, cap, cur, h1, hg, hh, hc, hm, hsz, ht⟩
    · cases h1
    · injection h1 with h1
      injection h1 with h1
      injection h1 with h1
      subst h1
      exact ⟨_, cur, rfl, hg, hh, by omega, by rw [madeU8] at ht; simpa using ht⟩)
  have hgs : w.heap.size ≤ w.heap.size := Nat.le_refl _
  generalize hG : w.heap.size = G at *
  have HG := Lib.hid hG
  clear hown hgrow hG
  go_wp2
  go_loopw [0, 11] (fun v i wr => ∃ k : Nat, k ≤ n ∧ i = .int .i64 k ∧ v = .int .u64 (x / 256 ^ k : Nat) ∧ Hid (LowInv G G n x w k wr)) (fun _ i _ => n - (intOf i).toNat)
  case atStart => exact ⟨0, by omega, rfl, by simp, I0⟩
  case round =>
    obtain ⟨k, hk, rfl, rfl, hi⟩ := hrel
    by_cases hlt : k < n
    · obtain ⟨cur, hm, _, _⟩ := hi.out
      obtain ⟨g', e, _, hcell, hfz⟩ := hm.at_ hlt
      injection e with e
      injection e with e
      subst e
      have S := Lib.hid (fun (u : Int) hu => hi.out.step (u := u) hlt hgs hu)
      have D := Lib.hid (div_step x k)
      have hxl : x / 256 ^ k < 18446744073709551616 := Nat.lt_of_le_of_lt (Nat.div_le_self _ _) hx
      clear hm hi I0
      generalize x / 256 ^ k = y at *
      go_wp2
      go_roundw
      case rel => exact ⟨k + 1, by omega, by go_num, by rw [← D.out]; go_num, Lib.hid (S.out _ (by omega))⟩
      case measure => simp [intOf]; omega
    · obtain rfl : k = n := by omega
      obtain ⟨cur, hm, ht, hb⟩ := hi.out
      have T := hm.text k
      have F : Hid (Gives (.string (str (lowB x k))) w (.returned (.string (str (cur.map UInt8.ofNat)))) wr) := Lib.hid (by
        rw [List.take_of_length_le (by rw [hm.len]; exact Nat.le_refl _)] at ht
        rw [ht, ← lowB_lowN]
        exact ⟨rfl, HG.out ▸ hb⟩)
      clear hm ht hb hi I0
      generalize str (cur.map UInt8.ofNat) = t at *
      go_wp2
      go_ret
      exact F.out
/-- The text of one byte in a new block. -/
theorem one_text (w : World) (y : Nat) : (convert 37 9 (.slice (some ⟨w.heap.size, 0, none⟩) 1 1)).run Tryd.prog (w.alloc (.cells #[.int .u8 ((y : Int) % 256)] 5)) = .ok (.string (str [UInt8.ofNat (y % 256)])) (w.alloc (.cells #[.int .u8 ((y : Int) % 256)] 5)) := by
  have h : MineB (w.alloc (.cells #[.int .u8 ((y : Int) % 256)] 5)) 0 (some ⟨w.heap.size, 0, none⟩) 1 [y % 256] :=
    ⟨rfl, by intro d hd; simp at hd; omega, fun _ => ⟨w.heap.size, #[.int .u8 ((y : Int) % 256)], rfl, Nat.zero_le _, Array.getElem?_push_size, by simp, by simp [Db]⟩⟩
  exact h.text 1
set_option maxRecDepth 100000 in
set_option maxHeartbeats 1000000 in
theorem rlow_any (x n : Nat) (hx : x < 18446744073709551616) (hn : n ≤ 100) (w : World) :
    Calls Tryd.prog 32 #[.int .u64 x, .int .i64 n] w (Gives (.string (str (lowB x n))) w) := by
  have B0 := Lib.hid (Below.refl w.heap.size w)
  go_enter Tryd.func32, Tryd.ntmps32
  go_wp2
  go_loopw [0, 5, 6] (fun v s i wr => ∃ k : Nat, k ≤ n ∧ i = .int .i64 k ∧ v = .int .u64 (x / 256 ^ k : Nat) ∧ s = .string (str (lowB x k)) ∧ Hid (Below w.heap.size w wr)) (fun _ _ i _ => n - (intOf i).toNat)
  case atStart => exact ⟨0, by omega, rfl, by simp, rfl, B0⟩
  case round =>
    obtain ⟨k, hk, rfl, rfl, rfl, hb⟩ := hrel
    by_cases hlt : k < n
    · have D := Lib.hid (div_step x k)
      have hxl : x / 256 ^ k < 18446744073709551616 := Nat.lt_of_le_of_lt (Nat.div_le_self _ _) hx
      have conv := one_text wr (x / 256 ^ k)
      have E : Hid (str (lowB x k) ++ str [UInt8.ofNat (x / 256 ^ k % 256)] = str (lowB x (k + 1))) := Lib.hid (by rw [str_append, lowB_succ])
      have z1 : (str (lowB x k)).size ≤ 100 := by rw [str_size, lowB_length]; omega
      have z2 : (str [UInt8.ofNat (x / 256 ^ k % 256)]).size ≤ 1 := by rw [str_size]; exact Nat.le_refl _
      generalize str [UInt8.ofNat (x / 256 ^ k % 256)] = t2 at *
      generalize str (lowB x k) = t1 at *
      generalize x / 256 ^ k = y at *
      go_wp2
      go_roundw
      case rel => exact ⟨k + 1, by omega, by go_num, by rw [← D.out]; go_num, by rw [← E.out], Lib.hid (hb.out.alloc hb.out.size _)⟩
      case measure => simp [intOf]; omega
    · obtain rfl : k = n := by omega
      go_wp2
      go_ret
      exact ⟨rfl, hb.out⟩
end Go.Proofs.YtohamhejmmangaaDoor
