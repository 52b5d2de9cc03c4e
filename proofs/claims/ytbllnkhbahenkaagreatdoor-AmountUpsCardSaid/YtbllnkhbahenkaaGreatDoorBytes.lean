/- Rows of bytes that the call has made; bytes.TrimRight at one byte, slices.Reverse: no claim of its own. -/
import Derived.Test.YtbllnkhbahenkaaGreatDoorDivS
import Derived.Test.YtbllnkhbahenkaaGreatDoorMaths
import Derived.Laws.BytesArg
import Derived.BigRegion
namespace Go.Proofs.YtbllnkhbahenkaaGreatDoor
open Go.RowKit
def Db (l : List Nat) : List Value := l.map fun d : Nat => Value.int .u8 (d : Int)
theorem Db_length (l : List Nat) : (Db l).length = l.length := by simp [Db]
theorem Db_at (l : List Nat) (k : Nat) (h : k < l.length) : (Db l)[k]? = some (.int .u8 (l[k] : Int)) := by simp [Db, h]
theorem infoU8 : (Tryz.prog.info? 5).map (fun i => (i.zero, i.size, i.bytes)) = some (some (.int .u8 0), 1, 1) := by kernel_rfl
structure OwnB (w : World) (B : Nat) (v : Value) (l : List Nat) : Prop where
  own : w.ownsRow B 5 1 v l.length (Db l)
  lt : ∀ d ∈ l, d < 256
structure MineB (w : World) (B : Nat) (A : Option Addr) (n : Nat) (l : List Nat) : Prop where
  len : l.length = n
  lt : ∀ d ∈ l, d < 256
  mem : 0 < n → ∃ g cur, A = some ⟨g, 0, none⟩ ∧ B ≤ g ∧ w.heap[g]? = some (.cells cur 5 (0, 0)) ∧ n ≤ cur.size ∧ cur.toList.take n = Db l
section
variable {w w' : World} {B n g : Nat} {A : Option Addr} {l : List Nat}
theorem OwnB.mine {v : Value} (h : OwnB w B v l) : ∃ A c, v = .slice A l.length c ∧ MineB w B A l.length l ∧ l.length ≤ c := by
  rcases h.own.2 with ⟨rfl, h0⟩ | ⟨g, cap, cur, rfl, hg, hh, hc, hm, hsz, ht⟩
  · exact ⟨none, 0, by rw [h0], ⟨rfl, h.lt, fun hp => by omega⟩, by omega⟩
  · exact ⟨some ⟨g, 0, none⟩, cap, rfl, ⟨rfl, h.lt, fun _ => ⟨g, cur, rfl, hg, hh, by omega, by simpa using ht⟩⟩, hc⟩
theorem OwnB.nil (w : World) (B : Nat) : OwnB w B (.slice none 0 0) [] := ⟨World.ownsRow_nil _ _ _ _, by simp⟩
theorem getDb_lt {l : List Nat} (h : ∀ d ∈ l, d < 256) (k : Nat) : l.getD k 0 < 256 := by
  rcases Nat.lt_or_ge k l.length with hk | hk
  · rw [List.getD_eq_getElem?_getD, List.getElem?_eq_getElem hk]; exact h _ (List.getElem_mem hk)
  · rw [List.getD_eq_getElem?_getD, List.getElem?_eq_none hk]; decide
theorem MineB.at_ (h : MineB w B A n l) {k : Nat} (hk : k < n) : ∃ g, A = some ⟨g, 0, none⟩ ∧ B ≤ g ∧ w.cell? ⟨g, k, none⟩ = some (.int .u8 ((l.getD k 0 : Nat) : Int)) ∧ w.frozen? ⟨g, k, none⟩ = false := by
  obtain ⟨g, cur, rfl, hg, hh, hs, ht⟩ := h.mem (by omega)
  refine ⟨g, rfl, hg, ?_, by simp [World.frozen?, hh]⟩
  rw [cell_of_row w g k cur _ (0, 0) hh]
  have e : cur.toList[k]? = (Db l)[k]? := by rw [← ht, List.getElem?_take_of_lt hk]
  rw [Array.getElem?_toList] at e
  rw [e, Db_at l k (by have := h.len; omega)]
  simp [h.len, hk]
theorem MineB.set (h : MineB w B (some ⟨g, 0, none⟩) n l) {k : Nat} (_hk : k < n) (d : Nat) (hd : d < 256) :
    MineB (w.setCell ⟨g, k, none⟩ (.int .u8 (d : Int))) B (some ⟨g, 0, none⟩) n (l.set k d) := by
  refine ⟨by simpa using h.len, fun x hx => (List.mem_or_eq_of_mem_set hx).elim (h.lt x) (fun e => e ▸ hd), fun h0 => ?_⟩
  obtain ⟨g', cur, e, hg, hh, hs, ht⟩ := h.mem h0
  injection e with e
  injection e with e
  subst e
  refine ⟨g, cur.setIfInBounds k (.int .u8 (d : Int)), rfl, hg, heap_setCell_same w g k cur _ _ hh, by simpa using hs, ?_⟩
  rw [Array.toList_setIfInBounds, List.take_set, ht]
  simp [Db, List.map_set]
theorem MineB.take (h : MineB w B A n l) {k : Nat} (hk : k ≤ n) : MineB w B A k (l.take k) := by
  refine ⟨by rw [List.length_take, h.len]; omega, fun d hd => h.lt d (List.mem_of_mem_take hd), fun h0 => ?_⟩
  obtain ⟨g, cur, rfl, hg, hh, hs, ht⟩ := h.mem (by omega)
  refine ⟨g, cur, rfl, hg, hh, by omega, ?_⟩
  have e : Db (l.take k) = (Db l).take k := by simp [Db]
  rw [e, ← ht, List.take_take, Nat.min_eq_left hk]
theorem MineB.drew (h : MineB w B A n l) : MineB w.drew B A n l := ⟨h.len, h.lt, h.mem⟩
/-- Rows of different element types never share a block. -/
theorem OwnB.other {v : Value} {n' : Nat} {A' : Option Addr} {xs : List Nat} (h : OwnB w B v l) (k : Mine w B A' n' xs) (hn : 0 < n') (hg : w.grownBy w' (A'.map (·.block))) : OwnB w' B v l := by
  refine ⟨h.own.kept hg ?_, h.lt⟩
  obtain ⟨g, cur, rfl, _, hh, _⟩ := k.mem hn
  rcases h.own.2 with ⟨rfl, _⟩ | ⟨g', cap, cur', rfl, _, hh', _⟩
  · left; rfl
  · right
    intro e
    have e' : g' = g := by simpa [Value.ownBlock] using e
    subst e'
    rw [hh] at hh'
    injection hh' with hh'
    injection hh' with _ ht
    exact absurd ht (by decide)
theorem Mine.other {v : Value} {xs : List Nat} (k : Mine w B A n xs) (h : OwnB w B v l) (hg : w.grownBy w' v.ownBlock) : Mine w' B A n xs := by
  refine ⟨k.len, k.lt, fun h0 => ?_⟩
  obtain ⟨g, cur, rfl, hB, hh, hs, ht⟩ := k.mem h0
  refine ⟨g, cur, rfl, hB, ?_, hs, ht⟩
  rw [hg.block g (Array.getElem?_eq_some_iff.1 hh).1]
  · exact hh
  · intro e
    rcases h.own.2 with ⟨rfl, _⟩ | ⟨g', cap, cur', rfl, _, hh', _⟩
    · cases e
    · have e' : g = g' := by simpa [Value.ownBlock] using e
      subst e'
      rw [hh] at hh'
      injection hh' with hh'
      injection hh' with _ ht
      exact absurd ht (by decide)
theorem OwnB.app {w1 wr : World} {d : Nat} {v v' : Value} {out : List Nat} {u : Int} {o : Obj} (h : OwnB wr B v out) (hB : Below B w wr) (hs : B ≤ wr.heap.size) (hown : w1.ownsRow B 5 1 v' (out.length + 1) (Db out ++ [.int .u8 u]))
    (hu : u = (d : Int)) (hd : d < 256) (hg : (wr.alloc o).grownBy w1 v.ownBlock) : OwnB w1 B v' (out ++ [d]) ∧ Below B w w1 := by
  subst hu
  exact ⟨⟨by simpa [Db] using hown, fun x hx => by
    rcases List.mem_append.1 hx with h1 | h1
    · exact h.lt x h1
    · simp at h1; omega⟩, (hB.alloc hs o).grown hg (by simp; omega) (fun k hk => (h.own.lt k hk).1)⟩
end
/-- What trimRightByte hands back: the first k bytes; what is cut is that byte, and what stays ends in another. -/
def CutsB (A : Option Addr) (c b : Nat) (l : List Nat) (w : World) (e : Ending) (w' : World) : Prop :=
  ∃ k, k ≤ l.length ∧ e = .returned (.slice A k c) ∧ (∀ j, k ≤ j → j < l.length → l.getD j 0 = b) ∧ (0 < k → l.getD (k - 1) 0 ≠ b) ∧ w = w'
set_option maxRecDepth 100000 in
set_option maxHeartbeats 400000 in
theorem trimByte_any (A : Option Addr) (n c b B : Nat) (l : List Nat) (w : World) (h : MineB w B A n l) (_hb : b < 256) (hn : n ≤ c) (hm : n ≤ 140737488351232) :
    Calls Tryz.prog 115 #[.slice A n c, .int .u8 b] w (CutsB A c b l w) := by
  have H := Lib.hid h
  clear h
  go_enter Tryz.func115, Tryz.ntmps115
  go_wp2
  go_loop [0] (fun v => ∃ k : Nat, k ≤ n ∧ v = .slice A k c ∧ Hid (∀ j, k ≤ j → j < n → l.getD j 0 = b)) (fun v => match v with | .slice _ k _ => k | _ => 0)
  case atStart => exact ⟨n, Nat.le_refl _, rfl, Lib.hid fun j hj h => by omega⟩
  case round =>
    obtain ⟨k, hk, rfl, hz⟩ := hrel
    have fin : (0 < k → l.getD (k - 1) 0 ≠ b) → Hid (CutsB A c b l w (.returned (.slice A k c)) w) := fun h =>
      Lib.hid ⟨k, by rw [H.out.len]; exact hk, rfl, fun j h1 h2 => hz.out j h1 (by rw [← H.out.len]; exact h2), h, rfl⟩
    rcases Nat.eq_zero_or_pos k with hk0 | hk0
    · subst hk0
      have F := fin fun h => absurd h (by omega)
      clear fin hz
      go_wp2
      go_ret
      exact F.out
    · obtain ⟨g, rfl, hg, hcell, _⟩ := H.out.at_ (k := k - 1) (by omega)
      by_cases hd : l.getD (k - 1) 0 = b
      · rw [hd] at hcell
        have R : Hid (∀ j, k - 1 ≤ j → j < n → l.getD j 0 = b) := Lib.hid fun j h1 h2 => by
          rcases Nat.lt_or_ge j k with h3 | h3
          · rw [show j = k - 1 by omega]; exact hd
          · exact hz.out j h3 h2
        clear fin hz hd
        go_wp2
        go_round
        case rel => exact ⟨k - 1, by omega, rfl, R⟩
        case measure => simp; omega
      · have F := fin fun _ => hd
        generalize l.getD (k - 1) 0 = x at hcell hd
        have hx : ((x : Int) == (b : Int)) = false := beq_eq_false_iff_ne.2 (by omega)
        clear fin hz hd
        go_wp2
        go_ret
        exact F.out
set_option maxRecDepth 100000 in
set_option maxHeartbeats 400000 in
theorem trimZeros_any (A : Option Addr) (n c B : Nat) (l : List Nat) (w : World) (h : MineB w B A n l) (hn : n ≤ c) (hm : n ≤ 140737488351232) (h0 : 0 < n) :
    Calls Tryz.prog 89 #[.slice A n c, .string ⟨#[48]⟩] w (CutsB A c 48 l w) := by
  have C := Lib.hid (show ∀ w', MineB w' B A n l → Calls Tryz.prog 115 #[.slice A n c, .int .u8 48] w' (CutsB A c 48 l w') from fun w' h => trimByte_any A n c 48 B l w' h (by decide) hn hm)
  have H := Lib.hid h
  have hz : ((n : Int) == 0) = false := beq_eq_false_iff_ne.2 (by omega)
  clear h
  go_enter Tryz.func89, Tryz.ntmps89
  go_wp2_with fail
  refine (C.out _ H.out).mono ?_
  rintro e w' hc
  have K := Lib.hid hc
  obtain ⟨k, _, rfl, _, _, rfl⟩ := hc
  go_wp2
  go_ret
  exact K.out
/-- What holds of the reversal when i bytes are exchanged at each end. -/
def RevInv (B : Nat) (A : Option Addr) (n : Nat) (l : List Nat) (w : World) (i : Nat) (wr : World) : Prop :=
  ∃ cur, MineB wr B A n cur ∧ Below B w wr ∧ ∀ t, t < n → cur.getD t 0 = if t < i ∨ n ≤ t + i then l.getD (n - 1 - t) 0 else l.getD t 0
theorem getD_setB (xs : List Nat) (k j d : Nat) (h : k < xs.length) : (xs.set k d).getD j 0 = if k = j then d else xs.getD j 0 := by
  simp only [List.getD_eq_getElem?_getD, List.getElem?_set]
  split <;> simp_all
theorem RevInv.step {B n g i x y : Nat} {l : List Nat} {w wr : World} (h : RevInv B (some ⟨g, 0, none⟩) n l w i wr) (hi : 2 * i + 1 < n) (hg : B ≤ g) (hx : l.getD i 0 = x) (hy : l.getD (n - 1 - i) 0 = y) :
    RevInv B (some ⟨g, 0, none⟩) n l w (i + 1) (((wr.drew).setCell ⟨g, i, none⟩ (.int .u8 (y : Int))).setCell ⟨g, n - 1 - i, none⟩ (.int .u8 (x : Int))) := by
  obtain ⟨cur, hm, hb, he⟩ := h
  have hl := hm.len
  have ex := he i (by omega)
  rw [if_neg (by omega), hx] at ex
  have ey := he (n - 1 - i) (by omega)
  rw [if_neg (by omega), hy] at ey
  have lx : x < 256 := by rw [← ex]; exact getDb_lt hm.lt i
  have ly : y < 256 := by rw [← ey]; exact getDb_lt hm.lt _
  refine ⟨(cur.set i y).set (n - 1 - i) x, (hm.drew.set (by omega) y ly).set (by omega) x lx, (hb.drew.setCell hg _).setCell hg _, fun t ht => ?_⟩
  rw [getD_setB _ _ _ _ (by simp; omega), getD_setB _ _ _ _ (by omega)]
  by_cases h1 : n - 1 - i = t
  · rw [if_pos h1, if_pos (by omega), ← h1, show n - 1 - (n - 1 - i) = i by omega, hx]
  · rw [if_neg h1]
    by_cases h2 : i = t
    · rw [if_pos h2, if_pos (by omega), ← h2, hy]
    · rw [if_neg h2, he t ht]
      by_cases h3 : t < i ∨ n ≤ t + i
      · rw [if_pos h3, if_pos (by omega)]
      · rw [if_neg h3, if_neg (by omega)]
def Reverses (B : Nat) (A : Option Addr) (n : Nat) (l : List Nat) (w : World) (e : Ending) (w' : World) : Prop := e = .returned (.tuple #[]) ∧ MineB w' B A n l.reverse ∧ Below B w w'
theorem RevInv.fin {B n i : Nat} {A : Option Addr} {l : List Nat} {w wr : World} (h : RevInv B A n l w i wr) (hl : l.length = n) (hi : n ≤ 2 * i + 1) : Reverses B A n l w (.returned (.tuple #[])) wr := by
  obtain ⟨cur, hm, hb, he⟩ := h
  have e : cur = l.reverse := by
    apply List.ext_getElem (by simp [hm.len, hl])
    intro t h1 h2
    have ht : t < n := by rw [← hm.len]; exact h1
    have e1 := he t ht
    rw [List.getElem_reverse]
    have e2 : cur.getD t 0 = cur[t] := by simp [h1]
    have e3 : l.getD (n - 1 - t) 0 = l[l.length - 1 - t]'(by omega) := by
      have : n - 1 - t = l.length - 1 - t := by omega
      rw [this]
      simp [show l.length - 1 - t < l.length by omega]
    rw [← e2, e1]
    by_cases h3 : t < i ∨ n ≤ t + i
    · rw [if_pos h3, e3]
    · rw [if_neg h3, ← e3, show n - 1 - t = t by omega]
  exact ⟨rfl, e ▸ hm, hb⟩
set_option maxRecDepth 100000 in
set_option maxHeartbeats 1000000 in
theorem reverse_any (A : Option Addr) (n c B : Nat) (l : List Nat) (w : World) (h : MineB w B A n l) (hm : n ≤ 140737488351232) (_hB : B ≤ w.heap.size) :
    Calls Tryz.prog 90 #[.slice A n c] w (Reverses B A n l w) := by
  have HN := Lib.hid h.len
  have I0 : Hid (RevInv B A n l w 0 w) := Lib.hid ⟨l, h, Below.refl _ _, fun t ht => by rw [if_neg (by omega)]⟩
  clear h
  go_enter Tryz.func90, Tryz.ntmps90
  go_wp2
  go_loopw [2, 3] (fun i j wr => ∃ k : Nat, k ≤ n ∧ 2 * k ≤ n + 1 ∧ i = .int .i64 k ∧ j = .int .i64 ((n : Int) - 1 - (k : Int)) ∧ Hid (RevInv B A n l w k wr)) (fun i _ _ => n - (intOf i).toNat)
  case atStart => exact ⟨0, by omega, by omega, rfl, by go_num, I0⟩
  case round =>
    obtain ⟨k, hk, hk2, rfl, rfl, hi⟩ := hrel
    by_cases hlt : 2 * k + 1 < n
    · obtain ⟨g, rfl, hg, hcell, hfz, hcell2, hfz2⟩ : ∃ g, A = some ⟨g, 0, none⟩ ∧ B ≤ g ∧ wr.cell? ⟨g, k, none⟩ = some (.int .u8 ((l.getD k 0 : Nat) : Int)) ∧ wr.frozen? ⟨g, k, none⟩ = false ∧ wr.cell? ⟨g, n - 1 - k, none⟩ = some (.int .u8 ((l.getD (n - 1 - k) 0 : Nat) : Int)) ∧ wr.frozen? ⟨g, n - 1 - k, none⟩ = false := by
        obtain ⟨cur, hm1, hb, he⟩ := hi.out
        obtain ⟨g, rfl, hg, h1, h2⟩ := hm1.at_ (k := k) (by omega)
        obtain ⟨g', e, hg', h3, h4⟩ := hm1.at_ (k := n - 1 - k) (by omega)
        injection e with e
        injection e with e
        subst e
        rw [he k (by omega), if_neg (by omega)] at h1
        rw [he (n - 1 - k) (by omega), if_neg (by omega)] at h3
        exact ⟨g, rfl, hg, h1, h2, h3, h4⟩
      obtain ⟨x, hx⟩ : ∃ x, l.getD k 0 = x := ⟨_, rfl⟩
      obtain ⟨y, hy⟩ : ∃ y, l.getD (n - 1 - k) 0 = y := ⟨_, rfl⟩
      have S := Lib.hid (hi.out.step hlt hg hx hy)
      rw [hx] at hcell
      rw [hy] at hcell2
      obtain ⟨j, hj⟩ : ∃ j, n - 1 - k = j := ⟨_, rfl⟩
      rw [hj] at S hcell2 hfz2
      have hjk : k < j := by omega
      have hjn : j < n := by omega
      have hji : (n : Int) - 1 - (k : Int) = (j : Int) := by omega
      rw [hji]
      have HJ := Lib.hid hji
      have b1 : (k : Int) < (n : Int) := by omega
      have b2 : (j : Int) < (n : Int) := by omega
      have b3 : (k : Int) < (j : Int) := by omega
      clear hx hy hi I0 hj hji
      go_wp2
      go_region
      go_wp2
      go_roundw
      case rel => exact ⟨k + 1, by omega, by omega, by go_num, by have := HJ.out; go_num, S⟩
      case measure => simp [intOf]; omega
    · have F := Lib.hid (hi.out.fin HN.out (by omega))
      have b1 : ¬ (k : Int) < (n : Int) - 1 - (k : Int) := by omega
      clear hi I0
      go_wp2
      go_end0
      exact F.out
end Go.Proofs.YtbllnkhbahenkaaGreatDoor
