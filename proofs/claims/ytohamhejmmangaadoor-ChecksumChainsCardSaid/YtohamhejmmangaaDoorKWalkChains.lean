/- The walk of ChecksumChains: no claim of its own. -/
import Derived.Test.YtohamhejmmangaaDoorKBuf
namespace Go.Proofs.YtohamhejmmangaaDoor
open Go.RowKit
/-- A slice that reads as the texts ss. -/
def Strs (w : World) (A : Option Addr) (n : Nat) (ss : List ByteArray) : Prop :=
  ss.length = n ∧ (∀ s ∈ ss, s.size ≤ 9223372036854775807) ∧ (0 < n → ∃ ad, A = some ad ∧ ∀ i, i < n → w.cell? (ad.add i) = some (.string (ss.getD i ByteArray.empty)))
theorem block_of_add (a : Addr) (n : Nat) : (a.add n).block = a.block := by unfold Addr.add; split <;> rfl
theorem Strs.keep {w w' : World} {B : Nat} {A : Option Addr} {n : Nat} {ss : List ByteArray} (h : Strs w A n ss) (hb : Below B w w') (hB : w.heap.size ≤ B) : Strs w' A n ss :=
  ⟨h.1, h.2.1, fun h0 => by
    obtain ⟨ad, e, hc⟩ := h.2.2 h0
    exact ⟨ad, e, fun i hi => (hb.cell (Nat.lt_of_lt_of_le (World.block_lt_of_cell? w _ (hc i hi)) hB)).trans (hc i hi)⟩⟩
theorem Strs.at_ {w : World} {A : Option Addr} {n : Nat} {ss : List ByteArray} (h : Strs w A n ss) {k : Nat} (hk : k < n) : ∃ ad s, A = some ad ∧ w.cell? (ad.add k) = some (.string s) ∧ ss.getD k ByteArray.empty = s ∧ s.size ≤ 9223372036854775807 := by
  obtain ⟨ad, e, hc⟩ := h.2.2 (by omega)
  have hl := h.1
  refine ⟨ad, _, e, hc k hk, rfl, ?_⟩
  rw [List.getD_eq_getElem?_getD, List.getElem?_eq_getElem (by omega)]
  exact h.2.1 _ (List.getElem_mem _)
/-- The hash of the first k records, chained. -/
def chained (p : Nat) (ss : List ByteArray) : Nat → Nat
  | 0 => p
  | k + 1 => chainOf (chained p ss k) (ss.getD k ByteArray.empty).data.toList
theorem chained_lt {p : Nat} (hp : p < 18446744073709551616) (ss : List ByteArray) (k : Nat) : chained p ss k < 18446744073709551616 := by
  cases k with
  | zero => exact hp
  | succ k => exact chainOf_lt _ _
set_option maxRecDepth 100000 in
set_option maxHeartbeats 2000000 in
theorem chains_walk (z : Int) (A : Option Addr) (n c : Nat) (ss : List ByteArray) (at_ m : Int) (w : World) (hz : 0 ≤ z ∧ z ≤ 18446744073709551615) (hl : Strs w A n ss) (hn : n ≤ 9223372036854775807) (ha : -9223372036854775808 ≤ at_ ∧ at_ ≤ 9223372036854775807) (hm : 0 ≤ m ∧ m ≤ 255) (ht : Tab w) :
    Calls Tryd.prog 9 #[.int .u64 z, .slice A n c, .int .i64 at_, .int .u8 m] w (Gives (.bool true) w) := by
  obtain ⟨p, rfl⟩ := Int.eq_ofNat_of_zero_le hz.1
  have hp : p < 18446744073709551616 := by omega
  have HT := Lib.hid ht
  have HS := Lib.hid hl
  have B0 := Lib.hid (Below.refl w.heap.size w)
  have CL := Lib.hid (chained_lt hp ss)
  clear ht hl
  rcases Nat.lt_or_ge 60 n with h60 | h60
  · go_enter Tryd.func9, Tryd.ntmps9
    go_wp2_with fail
    refine (awake_any _ HT.out).mono ?_
    rintro e w1 ⟨rfl, hb⟩
    have B1 := Lib.hid hb
    clear hb
    go_wp2
    go_ret
    exact ⟨rfl, B1.out⟩
  go_enter Tryd.func9, Tryd.ntmps9
  go_wp2
  go_loopw [9, 10, 11, 24] (fun a b l i wr => ∃ k q : Nat, k ≤ n ∧ i = .int .i64 k ∧ a = .int .u64 (chained p ss k : Nat) ∧ b = .int .u64 (chained p ss k : Nat) ∧ l = .int .u64 q ∧ Hid (q < 18446744073709551616 ∧ (0 < k → q = chained p ss (k - 1))) ∧ Hid (Below w.heap.size w wr)) (fun _ _ _ i _ => n - (intOf i).toNat)
  case atStart => exact ⟨0, p, by omega, rfl, rfl, rfl, rfl, Lib.hid ⟨hp, fun h => absurd h (by omega)⟩, B0⟩
  case round =>
    obtain ⟨k, q, hk, rfl, rfl, rfl, rfl, hq, hb⟩ := hrel
    have T := Lib.hid (HT.out.keep hb.out (Nat.le_refl _))
    have S := Lib.hid (HS.out.keep hb.out (Nat.le_refl _))
    by_cases hlt : k < n
    · obtain ⟨ad, s, rfl, hcell, he, hs⟩ := S.out.at_ hlt
      have hxl := CL.out k
      have hyl := CL.out (k + 1)
      have E : Hid (chained p ss (k + 1) = chainOf (chained p ss k) s.data.toList) := Lib.hid (by rw [← he]; rfl)
      clear he
      rcases Nat.lt_or_ge 6000 s.size with h | h
      · have F := Lib.hid (fun w' => few_no s h w')
        generalize chained p ss k = x at *
        go_wp2_with fail
        refine (F.out _).mono ?_
        rintro e w' ⟨rfl, rfl⟩
        go_wp2_with fail
        refine (awake_any _ T.out).mono ?_
        rintro e w1 ⟨rfl, hb1⟩
        have B1 := Lib.hid (hb.out.trans (hb1.mono hb.out.size))
        clear hb1
        go_wp2
        go_ret
        exact ⟨rfl, B1.out⟩
      · have F := Lib.hid (fun w' => few_yes s h w')
        have C1 := Lib.hid (fun w' => chain_any (chained p ss k) hxl s hs w')
        have C2 := Lib.hid (fun w' => rchain_any (chained p ss k) hxl s (by omega) w')
        rw [← E.out] at C1 C2
        have Q : Hid (chained p ss k < 18446744073709551616 ∧ (0 < k + 1 → chained p ss k = chained p ss (k + 1 - 1))) := Lib.hid ⟨hxl, fun _ => rfl⟩
        clear E hq
        obtain ⟨x, hx⟩ : ∃ x, chained p ss k = x := ⟨_, rfl⟩
        obtain ⟨y, hy⟩ : ∃ y, chained p ss (k + 1) = y := ⟨_, rfl⟩
        rw [hx] at C1 C2 hxl
        rw [hy] at C1 C2 hyl
        rw [hx]
        have HX := Lib.hid hx
        have HY := Lib.hid hy
        clear hx hy
        go_wp2_with fail
        refine (F.out _).mono ?_
        rintro e w' ⟨rfl, rfl⟩
        go_wp2_with fail
        refine (C1.out _).mono ?_
        rintro e w1 ⟨rfl, hb1⟩
        have B1 := Lib.hid (hb.out.trans (hb1.mono hb.out.size))
        clear hb1 hb
        go_wp2_with fail
        refine (C2.out _).mono ?_
        rintro e w2 ⟨rfl, hb2⟩
        have B2 := Lib.hid (B1.out.trans (hb2.mono B1.out.size))
        clear hb2 B1
        go_wp2
        go_roundw
        case rel => exact ⟨k + 1, x, by omega, by go_num, by rw [HY.out], by rw [HY.out], rfl, Lib.hid (by have := Q.out; rw [HX.out] at this; exact this), B2⟩
        case measure => simp [intOf]; omega
    · obtain rfl : k = n := by omega
      have hxl := CL.out k
      rcases Nat.eq_zero_or_pos k with h0 | h0
      · have z0 : ((k : Int) == 0) = true := beq_iff_eq.2 (by omega)
        generalize chained p ss k = x at *
        go_wp2_with fail
        refine (awake_any _ T.out).mono ?_
        rintro e w1 ⟨rfl, hb1⟩
        have B1 := Lib.hid (hb.out.trans (hb1.mono hb.out.size))
        clear hb1
        go_wp2
        go_ret
        exact ⟨rfl, B1.out⟩
      have z0 : ((k : Int) == 0) = false := beq_eq_false_iff_ne.2 (by omega)
      obtain ⟨ad, s, rfl, hcell, he, hs⟩ := S.out.at_ (k := k - 1) (by omega)
      have E : Hid (chained p ss k = chainOf q s.data.toList) := Lib.hid (by
        rw [hq.out.2 h0, ← he]
        obtain ⟨j, rfl⟩ : ∃ j, k = j + 1 := ⟨k - 1, by omega⟩
        rfl)
      have HQ := Lib.hid hq.out.1
      have i1 : ((k : Int) - 1).toNat = k - 1 := by omega
      clear he hq
      generalize chained p ss k = x at *
      by_cases h1 : at_ < 0
      · skip
        go_wp2_with fail
        refine (awake_any _ T.out).mono ?_
        rintro e w1 ⟨rfl, hb1⟩
        have B1 := Lib.hid (hb.out.trans (hb1.mono hb.out.size))
        clear hb1
        go_wp2
        go_ret
        exact ⟨rfl, B1.out⟩
      by_cases h2 : (s.size : Int) ≤ at_
      · skip
        go_wp2_with fail
        refine (awake_any _ T.out).mono ?_
        rintro e w1 ⟨rfl, hb1⟩
        have B1 := Lib.hid (hb.out.trans (hb1.mono hb.out.size))
        clear hb1
        go_wp2
        go_ret
        exact ⟨rfl, B1.out⟩
      by_cases h3 : m = 0
      · subst h3
        go_wp2_with fail
        refine (awake_any _ T.out).mono ?_
        rintro e w1 ⟨rfl, hb1⟩
        have B1 := Lib.hid (hb.out.trans (hb1.mono hb.out.size))
        clear hb1
        go_wp2
        go_ret
        exact ⟨rfl, B1.out⟩
      obtain ⟨i, rfl⟩ := Int.eq_ofNat_of_zero_le (show 0 ≤ at_ by omega)
      obtain ⟨b, rfl⟩ : ∃ b : UInt8, m = (b.toNat : Int) := ⟨UInt8.ofNat m.toNat, by rw [UInt8.toNat_ofNat']; omega⟩
      obtain ⟨cap, w2, conv, hb1, hD⟩ := to_bytes wr s s.size rfl
      have B2 := Lib.hid (hb.out.trans (hb1.mono hb.out.size))
      obtain ⟨g, hg⟩ : ∃ g, wr.heap.size = g := ⟨_, rfl⟩
      rw [hg] at conv hD
      have HGE : Hid (w.heap.size ≤ g) := Lib.hid (by have := hb.out.size; omega)
      have HL := Lib.hid (size_list s)
      have hi : i < s.data.toList.length := by have := HL.out; omega
      have hb0 : b.toNat ≠ 0 := by omega
      have hil : (i : Int) < (s.size : Int) := by omega
      have hc2 := (hD i hi).1
      have hfz := (hD i hi).2
      have hx := mask_int s.data.toList[i] b
      have hb3 : s.data.toList[i].toNat < 256 := s.data.toList[i].toNat_lt
      have hb2 : b.toNat < 256 := b.toNat_lt
      have conv3 := (hD.set hi (s.data.toList[i] ^^^ b) rfl).text (n := s.size) (by rw [List.length_set]; exact HL.out) cap
      have C3 := Lib.hid (fun w' => chain_any q HQ.out (str (s.data.toList.set i (s.data.toList[i] ^^^ b))) (by rw [str_size, List.length_set, HL.out]; exact hs) w')
      rw [str_data] at C3
      have zb : ((b.toNat : Int) == 0) = false := beq_eq_false_iff_ne.2 (by omega)
      have zr : ((chainOf q (s.data.toList.set i (s.data.toList[i] ^^^ b)) : Int) != (x : Int)) = true := bne_iff_ne.2 (fun e => by
        have e' : chainOf q (s.data.toList.set i (s.data.toList[i] ^^^ b)) = x := by omega
        rw [E.out] at e'
        exact mask_ne _ b hb0 (chainOf_set q hi _ e'))
      have BS := Lib.hid (B2.out.setCell (p := ⟨g, i, none⟩) HGE.out (.int .u8 ((s.data.toList[i] ^^^ b).toNat : Int)))
      have TS := Lib.hid (HT.out.keep BS.out (Nat.le_refl _))
      clear hb0 hb hb1 hD h1 h2 h3 hg E T S B2
      generalize str (s.data.toList.set i (s.data.toList[i] ^^^ b)) = t3 at *
      generalize chainOf q (s.data.toList.set i (s.data.toList[i] ^^^ b)) = r at *
      generalize ((s.data.toList[i] ^^^ b).toNat : Int) = v at *
      generalize s.data.toList[i].toNat = u at *
      clear hi
      have hql := HQ.out
      go_wp2_with fail
      refine (C3.out _).mono ?_
      rintro e w8 ⟨rfl, hb⟩
      have T8 := Lib.hid (TS.out.keep hb (Nat.le_refl _))
      have B8 := Lib.hid (BS.out.trans (hb.mono BS.out.size))
      clear hb
      go_wp2_with fail
      refine (awake_any _ T8.out).mono ?_
      rintro e w9 ⟨rfl, hb⟩
      have B9 := Lib.hid (B8.out.trans (hb.mono B8.out.size))
      clear hb
      go_wp2
      go_ret
      exact ⟨rfl, B9.out⟩
end Go.Proofs.YtohamhejmmangaaDoor
