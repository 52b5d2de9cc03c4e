/- The contract of natural.Parse: no claim of its own. -/
import Derived.Test.YtbjkkiehpfnogaaDoorTimes
import Derived.Test.YtbjkkiehpfnogaaDoorCheck
namespace Go.Proofs.YtbjkkiehpfnogaaDoor
open Go.RowKit
/-- What Parse hands back: the number, or zero and the error. -/
def GivesParse (a k : Nat) (w : World) (e : Ending) (w' : World) : Prop :=
  ∃ A n c xs, e = .returned (.tuple #[.slice A n c, .int .i64 k]) ∧ Num w' A n c xs a ∧ Below w.heap.size w w'
def ParseInv (B : Nat) (l : List UInt8) (k : Nat) (w : World) (v : Value) (wr : World) : Prop :=
  ∃ ys, Own wr B v ys ∧ ys.length ≤ k ∧ Tight ys ∧ dval ys = decVal (l.take k) ∧ Below B w wr
set_option maxHeartbeats 1000000 in
theorem parse_any (s : ByteArray) (w : World) (hs : s.size ≤ 140737488351232) :
    Calls Tryd.prog 31 #[.string s] w (GivesParse (if parseErr s.data.toList = 0 then decVal s.data.toList else 0) (parseErr s.data.toList) w) := by
  have C := Lib.hid (fun w' => checkDecimal_any s w' hs)
  by_cases hp : parseErr s.data.toList = 0
  · have hok := parseErr_zero _ hp
    have hz : s.size ≤ 600 := by have := hok.2.1; rw [size_list] at this; exact this
    have HK := Lib.hid hok
    have HP := Lib.hid hp
    have hp2 : Hid ((if parseErr s.data.toList = 0 then decVal s.data.toList else 0) = decVal s.data.toList) := Lib.hid (if_pos hp)
    have I0 : Hid (ParseInv w.heap.size s.data.toList 0 w (.slice none 0 0) w) := Lib.hid ⟨[], Own.nil _ _, by simp, .inl rfl, rfl, Below.refl _ _⟩
    clear hok hp
    go_enter Tryd.func31, Tryd.ntmps31
    go_wp2_with fail
    refine (C.out _).mono ?_
    rintro e w' ⟨rfl, rfl⟩
    rw [HP.out]
    go_wp2
    go_loopw [5, 14] (fun v i wr => ∃ k : Nat, k ≤ s.size ∧ i = .int .i64 k ∧ Hid (ParseInv w.heap.size s.data.toList k w v wr)) (fun _ i _ => s.size - (intOf i).toNat)
    case atStart => exact ⟨0, by omega, rfl, I0⟩
    case round =>
      obtain ⟨k, hk, rfl, hi⟩ := hrel
      obtain ⟨ys, hO, hl, ht, hv, hb⟩ := hi.out
      by_cases hlt : k < s.size
      · have hdig := HK.out.2.2.2 _ (mem_index s k hlt)
        have b1 : (48 : Int) ≤ (s[k].toNat : Int) := by have := hdig.1; omega
        have b2 : (s[k].toNat : Int) ≤ 57 := by have := hdig.2; omega
        have e1 : ((s[k].toNat : Int) - 48) = ((s[k].toNat - 48 : Nat) : Int) := by omega
        have HE := Lib.hid e1
        have T := Lib.hid (fun v w' h hB => timesTen_any v ys ys.length (s[k].toNat - 48) w.heap.size w' h rfl (by omega) ht (by omega) hB)
        have hss := hb.size
        have N : Hid (∀ a, a = 10 * dval ys + (s[k].toNat - 48) → a = decVal (s.data.toList.take (k + 1))) := Lib.hid fun a ha => by
          rw [ha, hv, take_snoc' s k hlt, decVal_snoc]
        have HO := Lib.hid hO
        have HB := Lib.hid hb
        clear hdig e1 hO ht hv hb hi I0
        go_wp2_with fail
        rw [HE.out]
        refine (T.out _ _ HO.out hss).mono ?_
        rintro e w1 ⟨v', zs, rfl, hO1, hl1, ht1, hv1, hb1⟩
        have R : Hid (ParseInv w.heap.size s.data.toList (k + 1) w v' w1) := Lib.hid ⟨zs, hO1, by omega, ht1, N.out _ hv1, HB.out.trans hb1⟩
        clear hO1 hl1 ht1 hv1 hb1 T N
        go_wp2
        go_roundw
        case rel => exact ⟨k + 1, by omega, by go_num, R⟩
        case measure => simp [intOf]; omega
      · obtain rfl : k = s.size := by omega
        obtain ⟨A', c', rfl, L⟩ := hO.lst (by omega)
        have F : Hid (GivesParse (decVal s.data.toList) 0 w (.returned (.tuple #[.slice A' ys.length c', .int .i64 0])) wr) := Lib.hid (by
          exact ⟨A', ys.length, c', ys, rfl, ⟨L, ht, by rw [hv, List.take_of_length_le (by rw [size_list]; omega)]⟩, hb⟩)
        clear hO hl ht hv hb hi I0 L
        go_wp2
        go_ret2
        exact F.out
  · rw [if_neg hp]
    obtain ⟨q, hq⟩ : ∃ q, parseErr s.data.toList = q := ⟨_, rfl⟩
    have C1 := Lib.hid (fun w' => checkDecimal_any s w' hs)
    rw [hq] at C1 hp
    rw [hq]
    have hb2 : (((q : Nat) : Int) != 0) = true := bne_iff_ne.2 (by omega)
    clear C hp hq
    go_enter Tryd.func31, Tryd.ntmps31
    go_wp2_with fail
    refine (C1.out _).mono ?_
    rintro e w' ⟨rfl, rfl⟩
    go_wp2
    go_ret2
    exact ⟨none, 0, 0, [], rfl, Num.zero _, Below.refl _ _⟩
end Go.Proofs.YtbjkkiehpfnogaaDoor
