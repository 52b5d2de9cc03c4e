/- The walk of WireReads: no claim of its own. -/
import Derived.Test.YtebfnbnaheolgaaWPlay
namespace Go.Proofs.Ytebfnbnaheolgaa
open Go.RowKit
/-- The steps, as they came in. -/
structure Steps (w : World) (A : Option Addr) (len cap : Nat) : Prop where
  cap_ : len ≤ cap ∧ cap ≤ maxLen
  el : ∀ k, k < len → ∃ (ad : Addr) (kd : Nat) (n ee : Int), A = some ad ∧ w.cell? (ad.add (k * 3)) = some (.int .u8 (kd : Int)) ∧ w.cell? (ad.add (k * 3 + 1)) = some (.int .i64 n) ∧ w.cell? (ad.add (k * 3 + 2)) = some (.int .i64 ee) ∧ kd < 256 ∧ -9223372036854775808 ≤ n ∧ n ≤ 9223372036854775807
theorem Steps.upto {w : World} {A : Option Addr} {len cap k : Nat} (h : Steps w A len cap) (hk : k ≤ len) : Steps w A k cap := ⟨⟨Nat.le_trans hk h.cap_.1, h.cap_.2⟩, fun j hj => h.el j (by omega)⟩
set_option maxRecDepth 100000 in
set_option maxHeartbeats 8000000 in
theorem reads_walk (s : ByteArray) (A : Option Addr) (len cap : Nat) (w : World) (hs : s.size ≤ maxLen) (hk : Steps w A len cap) :
    Calls Try.prog 6 #[.string s, .slice A len cap] w (Gives (.bool true) w) := by
  unfold maxLen at hs
  have hm := hk.cap_
  unfold maxLen at hm
  have LL := Lib.hid lives_wire
  obtain ⟨t, ht, hts, hcut⟩ : ∃ t : ByteArray, t.size ≤ 60 ∧ (¬ 60 < s.size → t = s) ∧ (60 < s.size → s.extract 0 60 = t) := by
    by_cases h : 60 < s.size
    · exact ⟨s.extract 0 60, by rw [ByteArray.size_extract]; omega, fun h' => absurd h h', fun _ => rfl⟩
    · exact ⟨s, by omega, fun _ => rfl, fun h' => absurd h' h⟩
  obtain ⟨m, hml, hms, hmc⟩ : ∃ m, m ≤ len ∧ (¬ 40 < len → m = len) ∧ (40 < len → m = 40) := by
    by_cases h : 40 < len
    · exact ⟨40, by omega, fun h' => absurd h h', fun _ => rfl⟩
    · exact ⟨len, by omega, fun _ => rfl, fun h' => absurd h' h⟩
  have HK := Lib.hid (hk.upto hml)
  clear hk
  have h40c : 40 < len → (40 : Int) ≤ (cap : Int) := fun h => by omega
  by_cases h60 : 60 < s.size
  all_goals
    first
      | (have hc := hcut h60; clear hts hcut)
      | (obtain rfl := hts h60; clear hts hcut)
    by_cases h40 : 40 < len
    · obtain rfl := hmc h40
      clear hms hmc
      have hcc := h40c h40
      clear h40c
      go_enter Try.func6, Try.ntmps6
      go_wp2_with fail
      refine (newReader_any _ _).mono ?_
      rintro e w1 ⟨rfl, rfl⟩
      go_wp2_with fail
      refine (rnewReader_any _ _).mono ?_
      rintro e w2 ⟨rfl, rfl⟩
      have hb1 := below_new w (.cells #[.string t, .int .i64 0] 59)
      have hb2 := below_new (w.alloc (.cells #[.string t, .int .i64 0] 59)) (.cells #[.string t, .int .i64 0] 81)
      have T0 : Two w.heap.size (w.alloc (.cells #[.string t, .int .i64 0] 59)).heap.size t.data.toList 0 ((w.alloc (.cells #[.string t, .int .i64 0] 59)).alloc (.cells #[.string t, .int .i64 0] 81)) :=
        ⟨(RP.new w t).keep hb2, RR.new _ t (by omega), fun h => absurd rfl h, by rw [show t.data.toList.length = t.size by simp]; omega, by simp⟩
      rw [show (w.alloc (.cells #[.string t, .int .i64 0] 59)).heap.size = w.heap.size + 1 by simp] at T0
      have BB := Lib.hid (hb1.trans (hb2.mono hb1.size))
      have TT := Lib.hid T0
      clear hb1 hb2 T0
      go_wp2_with fail
      generalize (w.alloc (.cells #[.string t, .int .i64 0] 59)).alloc (.cells #[.string t, .int .i64 0] 81) = w2 at *
      go_loopw [7] (fun i wr => ∃ (k : Nat) (l : List UInt8) (e : Int), k ≤ 40 ∧ i = .int .i64 k ∧ Hid (Two w.heap.size (w.heap.size + 1) l e wr) ∧ Hid (Below w.heap.size w wr)) (fun i _ => 40 - (intOf i).toNat)
      case atStart => exact ⟨0, _, _, by omega, rfl, TT, BB⟩
      case round =>
        clear TT BB
        obtain ⟨k, l, e, hk, rfl, T, HB⟩ := hrel
        by_cases hlt : k < 40
        · obtain ⟨ad, kd, n, ee, rfl, q0, q1, q2, hkd, hn0, hn1⟩ := HK.out.el k hlt
          have Ea := (HB.out.cell (World.block_lt_of_cell? w _ q0)).trans q0
          have Eb := (HB.out.cell (World.block_lt_of_cell? w _ q1)).trans q1
          have Ec := (HB.out.cell (World.block_lt_of_cell? w _ q2)).trans q2
          rw [show ad.add (k * 3 + 1) = ⟨(ad.add (k * 3)).block, (ad.add (k * 3)).off + 1, none⟩ by rw [← Addr.add_add]; rfl] at Eb
          rw [show ad.add (k * 3 + 2) = ⟨(ad.add (k * 3)).block, (ad.add (k * 3)).off + 2, none⟩ by rw [← Addr.add_add]; rfl] at Ec
          have PL := Lib.hid (play_any w.heap.size (w.heap.size + 1) w.heap.size l e kd n ee wr T.out (Nat.le_refl _) (by omega) HB.out.size hkd hn0 hn1)
          clear q0 q1 q2 T
          go_wp2_with fail
          refine PL.out.mono ?_
          rintro en w3 ⟨rfl, l', e', hT, hb⟩
          have E1 := Lib.hid (err_pair hT).1
          have E2 := Lib.hid (err_pair hT).2
          have L1 := Lib.hid (left_pair hT).1
          have L2 := Lib.hid (left_pair hT).2
          have T2 := Lib.hid hT
          have HB2 := Lib.hid (HB.out.trans hb)
          clear hT hb HB Ea Eb Ec PL
          generalize hnl : l'.length = nl at *
          clear hnl
          go_wp2_with fail
          refine E1.out.mono ?_
          rintro en w' ⟨rfl, rfl⟩
          go_wp2_with fail
          refine E2.out.mono ?_
          rintro en w' ⟨rfl, rfl⟩
          go_wp2_with fail
          refine L1.out.mono ?_
          rintro en w' ⟨rfl, rfl⟩
          go_wp2_with fail
          refine L2.out.mono ?_
          rintro en w' ⟨rfl, rfl⟩
          go_wp2
          go_roundw
          case rel => exact ⟨k + 1, l', e', by omega, by go_num, T2, HB2⟩
          case measure => simp [intOf]; omega
        · go_wp2_with fail
          refine (LL.out _).mono ?_
          rintro en w9 ⟨rfl, hb⟩
          have B9 := Lib.hid (HB.out.trans (hb.mono HB.out.size))
          clear hb
          go_wp2
          go_ret
          exact ⟨rfl, B9.out⟩
    · obtain rfl := hms h40
      clear hms hmc h40c
      go_enter Try.func6, Try.ntmps6
      go_wp2_with fail
      refine (newReader_any _ _).mono ?_
      rintro e w1 ⟨rfl, rfl⟩
      go_wp2_with fail
      refine (rnewReader_any _ _).mono ?_
      rintro e w2 ⟨rfl, rfl⟩
      have hb1 := below_new w (.cells #[.string t, .int .i64 0] 59)
      have hb2 := below_new (w.alloc (.cells #[.string t, .int .i64 0] 59)) (.cells #[.string t, .int .i64 0] 81)
      have T0 : Two w.heap.size (w.alloc (.cells #[.string t, .int .i64 0] 59)).heap.size t.data.toList 0 ((w.alloc (.cells #[.string t, .int .i64 0] 59)).alloc (.cells #[.string t, .int .i64 0] 81)) :=
        ⟨(RP.new w t).keep hb2, RR.new _ t (by omega), fun h => absurd rfl h, by rw [show t.data.toList.length = t.size by simp]; omega, by simp⟩
      rw [show (w.alloc (.cells #[.string t, .int .i64 0] 59)).heap.size = w.heap.size + 1 by simp] at T0
      have BB := Lib.hid (hb1.trans (hb2.mono hb1.size))
      have TT := Lib.hid T0
      clear hb1 hb2 T0
      go_wp2_with fail
      generalize (w.alloc (.cells #[.string t, .int .i64 0] 59)).alloc (.cells #[.string t, .int .i64 0] 81) = w2 at *
      go_loopw [7] (fun i wr => ∃ (k : Nat) (l : List UInt8) (e : Int), k ≤ m ∧ i = .int .i64 k ∧ Hid (Two w.heap.size (w.heap.size + 1) l e wr) ∧ Hid (Below w.heap.size w wr)) (fun i _ => m - (intOf i).toNat)
      case atStart => exact ⟨0, _, _, by omega, rfl, TT, BB⟩
      case round =>
        clear TT BB
        obtain ⟨k, l, e, hk, rfl, T, HB⟩ := hrel
        by_cases hlt : k < m
        · obtain ⟨ad, kd, n, ee, rfl, q0, q1, q2, hkd, hn0, hn1⟩ := HK.out.el k hlt
          have Ea := (HB.out.cell (World.block_lt_of_cell? w _ q0)).trans q0
          have Eb := (HB.out.cell (World.block_lt_of_cell? w _ q1)).trans q1
          have Ec := (HB.out.cell (World.block_lt_of_cell? w _ q2)).trans q2
          rw [show ad.add (k * 3 + 1) = ⟨(ad.add (k * 3)).block, (ad.add (k * 3)).off + 1, none⟩ by rw [← Addr.add_add]; rfl] at Eb
          rw [show ad.add (k * 3 + 2) = ⟨(ad.add (k * 3)).block, (ad.add (k * 3)).off + 2, none⟩ by rw [← Addr.add_add]; rfl] at Ec
          have PL := Lib.hid (play_any w.heap.size (w.heap.size + 1) w.heap.size l e kd n ee wr T.out (Nat.le_refl _) (by omega) HB.out.size hkd hn0 hn1)
          clear q0 q1 q2 T
          go_wp2_with fail
          refine PL.out.mono ?_
          rintro en w3 ⟨rfl, l', e', hT, hb⟩
          have E1 := Lib.hid (err_pair hT).1
          have E2 := Lib.hid (err_pair hT).2
          have L1 := Lib.hid (left_pair hT).1
          have L2 := Lib.hid (left_pair hT).2
          have T2 := Lib.hid hT
          have HB2 := Lib.hid (HB.out.trans hb)
          clear hT hb HB Ea Eb Ec PL
          generalize hnl : l'.length = nl at *
          clear hnl
          go_wp2_with fail
          refine E1.out.mono ?_
          rintro en w' ⟨rfl, rfl⟩
          go_wp2_with fail
          refine E2.out.mono ?_
          rintro en w' ⟨rfl, rfl⟩
          go_wp2_with fail
          refine L1.out.mono ?_
          rintro en w' ⟨rfl, rfl⟩
          go_wp2_with fail
          refine L2.out.mono ?_
          rintro en w' ⟨rfl, rfl⟩
          go_wp2
          go_roundw
          case rel => exact ⟨k + 1, l', e', by omega, by go_num, T2, HB2⟩
          case measure => simp [intOf]; omega
        · go_wp2_with fail
          refine (LL.out _).mono ?_
          rintro en w9 ⟨rfl, hb⟩
          have B9 := Lib.hid (HB.out.trans (hb.mono HB.out.size))
          clear hb
          go_wp2
          go_ret
          exact ⟨rfl, B9.out⟩
end Go.Proofs.Ytebfnbnaheolgaa
