/- Join, of the package and of the reference: no claim of its own. -/
import Derived.Test.YtdgflkkdcejadaaLBuild
import Derived.Test.YtdgflkkdcejadaaLEq
namespace Go.Proofs.Ytdgflkkdcejadaa
open Go.RowKit
def kindAt (ts : List Tk) (k : Nat) : Int := (ts.getD k .zero).kind
def textAt (ts : List Tk) (k : Nat) : List UInt8 := (ts.getD k .zero).text
def sepB (ts : List Tk) (k : Nat) : Bool := decide (0 < k) && (decide (kindAt ts (k - 1) ≠ 3) && decide (kindAt ts k ≠ 3))
/-- The text of the first k tokens. -/
def joinP (ts : List Tk) : Nat → List UInt8
  | 0 => []
  | k + 1 => (if sepB ts k = true then joinP ts k ++ [32] else joinP ts k) ++ textAt ts k
theorem joinP_yes {ts : List Tk} {k : Nat} (h : sepB ts k = true) : joinP ts (k + 1) = (joinP ts k ++ [32]) ++ textAt ts k := by rw [joinP, if_pos h]
theorem joinP_no {ts : List Tk} {k : Nat} (h : sepB ts k = false) : joinP ts (k + 1) = joinP ts k ++ textAt ts k := by rw [joinP, if_neg (by rw [h]; decide)]
theorem joinP_le (ts : List Tk) (k j : Nat) (h : k ≤ j) : (joinP ts k).length ≤ (joinP ts j).length := by
  induction j with
  | zero => have : k = 0 := by omega
            subst this; exact Nat.le_refl _
  | succ j ih =>
    rcases Nat.lt_or_ge j k with g | g
    · have : k = j + 1 := by omega
      subst this; exact Nat.le_refl _
    · refine Nat.le_trans (ih g) ?_
      cases e : sepB ts j with
      | true => rw [joinP_yes e]; simp
      | false => rw [joinP_no e]; simp
theorem at_eq {ts : List Tk} {k : Nat} {t : Tk} (h : ts[k]? = some t) : kindAt ts k = t.kind ∧ textAt ts k = t.text := by
  unfold kindAt textAt
  rw [List.getD_eq_getElem?_getD, h]
  exact ⟨rfl, rfl⟩
theorem Tks.kind_at {w : World} {A : Option Addr} {n c : Nat} {ts : List Tk} (h : Tks w A n c ts) {k : Nat} (hk : k < n) {ad : Addr} (ha : A = some ad) : w.cell? (ad.add (k * 4)) = some (.int .i64 (kindAt ts k)) := by
  obtain ⟨ad', t, e, e1, _, x0, _⟩ := h.at_ hk
  rw [ha] at e
  injection e with e
  subst e
  rw [x0, (at_eq e1).1]
theorem TB.others {w w' : World} {g b : Nat} {T : TypeId} {a c d e : Value} (h : TB w g T a c d e) (hO : Only b w w') (hne : g ≠ b) (ht : T ≠ 5) : TB w' g T a c d e :=
  hO.others g _ h (by intro x; injection x with x; exact hne x) (fun c fz x => by injection x with _ x; exact ht x)
set_option maxRecDepth 100000 in
set_option maxHeartbeats 4000000 in
theorem join_any (A : Option Addr) (n c : Nat) (ts : List Tk) (w : World) (h : Tks w A n c ts) (hl : (joinP ts n).length ≤ 10000000) :
    Calls Try.prog 14 #[.slice A n c] w (Gives (.string (str (joinP ts n))) w) := by
  have hn := h.few
  have hc := h.cap
  have H := Lib.hid h
  have HL := Lib.hid hl
  have D0 := Lib.hid (Bld.new w)
  have B0 := Lib.hid (below_new w (.cells #[.pointer none, .slice none 0 0] 65))
  clear h hl
  go_enter Try.func14, Try.ntmps14
  go_wp2
  go_loopw [8] (fun i wr => ∃ k : Nat, k ≤ n ∧ i = .int .i64 k ∧ Hid (Bld w.heap.size (joinP ts k) wr) ∧ Hid (Below w.heap.size w wr)) (fun i _ => n - (intOf i).toNat)
  case atStart => exact ⟨0, by omega, rfl, D0, B0⟩
  case round =>
    rename_i _ wr
    obtain ⟨k, hk, rfl, BD, HB⟩ := hrel
    clear D0 B0
    have hB := HB.out.size
    by_cases hlt : k < n
    · have LE := Lib.hid (Nat.le_trans (joinP_le ts (k + 1) n (by omega)) HL.out)
      obtain ⟨ad, t, hA, e1, hb, x0, x1, x2, x3⟩ := (H.out.keep HB.out).at_ hlt
      have KP : 0 < k → wr.cell? (ad.add ((k - 1) * 4)) = some (.int .i64 (kindAt ts (k - 1))) := fun h0 => (H.out.keep HB.out).kind_at (by omega) hA
      obtain ⟨ek, et⟩ := at_eq e1
      subst hA
      obtain ⟨kd, tx, vv, a⟩ := t
      simp only at x0 x1 x2 x3 ek et
      clear e1
      by_cases h0 : 0 < k
      · have p0 := KP h0
        clear KP
        obtain ⟨kp, hkp⟩ : ∃ kp, kindAt ts (k - 1) = kp := ⟨_, rfl⟩
        rw [hkp] at p0
        by_cases hp : kp = 3
        · have J : Hid (joinP ts (k + 1) = joinP ts k ++ tx) := Lib.hid (by rw [joinP_no (by unfold sepB; rw [hkp, hp]; simp), et])
          have q1 : ((kp : Int) != 3) = false := bne_eq_false_iff_eq.2 hp
          clear hkp hp ek et
          have p1 := (World.cell?_alloc_lt wr (.cells #[.int .i64 kd, .string (str tx), .int .i64 vv, .int .i64 a] 33) (ad.add ((k - 1) * 4)) (by rw [block_of_add]; exact hb)).trans p0
          have HT0 := TB.new wr 33 (.int .i64 kd) (.string (str tx)) (.int .i64 vv) (.int .i64 a)
          have HT := Lib.hid HT0
          have BD1 := Lib.hid (BD.out.keep (below_new wr (.cells #[.int .i64 kd, .string (str tx), .int .i64 vv, .int .i64 a] 33)))
          have HB1 := Lib.hid (HB.out.trans ((below_new wr (.cells #[.int .i64 kd, .string (str tx), .int .i64 vv, .int .i64 a] 33)).mono HB.out.size))
          have hszr : w.heap.size < wr.heap.size := BD.out.lt
          clear HT0 HB BD
          go_wp2_with fail
          refine (writeString_any w.heap.size (joinP ts k) (str tx) _ BD1.out (by have := LE.out; rw [J.out] at this; rw [str_size]; simp only [List.length_append] at this ⊢; omega) HB1.out.size).mono ?_
          rintro e w3 ⟨rfl, hd, ho⟩
          rw [str_data, ← J.out] at hd
          have BD3 := Lib.hid hd
          have HB3 := Lib.hid (HB1.out.trans ho.below)
          clear hd ho HT BD1 HB1
          go_wp2
          go_roundw
          case rel => exact ⟨k + 1, by omega, by go_num, BD3, HB3⟩
          case measure => simp [intOf]; omega
        · have q1 : ((kp : Int) != 3) = true := bne_iff_ne.2 hp
          by_cases hk3 : kd = 3
          · have J : Hid (joinP ts (k + 1) = joinP ts k ++ tx) := Lib.hid (by rw [joinP_no (by unfold sepB; rw [ek, hk3]; simp), et])
            have q2 : ((kd : Int) != 3) = false := bne_eq_false_iff_eq.2 hk3
            clear hkp hp ek et hk3
            have p1 := (World.cell?_alloc_lt wr (.cells #[.int .i64 kd, .string (str tx), .int .i64 vv, .int .i64 a] 33) (ad.add ((k - 1) * 4)) (by rw [block_of_add]; exact hb)).trans p0
            have HT0 := TB.new wr 33 (.int .i64 kd) (.string (str tx)) (.int .i64 vv) (.int .i64 a)
            have HT := Lib.hid HT0
            have BD1 := Lib.hid (BD.out.keep (below_new wr (.cells #[.int .i64 kd, .string (str tx), .int .i64 vv, .int .i64 a] 33)))
            have HB1 := Lib.hid (HB.out.trans ((below_new wr (.cells #[.int .i64 kd, .string (str tx), .int .i64 vv, .int .i64 a] 33)).mono HB.out.size))
            have hszr : w.heap.size < wr.heap.size := BD.out.lt
            clear HT0 HB BD
            go_wp2_with fail
            refine (writeString_any w.heap.size (joinP ts k) (str tx) _ BD1.out (by have := LE.out; rw [J.out] at this; rw [str_size]; simp only [List.length_append] at this ⊢; omega) HB1.out.size).mono ?_
            rintro e w3 ⟨rfl, hd, ho⟩
            rw [str_data, ← J.out] at hd
            have BD3 := Lib.hid hd
            have HB3 := Lib.hid (HB1.out.trans ho.below)
            clear hd ho HT BD1 HB1
            go_wp2
            go_roundw
            case rel => exact ⟨k + 1, by omega, by go_num, BD3, HB3⟩
            case measure => simp [intOf]; omega
          · have J : Hid (joinP ts (k + 1) = (joinP ts k ++ [32]) ++ tx) := Lib.hid (by rw [joinP_yes (by unfold sepB; rw [hkp, ek]; simp [h0, hp, hk3]), et])
            have q2 : ((kd : Int) != 3) = true := bne_iff_ne.2 hk3
            clear hkp hp ek et hk3
            have p1 := (World.cell?_alloc_lt wr (.cells #[.int .i64 kd, .string (str tx), .int .i64 vv, .int .i64 a] 33) (ad.add ((k - 1) * 4)) (by rw [block_of_add]; exact hb)).trans p0
            have HT0 := TB.new wr 33 (.int .i64 kd) (.string (str tx)) (.int .i64 vv) (.int .i64 a)
            have HT := Lib.hid HT0
            have BD1 := Lib.hid (BD.out.keep (below_new wr (.cells #[.int .i64 kd, .string (str tx), .int .i64 vv, .int .i64 a] 33)))
            have HB1 := Lib.hid (HB.out.trans ((below_new wr (.cells #[.int .i64 kd, .string (str tx), .int .i64 vv, .int .i64 a] 33)).mono HB.out.size))
            have hszr : w.heap.size < wr.heap.size := BD.out.lt
            clear HT0 HB BD
            go_wp2_with fail
            refine (writeSpace w.heap.size (joinP ts k) _ BD1.out (by have := LE.out; rw [J.out] at this; simp only [List.length_append, List.length_singleton] at this; omega)).mono ?_
            rintro e w2 ⟨rfl, hd, ho⟩
            have HT2 := Lib.hid (HT.out.others ho (by omega) (by decide))
            have BD2 := Lib.hid hd
            have HB2 := Lib.hid (HB1.out.trans ho.below)
            clear hd ho HT BD1 HB1
            obtain ⟨c0, c1, c2, c3⟩ := HT2.out.cells
            go_wp2_with fail
            refine (writeString_any w.heap.size (joinP ts k ++ [32]) (str tx) _ BD2.out (by have := LE.out; rw [J.out] at this; rw [str_size]; simp only [List.length_append] at this ⊢; omega) HB2.out.size).mono ?_
            rintro e w3 ⟨rfl, hd, ho⟩
            rw [str_data, ← J.out] at hd
            have BD3 := Lib.hid hd
            have HB3 := Lib.hid (HB2.out.trans ho.below)
            clear hd ho HT2 BD2 HB2 c0 c1 c2 c3
            go_wp2
            go_roundw
            case rel => exact ⟨k + 1, by omega, by go_num, BD3, HB3⟩
            case measure => simp [intOf]; omega
      · have J : Hid (joinP ts (k + 1) = joinP ts k ++ tx) := Lib.hid (by rw [joinP_no (by unfold sepB; simp [h0]), et])
        have hk0 : ¬ (0 : Int) < (k : Int) := by omega
        clear KP ek et
        
        have HT0 := TB.new wr 33 (.int .i64 kd) (.string (str tx)) (.int .i64 vv) (.int .i64 a)
        have HT := Lib.hid HT0
        have BD1 := Lib.hid (BD.out.keep (below_new wr (.cells #[.int .i64 kd, .string (str tx), .int .i64 vv, .int .i64 a] 33)))
        have HB1 := Lib.hid (HB.out.trans ((below_new wr (.cells #[.int .i64 kd, .string (str tx), .int .i64 vv, .int .i64 a] 33)).mono HB.out.size))
        have hszr : w.heap.size < wr.heap.size := BD.out.lt
        clear HT0 HB BD
        go_wp2_with fail
        refine (writeString_any w.heap.size (joinP ts k) (str tx) _ BD1.out (by have := LE.out; rw [J.out] at this; rw [str_size]; simp only [List.length_append] at this ⊢; omega) HB1.out.size).mono ?_
        rintro e w3 ⟨rfl, hd, ho⟩
        rw [str_data, ← J.out] at hd
        have BD3 := Lib.hid hd
        have HB3 := Lib.hid (HB1.out.trans ho.below)
        clear hd ho HT BD1 HB1
        go_wp2
        go_roundw
        case rel => exact ⟨k + 1, by omega, by go_num, BD3, HB3⟩
        case measure => simp [intOf]; omega
    · obtain rfl : k = n := by omega
      clear H HL
      go_wp2_with fail
      refine (string_any w.heap.size _ _ BD.out hB).mono ?_
      rintro e w3 ⟨rfl, _, ho⟩
      have B3 := Lib.hid (HB.out.trans ho.below)
      clear ho
      go_wp2
      go_ret
      exact ⟨rfl, B3.out⟩
end Go.Proofs.Ytdgflkkdcejadaa
