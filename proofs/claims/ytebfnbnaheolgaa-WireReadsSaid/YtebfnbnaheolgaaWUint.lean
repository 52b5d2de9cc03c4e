/- The contracts of Uint, of the package and of the reference: no claim of its own. -/
import Derived.Test.YtebfnbnaheolgaaWBase
import Derived.IntWalk
namespace Go.Proofs.Ytebfnbnaheolgaa
open Go.RowKit
theorem ret_i {k : IntKind} {a b : Int} (h : a = b) : Ending.returned (.int k a) = .returned (.int k b) := by rw [h]
theorem ret_s {a b : ByteArray} (h : a = b) : Ending.returned (.string a) = .returned (.string b) := by rw [h]
theorem or_128 (y : Nat) : ((y % 256 : Nat) ||| 128) = y % 128 + 128 := by
  have h : ∀ z : Nat, z < 256 → z ||| 128 = z % 128 + 128 := by decide +kernel
  rw [h _ (Nat.mod_lt _ (by decide))]
  omega
theorem or_byte (y : Nat) : bits .or .u8 ((y : Int) % 256) 128 = ((UInt8.ofNat (y % 128 + 128)).toNat : Int) := by
  have e : ((y : Int) % 256) = ((y % 256 : Nat) : Int) := by omega
  rw [e]
  have h : ∀ z : Nat, z < 256 → bits .or .u8 (z : Int) 128 = ((UInt8.ofNat (z % 128 + 128)).toNat : Int) := by decide +kernel
  rw [h _ (Nat.mod_lt _ (by decide)), show y % 256 % 128 = y % 128 by omega]
/-- What holds in a round of Uint. -/
def UInv (w : World) (x y : Nat) (v : Value) (wr : World) : Prop := ∃ out, OwnC wr w.heap.size v out ∧ out ++ leb y = leb x ∧ Below w.heap.size w wr
set_option maxRecDepth 100000 in
set_option maxHeartbeats 1000000 in
theorem putUint_any (x : Nat) (hx : x < 18446744073709551616) (w : World) :
    Calls Try.prog 9 #[.int .u64 x] w (Gives (.string (str (leb x))) w) := by
  obtain ⟨i0, hi0, hz0, hz1, hz2⟩ := info_parts infoByte
  have LX := leb_len 10 x (by omega) (by decide)
  have I0 : Hid (UInv w x x (.slice none 0 0) w) := Lib.hid ⟨[], OwnC.nil _ _, rfl, Below.refl _ _⟩
  go_enter Try.func9, Try.ntmps9
  go_wp2
  go_loopw [0, 3] (fun a v wr => ∃ y : Nat, y ≤ x ∧ a = .int .u64 y ∧ Hid (UInv w x y v wr)) (fun a _ _ => (intOf a).toNat)
  case atStart => exact ⟨x, Nat.le_refl _, rfl, I0⟩
  case round =>
    obtain ⟨y, hy, rfl, hi⟩ := hrel
    obtain ⟨out, hO, he, hb⟩ := hi.out
    have hl : out.length + (leb y).length = (leb x).length := by rw [← he, List.length_append]
    have hp := leb_pos y
    have HO := Lib.hid hO
    have HE := Lib.hid he
    have HB := Lib.hid hb
    have hs := hb.size
    clear hO he hb hi I0
    by_cases h1 : 128 ≤ y
    · have hor : Hid (bits .or .u8 ((y : Int) % 256) 128 = ((UInt8.ofNat (y % 128 + 128)).toNat : Int)) := Lib.hid (or_byte y)
      have hst : Hid (out ++ UInt8.ofNat (y % 128 + 128) :: leb (y / 128) = leb x) := Lib.hid (by rw [← leb_big h1]; exact HE.out)
      go_wp2_with (at_builtin; refine wpList_append_own _ rfl _ _ 52 rfl w.heap.size 5 i0 (.int .u8 0) 1 1 Try.underlying52 hi0 hz0 hz1 hz2 rfl (by decide) _ _ _ rfl (HO.out.alloc _) ⟨wr.heap.size, 0, none⟩ 1 1 [.int .u8 (bits .or .u8 ((y : Int) % 256) 128)] rfl rfl ?c1 ?c2 ?c3 ?c4 ?c5 ?_)
      case c1 =>
        intro j u hj
        match j, hj with
        | 0, hj => simp at hj; subst hj; simp [Addr.add]
      case c2 => intro u hu; simp at hu; subst hu; rfl
      case c3 => unfold maxLen; omega
      case c4 => omega
      case c5 => simp; omega
      intro v' w1 hown' hgrow _
      have R := HO.out.app HB.out hs hown' hor.out hgrow
      have RR : Hid (UInv w x (y / 128) v' w1) := Lib.hid ⟨_, R.1, by rw [List.append_assoc]; exact hst.out, R.2⟩
      clear hown' hgrow R hor
      go_wp2
      go_roundw
      case rel => exact ⟨y / 128, by omega, by go_num, RR⟩
      case measure => simp [intOf]; omega
    · have h2 : y < 128 := by omega
      have hst : Hid (out ++ [UInt8.ofNat y] = leb x) := Lib.hid (by rw [← leb_small h2]; exact HE.out)
      have hb : Hid ((y : Int) = ((UInt8.ofNat y).toNat : Int)) := Lib.hid (by simp; omega)
      go_wp2_with (at_builtin; refine wpList_append_own _ rfl _ _ 52 rfl w.heap.size 5 i0 (.int .u8 0) 1 1 Try.underlying52 hi0 hz0 hz1 hz2 rfl (by decide) _ _ _ rfl (HO.out.alloc _) ⟨wr.heap.size, 0, none⟩ 1 1 [.int .u8 (y : Int)] rfl rfl ?c1 ?c2 ?c3 ?c4 ?c5 ?_)
      case c1 =>
        intro j u hj
        match j, hj with
        | 0, hj => simp at hj; subst hj; simp [Addr.add]
      case c2 => intro u hu; simp at hu; subst hu; rfl
      case c3 => unfold maxLen; omega
      case c4 => omega
      case c5 => simp; omega
      intro v' w1 hown' hgrow _
      have R := HO.out.app HB.out hs hown' hb.out hgrow
      have T := R.1.text (by simp)
      have F : Hid (Gives (.string (str (leb x))) w (.returned (.string (str (out ++ [UInt8.ofNat y])))) w1) := Lib.hid ⟨by rw [hst.out], R.2⟩
      clear hown' hgrow R hst hb
      generalize str (out ++ [UInt8.ofNat y]) = t at *
      go_wp2
      go_ret
      exact F.out
/-- The text of one byte in a row of its own. -/
theorem byte_at {W : World} {g : Nat} {y : Int} {b : UInt8} (h : W.heap[g]? = some (.cells #[.int .u8 y] 5 (0, 0))) (hb : y = (b.toNat : Int)) : (convert 52 9 (.slice (some ⟨g, 0, none⟩) 1 1)).run Try.prog W = .ok (.string (str [b])) W := by
  subst hb
  have h : OwnC W 0 (.slice (some ⟨g, 0, none⟩) 1 1) [b] :=
    ⟨rfl, .inr ⟨g, 1, #[.int .u8 (b.toNat : Int)], rfl, Nat.zero_le _, h, by simp, by simp [maxLen], by simp, by simp [Cb]⟩⟩
  exact h.text (by simp)
theorem heap_new (w : World) (o : Obj) : (w.alloc o).heap[w.heap.size]? = some o := Array.getElem?_push_size
theorem le_pow_step {x f : Nat} (h : x < 128 ^ (f + 1)) : x / 128 < 128 ^ f := by
  rw [Nat.div_lt_iff_lt_mul (by decide)]; rw [Nat.pow_succ] at h; exact h
theorem fin_a {w w1 : World} {o : Obj} (hb : Below (w.alloc o).drew.heap.size (w.alloc o).drew w1) : Below w.heap.size w w1 := ((below_new w o).drew).trans (hb.mono ((below_new w o).drew).size)
theorem fin_b {w w1 : World} {o : Obj} (hb : Below w.drew.heap.size w.drew w1) : Below w.heap.size w (w1.alloc o) := (((Below.refl w.heap.size w).drew).trans hb).alloc (((Below.refl w.heap.size w).drew).trans hb).size o
set_option maxRecDepth 100000 in
set_option maxHeartbeats 1000000 in
theorem rputUint_small (x : Nat) (h1 : x < 128) (w : World) : Calls Try.prog 11 #[.int .u64 x] w (Gives (.string (str (leb x))) w) := by
  have hy : (x : Int) = ((UInt8.ofNat x).toNat : Int) := by simp; omega
  have T1 := byte_at (W := w.alloc (.cells #[.int .u8 (x : Int)] 5)) (heap_new w _) hy
  have E : Hid (str [UInt8.ofNat x] = str (leb x)) := Lib.hid (by rw [leb_small h1])
  have B := Lib.hid (below_new w (.cells #[.int .u8 (x : Int)] 5))
  clear hy
  generalize str [UInt8.ofNat x] = t at *
  go_enter Try.func11, Try.ntmps11
  go_wp2
  go_ret
  exact ⟨ret_s E.out, B.out⟩
set_option maxRecDepth 100000 in
set_option maxHeartbeats 1000000 in
theorem rputUint_any : ∀ (f x : Nat) (_ : x < 18446744073709551616) (_ : x < 128 ^ f) (w : World),
    Calls Try.prog 11 #[.int .u64 x] w (Gives (.string (str (leb x))) w) := by
  intro f
  induction f with
  | zero =>
    intro x hx hf w
    exact rputUint_small x (by simp at hf; omega) w
  | succ f ih =>
    intro x hx hf w
    by_cases h1 : x < 128
    · exact rputUint_small x h1 w
    · have R := Lib.hid (fun w' => ih (x / 128) (by omega) (le_pow_step hf) w')
      clear ih
      have E : Hid (str [UInt8.ofNat (x % 128 + 128)] ++ str (leb (x / 128)) = str (leb x)) := Lib.hid (by rw [str_append, leb_big (x := x) (by omega)]; rfl)
      have L1 : (leb (x / 128)).length ≤ 10 := leb_len 10 (x / 128) (by omega) (by decide)
      have z1 : (str [UInt8.ofNat (x % 128 + 128)]).size = 1 := by rw [str_size]; rfl
      have z2 : (str (leb (x / 128))).size ≤ 10 := by rw [str_size]; exact L1
      have z3 : ¬ 9223372036854775807 < (str [UInt8.ofNat (x % 128 + 128)]).size + (str (leb (x / 128))).size := by omega
      have e3 : ((x % 128 + 128 : Nat) : Int) = ((UInt8.ofNat (x % 128 + 128)).toNat : Int) := by simp; omega
      clear L1
      generalize str (leb (x / 128)) = t2 at *
      generalize hb1 : UInt8.ofNat (x % 128 + 128) = b1 at *
      have f1 : (x : Int).tmod 128 = ((x % 128 : Nat) : Int) := by rw [Int.tmod_eq_emod_of_nonneg (by omega)]; omega
      have f2 : IntKind.u64.wrap (((x % 128 : Nat) : Int) + 128) = ((x % 128 + 128 : Nat) : Int) := by rw [IntWalk.u64_in] <;> omega
      have f3 : IntKind.u8.wrap ((x % 128 + 128 : Nat) : Int) = (b1.toNat : Int) := by rw [← e3]; rw [IntWalk.u8_in] <;> omega
      have f4 : IntKind.u64.wrap ((x : Int) / 128) = ((x / 128 : Nat) : Int) := by rw [IntWalk.u64_in] <;> omega
      have T1 := byte_at (W := (w.alloc (.cells #[.int .u8 (b1.toNat : Int)] 5)).drew) (g := w.heap.size) (b := b1) (heap_new w _) rfl
      clear hb1 e3
      generalize x % 128 = x1 at *
      generalize x1 + 128 = x2 at *
      generalize x / 128 = x3 at *
      go_enter Try.func11, Try.ntmps11
      go_wp2_with fail
      go_region_with (go_at_call 11; (with_reducible refine (R.out _).mono ?_); rintro e w1 ⟨rfl, hb⟩; have T3 := byte_at (W := w1.alloc (.cells #[.int .u8 (b1.toNat : Int)] 5)) (heap_new w1 _) rfl; (try have T2 := byte_at (g := w.heap.size) ((hb.block w.heap.size (by simp)).trans (heap_new w (.cells #[.int .u8 (b1.toNat : Int)] 5))) rfl); have B1 := Lib.hid hb; clear hb)
      all_goals
        go_wp2
        go_ret
        exact ⟨ret_s E.out, by first | exact fin_a B1.out | exact fin_b B1.out⟩
end Go.Proofs.Ytebfnbnaheolgaa
