/- The contract of the reference's shift: no claim of its own. -/
import Derived.Test.YtbjkkiehpfnogaaDoorRAdd
namespace Go.Proofs.YtbjkkiehpfnogaaDoor
open Go.RowKit
def ShiftInv (w : World) (k : Nat) (v : Value) (wr : World) : Prop := ∃ out, Own wr w.heap.size v out ∧ out.length = k ∧ dval out = 0 ∧ Below w.heap.size w wr
theorem dval_zero_snoc (out : List Nat) (h : dval out = 0) : dval (out ++ [0]) = 0 := by rw [dval_append, h]; simp [dval]
set_option maxHeartbeats 2000000 in
theorem rshift_any (A : Option Addr) (n c a s : Nat) (xs : List Nat) (w : World) (hx : Num w A n c xs a) (hn : n ≤ 1000000) (hsl : s ≤ 1000000) :
    Calls Tryd.prog 49 #[.slice A n c, .int .i64 s] w (GivesNum (4294967296 ^ s * a) w) := by
  obtain ⟨i0, hi0, hz0, hz1, hz2⟩ := info_parts infoU32
  have HX := Lib.hid hx
  have I0 : Hid (ShiftInv w 0 (.slice none 0 0) w) := Lib.hid ⟨[], Own.nil _ _, rfl, rfl, Below.refl _ _⟩
  clear hx
  go_enter Tryd.func49, Tryd.ntmps49
  go_wp2
  go_loopw [5, 6] (fun v i wr => ∃ k : Nat, k ≤ s ∧ i = .int .i64 k ∧ Hid (ShiftInv w k v wr)) (fun _ i _ => s - (intOf i).toNat)
  case atStart => exact ⟨0, by omega, rfl, I0⟩
  case round =>
      obtain ⟨k, hk, rfl, hi⟩ := hrel
      obtain ⟨out, hO, hl, hv, hb⟩ := hi.out
      have HO := Lib.hid hO
      have HB := Lib.hid hb
      have HL := Lib.hid hl
      have HV := Lib.hid hv
      have hs := hb.size
      have KX := Lib.hid (HX.out.keep hb)
      clear hO hl hv hb hi I0
      by_cases hlt : k < s
      · go_wp2_with (at_builtin; refine wpList_append_own _ rfl _ _ 23 rfl w.heap.size 46 i0 (.int .u32 0) 1 4 Tryd.underlying23 hi0 hz0 hz1 hz2 rfl (by decide) _ _ _ rfl (HO.out.own.alloc _) ⟨wr.heap.size, 0, none⟩ 1 1 [.int .u32 0] rfl rfl ?c1 ?c2 ?c3 ?c4 ?c5 ?_)
        case c1 =>
          intro j u hj
          match j, hj with
          | 0, hj => simp at hj; subst hj; simp [Addr.add]
        case c2 => intro u hu; simp at hu; subst hu; rfl
        case c3 => have := HL.out; unfold maxLen; omega
        case c4 => have := HL.out; omega
        case c5 => simp; omega
        intro v' w1 hown' hgrow _
        have R := HO.out.app HB.out hs hown' (d := 0) rfl (by decide) hgrow
        have RR : Hid (ShiftInv w (k + 1) v' w1) := Lib.hid ⟨_, R.1, by simp [HL.out], dval_zero_snoc _ HV.out, R.2⟩
        clear hown' hgrow R
        go_wp2
        go_roundw
        case rel => exact ⟨k + 1, by omega, by go_num, RR⟩
        case measure => simp [intOf]; omega
      · obtain rfl : k = s := by omega
        go_wp2_with (at_builtin; refine wpList_append_any _ rfl _ _ _ rfl w.heap.size 46 i0 _ 1 4 Tryd.underlying23 hi0 hz0 hz1 hz2 rfl (by omega) _ _ _ rfl HO.out.own wr.heap.size A n c (Dg xs) rfl KX.out.reads (dg_oneCell _) ?d1 ?d2 ?d3 ?_)
        case d1 => have := HL.out; simp only [maxLen]; omega
        case d2 => have := HL.out; omega
        case d3 => omega
        intro v1 w1 hown hg hat
        have hcat : Own w1 w.heap.size v1 (out ++ xs) := Own.cat HO.out.lt KX.out.lt (by have := hown; rwa [HX.out.len])
        have hb1 : Below w.heap.size w w1 := HB.out.grown hg hs (fun g hg' => (HO.out.own.lt g hg').1)
        have F : Hid (dval (out ++ xs) = 4294967296 ^ k * a) := Lib.hid (by rw [dval_append, HV.out, HX.out.val, HL.out, Nat.zero_add])
        clear hown hg hat
        obtain ⟨A', c', rfl, L⟩ := hcat.lst' (n := k + n) (by have := HX.out.len; have := HL.out; simp; omega) (by omega)
        have LL := Lib.hid L
        have HB1 := Lib.hid hb1
        clear L hcat hb1
        go_wp2_with fail
        refine (rtrim_any _ _ _ _ _ LL.out).mono ?_
        rintro e w' hg
        have G := Lib.hid ((hg.from_ HB1.out rfl).eq F.out)
        obtain ⟨A1, n1, c1, xs1, rfl, _, _⟩ := hg
        go_wp2
        go_ret
        exact G.out
end Go.Proofs.YtbjkkiehpfnogaaDoor
