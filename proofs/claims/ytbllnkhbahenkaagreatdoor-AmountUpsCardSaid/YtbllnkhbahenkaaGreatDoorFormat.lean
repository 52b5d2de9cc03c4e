/- The contract of natural.Format: no claim of its own. -/
import Derived.Test.YtbllnkhbahenkaaGreatDoorBytes
import Derived.Test.YtbllnkhbahenkaaGreatDoorMaths
import Derived.Test.YtbllnkhbahenkaaGreatDoorDivS
namespace Go.Proofs.YtbllnkhbahenkaaGreatDoor
open Go.RowKit
/-- A call hands back the decimal text of a. -/
def GivesText (a : Nat) (w : World) (e : Ending) (w' : World) : Prop := ∃ s, e = .returned (.string s) ∧ isText s.data.toList a ∧ Below w.heap.size w w'
theorem natmap_getD (L : List Nat) (i : Nat) : (L.map fun x : Nat => (x : Int)).getD i 0 = ((L.getD i 0 : Nat) : Int) := by
  rw [List.getD_eq_getElem?_getD, List.getD_eq_getElem?_getD, List.getElem?_map]
  cases L[i]? <;> rfl
/-- The length of a slice in a slot: for a measure. -/
def lenOf : Value → Nat | .slice _ m _ => m | _ => 0
def FmtInv (B _n0 a : Nat) (w : World) (A : Option Addr) (n : Nat) (v : Value) (m : Nat) (wr : World) : Prop :=
  ∃ xs l, Mine wr B A n xs ∧ Tight xs ∧ OwnB wr B v l ∧ l.length = m ∧ (∀ c ∈ l, 48 ≤ c ∧ c ≤ 57) ∧ rn l + 10 ^ m * dval xs = a ∧ Below B w wr
/-- Inside: p is what is left of the part. -/
def FmtIn (B a P : Nat) (w : World) (A : Option Addr) (n : Nat) (v : Value) (m j p : Nat) (wr : World) : Prop :=
  ∃ xs l, Mine wr B A n xs ∧ Tight xs ∧ OwnB wr B v l ∧ l.length = m + j ∧ (∀ c ∈ l, 48 ≤ c ∧ c ≤ 57) ∧ rn l + 10 ^ (m + j) * p = P ∧ P + 10 ^ (m + 9) * dval xs = a ∧ p < 10 ^ (9 - j) ∧ Below B w wr
theorem fmt_short (B n0 a : Nat) (w wr : World) (A : Option Addr) (n : Nat) (v : Value) (m : Nat) (h : FmtInv B n0 a w A n v m wr) (hn : 0 < n) (ha : a < 4294967296 ^ n0) : m < 10 * n0 := by
  obtain ⟨xs, l, hm, ht, hO, hl, hd, hv, hb⟩ := h
  have h1 := dval_pos xs (by rw [hm.len]; omega) ht
  have h2 : 0 < 4294967296 ^ (xs.length - 1) := Nat.pow_pos (by decide)
  have h3 : 10 ^ m * 1 ≤ 10 ^ m * dval xs := Nat.mul_le_mul_left _ (by omega)
  have h4 : (4294967296 : Nat) ^ n0 ≤ (10 ^ 10) ^ n0 := Nat.pow_le_pow_left (by decide) _
  rw [← Nat.pow_mul] at h4
  have h5 : 10 ^ m < 10 ^ (10 * n0) := by omega
  exact (Nat.pow_lt_pow_iff_right (by decide : 1 < 10)).1 h5
theorem FmtInv.divide {B n0 a : Nat} {w wr w1 : World} {A : Option Addr} {n : Nat} {v : Value} {m : Nat} {e : Ending} (_h : FmtInv B n0 a w A n v m wr) (hn : 0 < n) (_hB : B ≤ wr.heap.size) (xs : List Nat) (hm : Mine wr B A n xs) (l : List Nat) (hO : OwnB wr B v l) (_hl : l.length = m) (_hd : ∀ c ∈ l, 48 ≤ c ∧ c ≤ 57) (hv : rn l + 10 ^ m * dval xs = a) (hb : Below B w wr)
    (k : Divides A n 1000000000 xs B wr e w1) : ∃ (p : Nat) (cur : List Nat), e = .returned (.int .u32 (p : Int)) ∧ p < 1000000000 ∧ Mine w1 B A n cur ∧ OwnB w1 B v l ∧ Below B w w1 ∧ rn l + 10 ^ m * (p + 10 ^ 9 * dval cur) = a := by
  obtain ⟨cur, rfl, hc, ⟨hb1, hg1⟩, hdv⟩ := k
  refine ⟨_, cur, rfl, Nat.mod_lt _ (show 0 < 1000000000 by decide), hc, hO.other hm hn hg1, hb.trans hb1, ?_⟩
  rw [hdv]
  have := Nat.mod_add_div (dval xs) 1000000000
  rw [show (10 : Nat) ^ 9 = 1000000000 from rfl, this]
  exact hv
theorem FmtIn.start {B a : Nat} {w w1 : World} {A : Option Addr} {n : Nat} {v : Value} {m p k : Nat} {cur l : List Nat} (hM : Mine w1 B A n cur) (hk : k ≤ cur.length) (ht : Tight (cur.take k)) (hval : dval (cur.take k) = dval cur) (hO : OwnB w1 B v l) (hl : l.length = m) (hd : ∀ c ∈ l, 48 ≤ c ∧ c ≤ 57) (hp : p < 1000000000) (hb : Below B w w1) (hv : rn l + 10 ^ m * (p + 10 ^ 9 * dval cur) = a) :
    FmtIn B a (rn l + 10 ^ m * p) w A k v m 0 p w1 := by
  refine ⟨cur.take k, l, hM.take (by rw [← hM.len]; exact hk), ht, hO, by omega, hd, rfl, ?_, by simpa using hp, hb⟩
  rw [hval, Nat.pow_add, Nat.mul_assoc]
  rw [Nat.mul_add] at hv
  omega
theorem pow_step (j : Nat) (hj : j < 9) (p : Nat) (h : p < 10 ^ (9 - j)) : p / 10 < 10 ^ (9 - (j + 1)) := by
  rw [show 9 - j = (9 - (j + 1)) + 1 by omega, Nat.pow_succ] at h
  omega
theorem FmtIn.step {B a P : Nat} {w wr w1 : World} {A : Option Addr} {n : Nat} {v v' : Value} {m j p : Nat} {xs l : List Nat} {o : Obj} {u : Int} (hM : Mine wr B A n xs) (ht : Tight xs) (hO : OwnB wr B v l) (hl : l.length = m + j) (hd : ∀ c ∈ l, 48 ≤ c ∧ c ≤ 57) (h1 : rn l + 10 ^ (m + j) * p = P) (h2 : P + 10 ^ (m + 9) * dval xs = a) (hp : p < 10 ^ (9 - j)) (hb : Below B w wr)
    (hj : j < 9) (hs : B ≤ wr.heap.size) (hu : u = ((48 + p % 10 : Nat) : Int)) (hown : w1.ownsRow B 5 1 v' (l.length + 1) (Db l ++ [.int .u8 u])) (hg : (wr.alloc o).grownBy w1 v.ownBlock) : FmtIn B a P w A n v' m (j + 1) (p / 10) w1 := by
  have R := hO.app hb hs hown hu (by omega) hg
  have hO' : OwnB (wr.alloc o) B v l := ⟨hO.own.alloc _, hO.lt⟩
  have hM' : Mine (wr.alloc o) B A n xs := hM.keep (C := wr.heap.size) ((Below.refl _ _).alloc (Nat.le_refl _) _) (Nat.le_refl _)
  refine ⟨xs, l ++ [48 + p % 10], hM'.other hO' hg, ht, R.1, by simp; omega, fun c hc => ?_, ?_, h2, pow_step j hj p hp, R.2⟩
  · rcases List.mem_append.1 hc with h | h
    · exact hd c h
    · simp at h; omega
  · rw [rn_append, hl, ← h1, show m + (j + 1) = (m + j) + 1 by omega, Nat.pow_succ]
    simp only [rn]
    have := Nat.div_add_mod p 10
    generalize p / 10 = q at *
    generalize p % 10 = r at *
    generalize 10 ^ (m + j) = T at *
    subst this
    rw [show 48 + r - 48 = r by omega]
    grind
theorem FmtIn.fin {B n0 a P : Nat} {w wr : World} {A : Option Addr} {n : Nat} {v : Value} {m p : Nat} (h : FmtIn B a P w A n v m 9 p wr) : FmtInv B n0 a w A n v (m + 9) wr := by
  obtain ⟨xs, l, hM, ht, hO, hl, hd, h1, h2, hp, hb⟩ := h
  obtain rfl : p = 0 := by simpa using hp
  exact ⟨xs, l, hM, ht, hO, hl, hd, by rw [← h2, ← h1]; simp, hb⟩
set_option maxRecDepth 100000 in
set_option maxHeartbeats 400000 in
theorem format_zero (A : Option Addr) (c : Nat) (xs : List Nat) (w : World) (h : Num w A 0 c xs 0) :
    Calls Tryz.prog 54 #[.slice A 0 c] w (GivesText 0 w) := by
  have H := Lib.hid h
  clear h
  go_enter Tryz.func54, Tryz.ntmps54
  go_wp2_with fail
  refine (trim_num _ _ _ _ _ _ H.out).mono ?_
  rintro e w' ⟨rfl, rfl⟩
  go_wp2_with fail
  refine (clone_any _ _ _ _ _ H.out.caps.toLst).mono ?_
  rintro e w1 ⟨v, rfl, hO, hb⟩
  obtain ⟨A1, c1, rfl, hL⟩ := hO.lst' (n := 0) H.out.len (by decide)
  have G : Hid (GivesText 0 w (.returned (.string ⟨#[48]⟩)) w1) := Lib.hid ⟨_, rfl, ⟨[48], rfl, by simp, by intro c hc; simp at hc; subst hc; exact ⟨by decide, by decide⟩, .inr rfl, rfl⟩, hb⟩
  clear hO hb hL
  go_wp2
  go_ret
  exact G.out
set_option maxRecDepth 100000 in
set_option maxHeartbeats 2000000 in
theorem format_pos (A : Option Addr) (n0 c a : Nat) (xs : List Nat) (w : World) (h : Num w A n0 c xs a) (hn0 : 0 < n0) (hn1 : n0 ≤ 1000000) :
    Calls Tryz.prog 54 #[.slice A n0 c] w (GivesText a w) := by
  obtain ⟨i0, hi0, hz0, hz1, hz2⟩ := info_parts infoU8
  have H := Lib.hid h
  have HA := Lib.hid h.lt_pow
  have HP := Lib.hid (h.pos hn0)
  clear h
  go_enter Tryz.func54, Tryz.ntmps54
  go_wp2_with fail
  refine (trim_num _ _ _ _ _ _ H.out).mono ?_
  rintro e w' ⟨rfl, rfl⟩
  go_wp2_with fail
  refine (clone_any _ _ _ _ _ H.out.caps.toLst).mono ?_
  rintro e w1 ⟨v, rfl, hO, hb⟩
  obtain ⟨A1, c1, rfl, hM, hc1⟩ := hO.mine
  rw [H.out.len] at hM hc1
  rw [H.out.len]
  have I0 : Hid (FmtInv w.heap.size n0 a w A1 n0 (.slice none 0 0) 0 w1) := Lib.hid ⟨xs, [], hM, H.out.tight, OwnB.nil _ _, rfl, by simp, by simp [rn, H.out.val], hb⟩
  clear hO hb hM
  have hz : ((n0 : Int) == 0) = false := beq_eq_false_iff_ne.2 (by omega)
  go_wp2
  go_loopw [3, 4] (fun rv tv wr => ∃ (n c m : Nat) (T : Option Addr) (d : Nat), n ≤ n0 ∧ n ≤ c ∧ m ≤ 10 * n0 + 9 ∧ rv = .slice A1 n c ∧ tv = .slice T m d ∧ Hid (FmtInv w.heap.size n0 a w A1 n (.slice T m d) m wr)) (fun _ tv _ => 10 * n0 + 20 - lenOf tv)
  case atStart => exact ⟨n0, c1, 0, none, 0, by omega, hc1, by omega, rfl, rfl, I0⟩
  case round =>
    obtain ⟨n, c, m, T, d, hn, hnc, hm9, rfl, rfl, hi⟩ := hrel
    rcases Nat.eq_zero_or_pos n with hnz | hnp
    · subst hnz
      obtain ⟨xs', l, hM, hT, hOB, hl, hd, hv, hb⟩ := hi.out
      obtain rfl : xs' = [] := List.eq_nil_of_length_eq_zero hM.len
      have hv' : rn l = a := by simpa [dval] using hv
      have hmp : 0 < m := by
        rcases Nat.eq_zero_or_pos m with h0 | h0
        · subst h0
          have : l = [] := List.eq_nil_of_length_eq_zero hl
          subst this
          have := HP.out
          simp [rn] at hv'
          omega
        · exact h0
      obtain ⟨T', d', e', hMB, hmd⟩ := hOB.mine
      rw [hl] at e' hMB hmd
      injection e' with e1 e2 e3
      subst e1 e3
      have C := Lib.hid (trimZeros_any T m d w.heap.size l wr hMB hmd (by omega) hmp)
      have J := Lib.hid (fun k hk h1 h2 => text_of l k a hd hk h1 h2 hv' HP.out)
      have HM := Lib.hid hMB
      have HB := Lib.hid hb
      clear hM hT hOB hd hv hb hi I0 hMB hv'
      go_wp2_with fail
      refine C.out.mono ?_
      rintro e w1 ⟨k, hk, rfl, h1, h2, rfl⟩
      obtain ⟨hk0, htx⟩ := J.out k hk h1 h2
      have HT := Lib.hid htx
      have hkm : k ≤ m := by omega
      have R := Lib.hid (reverse_any T k d w.heap.size (l.take k) wr (HM.out.take hkm) (by omega) HB.out.size)
      clear C J h1 h2 htx
      go_wp2_with fail
      refine R.out.mono ?_
      rintro e w1 ⟨rfl, hMR, hb1⟩
      obtain ⟨g, rfl, _⟩ := hMR.at_ (k := 0) (by omega)
      have conv := run_convert_bytes_arg (P := Tryz.prog) w1 80 5 Tryz.underlying80 Tryz.underlying5 g 0 k d ((l.take k).reverse.map fun x : Nat => (x : Int)) (by have := hMR.len; simpa using this) (fun i hi' => by
        obtain ⟨g', e, _, hc, _⟩ := hMR.at_ (k := i) hi'
        injection e with e
        injection e with e
        subst e
        rw [Nat.zero_add, hc, natmap_getD]) 9 Tryz.underlying9
      have G : Hid (GivesText a w (.returned (.string (strOfNums ((l.take k).reverse.map fun x : Nat => (x : Int))))) w1) := Lib.hid ⟨_, rfl, by
        rw [strOfNums_data, List.map_map]
        have : ((fun n : Int => UInt8.ofNat n.toNat) ∘ fun x : Nat => (x : Int)) = UInt8.ofNat := by funext x; simp
        rw [this]
        exact HT.out, HB.out.trans hb1⟩
      clear hMR hb1 R HT
      generalize strOfNums ((l.take k).reverse.map fun x : Nat => (x : Int)) = t at conv G
      go_wp2
      go_ret
      exact G.out
    · have hm := fmt_short _ _ _ _ _ _ _ _ _ hi.out hnp HA.out
      obtain ⟨xs, l, hM, hT, hOB, hl, hd, hv, hb⟩ := hi.out
      have D := Lib.hid (divideByDigit_any A1 n c 1000000000 xs wr w.heap.size hM (by omega) hb.size (by decide) (by decide))
      have K := Lib.hid (fun e w1 => hi.out.divide (e := e) (w1 := w1) hnp hb.size xs hM l hOB hl hd hv hb)
      clear hM hT hOB hv hb hi I0
      go_wp2_with fail
      refine D.out.mono ?_
      rintro e w1 hdv
      obtain ⟨p, cur, rfl, hp, hM1, hO1, hb1, hv1⟩ := K.out _ _ hdv
      have L := Lib.hid (hM1.lst (c := c) hnc (by omega))
      have J := Lib.hid (fun k hk ht hval => FmtIn.start (k := k) hM1 hk ht hval hO1 hl hd hp hb1 hv1)
      have HL1 := Lib.hid hM1.len
      clear hdv hM1 hO1 hb1 hv1 D K hl hd
      go_wp2_with fail
      refine (trim_any _ _ _ _ _ L.out).mono ?_
      rintro e w' ⟨k, hk, rfl, ht, hval, rfl⟩
      have hkn : k ≤ n0 := by have := HL1.out; omega
      have JJ := Lib.hid (J.out k hk ht hval)
      clear ht hval J hk L
      generalize rn l + 10 ^ m * p = P at JJ
      go_wp2
      go_loopw [4, 5, 19] (fun tv pv jv wr => ∃ (j p : Nat) (T : Option Addr) (d : Nat), j ≤ 9 ∧ p < 1000000000 ∧ tv = .slice T (m + j) d ∧ pv = .int .u32 p ∧ jv = .int .i64 j ∧ Hid (FmtIn w.heap.size a P w A1 k (.slice T (m + j) d) m j p wr)) (fun _ _ jv _ => 9 - (intOf jv).toNat)
      case atStart => exact ⟨0, p, T, d, by omega, hp, rfl, rfl, rfl, JJ⟩
      case round =>
        obtain ⟨j, p, T, d, hj, hp, rfl, rfl, rfl, hi⟩ := hrel
        by_cases hlt : j < 9
        · obtain ⟨xs, l, hM, ht, hO, hl, hd, h1, h2, hpp, hb⟩ := hi.out
          have hs := hb.size
          have HO := Lib.hid hO
          have HL := Lib.hid hl
          have S := Lib.hid (fun v' w1 o u hu hown hg => FmtIn.step (v' := v') (w1 := w1) (o := o) (u := u) hM ht hO hl hd h1 h2 hpp hb hlt hs hu hown hg)
          clear hM ht hO hl hd h1 h2 hpp hb hi
          go_wp2_with (at_builtin; refine wpList_append_own _ rfl _ _ 80 rfl w.heap.size 5 i0 (.int .u8 0) 1 1 Tryz.underlying80 hi0 hz0 hz1 hz2 rfl (by decide) _ _ _ rfl (HO.out.own.alloc _) ⟨wr.heap.size, 0, none⟩ 1 1 [.int .u8 (48 + (p : Int) % 10)] rfl rfl ?c1 ?c2 ?c3 ?c4 ?c5 ?_)
          case c1 =>
            intro j' u hj'
            match j', hj' with
            | 0, hj' => simp at hj'; subst hj'; simp [Addr.add]
          case c2 => intro u hu; simp at hu; subst hu; rfl
          case c3 => have := HL.out; unfold maxLen; omega
          case c4 => have := HL.out; omega
          case c5 => simp; omega
          intro v' w2 hown' hgrow _
          have R := S.out v' w2 _ _ (by omega) hown' hgrow
          obtain ⟨T', d', rfl⟩ : ∃ T' d', v' = .slice T' (m + (j + 1)) d' := by
            obtain ⟨_, l', _, _, hO', hl', _⟩ := R
            obtain ⟨T', d', e, _⟩ := hO'.mine
            exact ⟨T', d', by rw [e, hl']⟩
          have RR := Lib.hid R
          clear hown' hgrow R S
          go_wp2
          go_roundw
          case rel => exact ⟨j + 1, p / 10, T', d', by omega, by omega, rfl, by go_num, by go_num, RR⟩
          case measure => simp [intOf]; omega
        · obtain rfl : j = 9 := by omega
          have F := Lib.hid (hi.out.fin (n0 := n0))
          clear hi
          go_wp2
          go_roundw
          case rel => exact ⟨k, k, m + 9, T, d, hkn, Nat.le_refl _, by omega, rfl, rfl, F⟩
          case measure => simp [lenOf]; omega
end Go.Proofs.YtbllnkhbahenkaaGreatDoor
