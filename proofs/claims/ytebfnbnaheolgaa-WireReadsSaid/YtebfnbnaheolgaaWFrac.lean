/- The contract of wire.Fraction: no claim of its own. -/
import Derived.Test.YtebfnbnaheolgaaWBuild
import Derived.Test.YtebfnbnaheolgaaWText
import Derived.Test.YtebfnbnaheolgaaFrac
namespace Go.Proofs.Ytebfnbnaheolgaa
open Go.RowKit
/-- A closure that wrote one integer. -/
def Put (b : Nat) (l : List UInt8) (w : World) (e : Ending) (w' : World) : Prop := e = .returned (.tuple #[]) ∧ Bld b l w' ∧ Only b w w'
theorem Only.keepSize {b : Nat} {w w1 : World} (h : Only b w w1) (hb : b ≤ w.heap.size) : b ≤ w1.heap.size := Nat.le_trans hb h.below.size
/-- What makes new memory alone turns no block that was there. -/
theorem Only.of_below {b : Nat} {w w1 : World} (hb : Below w.heap.size w w1) (h : b ≤ w.heap.size) : Only b w w1 :=
  ⟨hb.mono h, fun k _ hk _ _ => (hb.block k (Array.getElem?_eq_some_iff.1 hk).1).trans hk⟩
set_option maxRecDepth 100000 in
set_option maxHeartbeats 1000000 in
theorem put_any (b : Nat) (l : List UInt8) (x : Nat) (w : World) (hx : x < 18446744073709551616) (h : Bld b l w) (hl : l.length ≤ 90000000) :
    Calls Try.prog 39 #[.int .u64 x, .pointer (some ⟨b, 0, none⟩)] w (Put b (l ++ leb x) w) := by
  have U := Lib.hid (putUint_any x hx w)
  have H := Lib.hid h
  have L1 := leb_len 10 x (by omega) (by decide)
  have E := Lib.hid (str_data (leb x))
  have z : (str (leb x)).size ≤ 10 := by rw [str_size]; exact L1
  have hlt := h.lt
  clear h L1
  generalize str (leb x) = t at *
  go_enter Try.func39, Try.ntmps39
  go_wp2_with fail
  refine U.out.mono ?_
  rintro e w1 ⟨rfl, hb⟩
  have O1 := Lib.hid (Only.of_below hb (by omega : b ≤ w.heap.size))
  have hs := hb.size
  have W := Lib.hid (writeString_any b l t w1 (H.out.keep hb) (by omega) (by omega))
  clear hb
  go_wp2_with fail
  refine W.out.mono ?_
  rintro e w2 ⟨rfl, hB, hO⟩
  have F : Hid (Put b (l ++ leb x) w (.returned (.tuple #[])) w2) := Lib.hid ⟨rfl, by rw [← E.out]; exact hB, O1.out.trans hO⟩
  clear hB hO
  go_wp2
  go_end0
  exact F.out
def sg (s : Bool) : Nat := if s then 1 else 0
theorem sg_lt (s : Bool) : sg s < 18446744073709551616 := by cases s <;> decide
set_option maxRecDepth 100000 in
theorem signOf_any (s : Bool) (A B : Option Addr) (n c m d : Nat) (w : World) :
    Calls Try.prog 41 #[.agg #[.bool s, .slice A n c, .slice B m d]] w (Gives (.int .u64 (sg s : Nat)) w) := by
  have b0 := Lib.hid (below_new w (.cells #[.bool s, .slice A n c, .slice B m d] 40))
  cases s
  all_goals
    go_enter Try.func41, Try.ntmps41
    go_wp2
    go_ret
    exact ⟨rfl, b0.out⟩
/-- The encoding of a list of digits; of a fraction. -/
def natEnc (xs : List Nat) : List UInt8 := leb xs.length ++ xs.flatMap leb
def fracEnc (s : Bool) (xs ys : List Nat) : List UInt8 := leb (sg s) ++ natEnc xs ++ natEnc ys
theorem flat_len (xs : List Nat) (h : ∀ d ∈ xs, d < 4294967296) : (xs.flatMap leb).length ≤ 10 * xs.length := by
  induction xs with
  | nil => simp
  | cons d xs ih =>
    have h1 := leb_len 10 d (by have := h d (List.mem_cons_self ..); omega) (by decide)
    have h2 := ih (fun x hx => h x (List.mem_cons_of_mem _ hx))
    simp only [List.flatMap_cons, List.length_append, List.length_cons]
    omega
theorem flat_take (xs : List Nat) (h : ∀ d ∈ xs, d < 4294967296) (k : Nat) : ((xs.take k).flatMap leb).length ≤ 10 * xs.length := by
  have := flat_len (xs.take k) (fun d hd => h d (List.mem_of_mem_take hd))
  have h2 := List.length_take_le' k xs
  omega
theorem natEnc_len (xs : List Nat) (h : ∀ d ∈ xs, d < 4294967296) (hl : xs.length ≤ 1000000) : (natEnc xs).length ≤ 10 * xs.length + 10 := by
  have h1 := leb_len 10 xs.length (by omega) (by decide)
  have h2 := flat_len xs h
  unfold natEnc
  rw [List.length_append]
  omega
/-- What is written before number k. -/
def preEnc (s : Bool) (xs ys : List Nat) (k : Nat) : List UInt8 := leb (sg s) ++ (if 0 < k then natEnc xs else []) ++ (if 1 < k then natEnc ys else [])
theorem preEnc_zero (s : Bool) (xs ys : List Nat) : preEnc s xs ys 0 = leb (sg s) := by simp [preEnc]
theorem preEnc_two (s : Bool) (xs ys : List Nat) : preEnc s xs ys 2 = fracEnc s xs ys := by simp [preEnc, fracEnc]
structure FracIn (w : World) (b ga : Nat) (s : Bool) (A : Option Addr) (n c : Nat) (B : Option Addr) (m d : Nat) (xs ys : List Nat) (l : List UInt8) (wr : World) : Prop where
  bld : Bld b l wr
  arr : wr.heap[ga]? = some (.cells #[.slice A n c, .slice B m d] 38 (0, 0))
  bel : Below w.heap.size w wr
  x : Lst w A n c xs
  y : Lst w B m d ys
  hb : w.heap.size ≤ b
  hne : ga ≠ b
section
variable {w wr w2 : World} {b ga : Nat} {s : Bool} {A B : Option Addr} {n c m d : Nat} {xs ys : List Nat} {l l' : List UInt8}
theorem FracIn.put (h : FracIn w b ga s A n c B m d xs ys l wr) (hB : Bld b l' w2) (hO : Only b wr w2) : FracIn w b ga s A n c B m d xs ys l' w2 :=
  ⟨hB, hO.others ga _ h.arr (by intro e; injection e with e; exact h.hne e) (by intro c fz e; injection e with _ e; revert e; decide), h.bel.trans (hO.below.mono h.hb), h.x, h.y, h.hb, h.hne⟩
/-- The number k of the two. -/
theorem FracIn.pick (h : FracIn w b ga s A n c B m d xs ys l wr) {k : Nat} (hk : k < 2) :
    ∃ (A' : Option Addr) (n' c' : Nat) (zs : List Nat), wr.cell? ⟨ga, k, none⟩ = some (.slice A' n' c') ∧ Lst w A' n' c' zs ∧ preEnc s xs ys (k + 1) = preEnc s xs ys k ++ natEnc zs ∧ (n' = n ∨ n' = m) := by
  have h' := h.arr
  match k, hk with
  | 0, _ => exact ⟨A, n, c, xs, by rw [cell_of_row wr ga 0 _ _ _ h']; rfl, h.x, by simp [preEnc], .inl rfl⟩
  | 1, _ => exact ⟨B, m, d, ys, by rw [cell_of_row wr ga 1 _ _ _ h']; rfl, h.y, by simp [preEnc], .inr rfl⟩
end
theorem preEnc_len (s : Bool) (xs ys : List Nat) (h : ∀ d ∈ xs, d < 4294967296) (k : ∀ d ∈ ys, d < 4294967296) (h1 : xs.length ≤ 1000000) (h2 : ys.length ≤ 1000000) (i : Nat) : (preEnc s xs ys i).length ≤ 10 * xs.length + 10 * ys.length + 30 := by
  have a := natEnc_len xs h h1
  have b := natEnc_len ys k h2
  have c : (leb (sg s)).length ≤ 10 := leb_len 10 _ (by cases s <;> decide) (by decide)
  unfold preEnc
  generalize leb (sg s) = z at *
  simp only [List.length_append]
  by_cases h3 : 0 < i <;> by_cases h4 : 1 < i <;> simp only [h3, h4, if_true, if_false, List.length_nil] <;> omega
set_option maxRecDepth 100000 in
set_option maxHeartbeats 2000000 in
theorem putFrac_any (s : Bool) (A B : Option Addr) (n c m d : Nat) (xs ys : List Nat) (w : World) (hx : Lst w A n c xs) (hy : Lst w B m d ys) (hn : n ≤ 100000) (hm : m ≤ 100000) :
    Calls Try.prog 23 #[.agg #[.bool s, .slice A n c, .slice B m d]] w (Gives (.string (str (fracEnc s xs ys))) w) := by
  have hmf : ∀ (fn : Fn) (first cap : Array Value) (w : World), (Instr.makeFunc fn first cap).run Try.prog w = .ok (.func fn first cap) w := fun _ _ _ _ => rfl
  have b0 := below_new w (.cells #[.bool s, .slice A n c, .slice B m d] 40)
  have H0 := (FB.new w s A n c B m d).alloc (.cells #[.pointer none, .slice none 0 0] 69)
  have D0 := Bld.new (w.alloc (.cells #[.bool s, .slice A n c, .slice B m d] 40))
  obtain ⟨h0, h1, h2, _, _, _⟩ := H0.facts
  have SG := Lib.hid (fun W => signOf_any s A B n c m d W)
  have hq := sg_lt s
  have PE := Lib.hid (preEnc_len s xs ys hx.lt hy.lt (by rw [hx.len]; omega) (by rw [hy.len]; omega))
  have P0 := Lib.hid (preEnc_zero s xs ys)
  have P2 := Lib.hid (preEnc_two s xs ys)
  have HX := Lib.hid hx
  have HY := Lib.hid hy
  have B0 := Lib.hid (b0.alloc (by simp) (.cells #[.pointer none, .slice none 0 0] 69))
  have HH := Lib.hid H0
  have HD := Lib.hid D0
  clear hx hy b0 H0 D0
  go_enter Try.func23, Try.ntmps23
  go_wp2_with fail
  refine (SG.out _).mono ?_
  rintro e w1 ⟨rfl, hb⟩
  have hsz : w.heap.size + 1 < w1.heap.size := by have := hb.size; simp at this; omega
  have D1 := HD.out.keep hb
  have H1 := HH.out.keep hb
  have B1 := B0.out.trans (hb.mono B0.out.size)
  rw [show (w.alloc (.cells #[.bool s, .slice A n c, .slice B m d] 40)).heap.size = w.heap.size + 1 by simp] at D1
  clear hb HD HH B0 h0 h1 h2
  obtain ⟨b, hbb⟩ : ∃ b, w.heap.size + 1 = b := ⟨_, rfl⟩
  have hwb : w.heap.size < b := by omega
  rw [hbb] at D1 hsz ⊢
  clear hbb
  have PU := Lib.hid (put_any b [] _ w1 hq D1 (by simp))
  have BB1 := Lib.hid B1
  have HH1 := Lib.hid H1
  clear B1 H1 D1
  go_wp2_with fail
  refine PU.out.mono ?_
  rintro e w2 ⟨rfl, hB, hO⟩
  rw [List.nil_append, ← P0.out] at hB
  have H2 := HH1.out
  replace H2 : FB w2 w.heap.size s A n c B m d := (hO.below.block _ hwb).trans H2
  have B2 := BB1.out.trans (hO.below.mono (by omega))
  have hs2 := hO.below.size
  obtain ⟨h0, h1, h2, _, _, _⟩ := H2.facts
  have I0 : Hid (FracIn w b w2.heap.size s A n c B m d xs ys (preEnc s xs ys 0) (w2.alloc (.cells #[.slice A n c, .slice B m d] 38))) := Lib.hid
    ⟨hB.keep (below_new _ _), heap_new _ _, B2.alloc B2.size _, HX.out, HY.out, by omega, by have := hB.lt; omega⟩
  clear hB hO H2 B2 BB1 HH1 hs2 PU SG
  obtain ⟨ga, hga⟩ : ∃ ga, w2.heap.size = ga := ⟨_, rfl⟩
  go_wp2_with fail
  rw [hga] at I0
  obtain ⟨W3, hW3⟩ : ∃ W3, w2.alloc (.cells #[.slice A n c, .slice B m d] 38) = W3 := ⟨_, rfl⟩
  rw [hW3] at I0 ⊢
  clear hW3 hga h0 h1 h2
  have hxl : xs.length = n := HX.out.len
  have hyl : ys.length = m := HY.out.len
  have XL := Lib.hid hxl
  have YL := Lib.hid hyl
  clear hxl hyl
  go_loopw [20] (fun i wr => ∃ k : Nat, k ≤ 2 ∧ i = .int .i64 k ∧ Hid (FracIn w b ga s A n c B m d xs ys (preEnc s xs ys k) wr)) (fun i _ => 2 - (intOf i).toNat)
  case atStart => exact ⟨0, by omega, rfl, I0⟩
  case round =>
    clear I0
    obtain ⟨k, hk, rfl, hi⟩ := hrel
    by_cases hlt : k < 2
    · obtain ⟨A', n', c', zs, hcell, hz, hpre, hn'⟩ := hi.out.pick hlt
      have hn'' : n' ≤ 100000 := by omega
      have PL : (preEnc s xs ys k).length ≤ 2100000 := by
        have := PE.out k
        have := XL.out
        have := YL.out
        omega
      have HZ := Lib.hid hz
      have HP := Lib.hid hpre
      have PU := Lib.hid (put_any b _ n' wr (by omega) hi.out.bld (by omega))
      clear hz hpre hn'
      go_wp2_with fail
      refine PU.out.mono ?_
      rintro e w4 ⟨rfl, hB, hO⟩
      have I4 : Hid (FracIn w b ga s A n c B m d xs ys (preEnc s xs ys k ++ leb n' ++ (zs.take 0).flatMap leb) w4) := Lib.hid (by rw [List.take_zero, List.flatMap_nil, List.append_nil]; exact hi.out.put hB hO)
      clear hB hO hi hcell PU
      go_wp2_with fail
      go_loopw [31] (fun i wr => ∃ j : Nat, j ≤ n' ∧ i = .int .i64 j ∧ Hid (FracIn w b ga s A n c B m d xs ys (preEnc s xs ys k ++ leb n' ++ (zs.take j).flatMap leb) wr)) (fun i _ => n' - (intOf i).toNat)
      case atStart => exact ⟨0, by omega, rfl, I4⟩
      case round =>
        clear I4
        obtain ⟨j, hj, rfl, hi⟩ := hrel
        by_cases hjt : j < n'
        · have zr := HZ.out.keep hi.out.bel
          obtain ⟨ad, rfl, _, hcell⟩ := zr.at_ hjt
          have dl := zr.getD_lt j
          have FT := flat_take zs HZ.out.lt j
          rw [HZ.out.len] at FT
          have L1 := leb_len 10 n' (by omega) (by decide)
          have PU := Lib.hid (put_any b _ (zs.getD j 0) wr (by omega) hi.out.bld (by simp only [List.length_append]; omega))
          have ST : Hid (preEnc s xs ys k ++ leb n' ++ (zs.take j).flatMap leb ++ leb (zs.getD j 0) = preEnc s xs ys k ++ leb n' ++ (zs.take (j + 1)).flatMap leb) := Lib.hid (by
            have hjl : j < zs.length := by rw [HZ.out.len]; exact hjt
            rw [List.take_succ_eq_append_getElem hjl, List.flatMap_append, List.append_assoc, List.append_assoc, List.append_assoc]
            simp [List.getD_eq_getElem?_getD, hjl])
          clear zr FT L1
          generalize zs.getD j 0 = dg at *
          go_wp2_with fail
          refine PU.out.mono ?_
          rintro e w5 ⟨rfl, hB, hO⟩
          have I5 : Hid (FracIn w b ga s A n c B m d xs ys (preEnc s xs ys k ++ leb n' ++ (zs.take (j + 1)).flatMap leb) w5) := Lib.hid (by rw [← ST.out]; exact hi.out.put hB hO)
          clear hB hO hi PU ST hcell
          go_wp2
          go_roundw
          case rel => exact ⟨j + 1, by omega, by go_num, I5⟩
          case measure => simp [intOf]; omega
        · obtain rfl : j = n' := by omega
          have I6 : Hid (FracIn w b ga s A n c B m d xs ys (preEnc s xs ys (k + 1)) wr) := Lib.hid (by
            have h := hi.out
            rw [List.take_of_length_le (by rw [HZ.out.len]; exact Nat.le_refl _)] at h
            rw [HP.out]
            unfold natEnc
            rw [HZ.out.len, ← List.append_assoc]
            exact h)
          clear hi
          go_wp2
          go_roundw
          case rel => exact ⟨k + 1, by omega, by go_num, I6⟩
          case measure => simp [intOf]; omega
    · obtain rfl : k = 2 := by omega
      have hi2 := hi.out
      rw [P2.out] at hi2
      have ST := Lib.hid (string_any b _ wr hi2.bld (Nat.le_of_lt hi2.bld.lt))
      have BB := Lib.hid hi2.bel
      clear hi hi2
      go_wp2_with fail
      refine ST.out.mono ?_
      rintro e w6 ⟨rfl, _, hO⟩
      have F : Hid (Below w.heap.size w w6) := Lib.hid (BB.out.trans (hO.below.mono (by omega)))
      clear hO BB
      go_wp2
      go_ret
      exact ⟨rfl, F.out⟩
end Go.Proofs.Ytebfnbnaheolgaa
