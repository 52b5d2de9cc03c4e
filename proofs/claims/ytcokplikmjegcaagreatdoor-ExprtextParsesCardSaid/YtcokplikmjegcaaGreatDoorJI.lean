/- CItoa, CShelf, CFmt, joined: no claim of its own. -/
import Derived.Test.YtcokplikmjegcaaGreatDoorJH
import Derived.Shelf.Strings.OnBuilder
import Derived.Test.YtcokplikmjegcaaGreatDoorJA
import Derived.Deep.RegionHeld3
namespace Go.Proofs.YtcokplikmjegcaaGreatDoor
open Go.RowKit
open MC (Pr)
/-- A call hands back v and turns nothing at all. -/
def Same (v : Value) (w : World) (e : Ending) (w' : World) : Prop := e = .returned v ∧ w' = w
theorem dig_lit (k : Nat) (h : k < 10) : str [UInt8.ofNat (48 + k)] = (⟨#[48, 49, 50, 51, 52, 53, 54, 55, 56, 57, 97, 98, 99, 100, 101, 102, 103, 104, 105, 106, 107, 108, 109, 110, 111, 112, 113, 114, 115, 116, 117, 118, 119, 120, 121, 122]⟩ : ByteArray).extract k (k + 1) := by
  have : k = 0 ∨ k = 1 ∨ k = 2 ∨ k = 3 ∨ k = 4 ∨ k = 5 ∨ k = 6 ∨ k = 7 ∨ k = 8 ∨ k = 9 := by omega
  rcases this with rfl | rfl | rfl | rfl | rfl | rfl | rfl | rfl | rfl | rfl <;> rfl
set_option maxRecDepth 100000 in
theorem small_dig (k : Nat) (h : k < 10) (w : World) : Calls Tryz.prog 120 #[.int .i64 k] w (Same (.string (str [UInt8.ofNat (48 + k)])) w) := by
  have E := Lib.hid (dig_lit k h)
  rw [E.out]
  go_enter Tryz.func120, Tryz.ntmps120
  go_wp2
  go_ret
  exact ⟨rfl, rfl⟩
set_option maxRecDepth 100000 in
theorem fmtInt_dig (k : Nat) (h : k < 10) (w : World) : Calls Tryz.prog 109 #[.int .i64 k, .int .i64 10] w (Same (.string (str [UInt8.ofNat (48 + k)])) w) := by
  have S := Lib.hid (fun w' => small_dig k h w')
  have d1 : decide (0 ≤ (k : Int)) = true := decide_eq_true (by omega)
  have d2 : decide ((k : Int) < 100) = true := decide_eq_true (by omega)
  generalize str [UInt8.ofNat (48 + k)] = s at *
  go_enter Tryz.func109, Tryz.ntmps109
  go_wp2_with fail
  refine (S.out _).mono ?_
  rintro e w1 ⟨rfl, rfl⟩
  go_wp2
  go_ret
  exact ⟨rfl, rfl⟩
set_option maxRecDepth 100000 in
theorem itoaI_dig (k : Nat) (h : k < 10) (w : World) : Calls Tryz.prog 76 #[.int .i64 k] w (Same (.string (str [UInt8.ofNat (48 + k)])) w) := by
  have S := Lib.hid (fun w' => fmtInt_dig k h w')
  generalize str [UInt8.ofNat (48 + k)] = s at *
  go_enter Tryz.func76, Tryz.ntmps76
  go_wp2_with fail
  refine (S.out _).mono ?_
  rintro e w1 ⟨rfl, rfl⟩
  go_wp2
  go_ret
  exact ⟨rfl, rfl⟩
set_option maxRecDepth 100000 in
theorem itoa_dig (k : Nat) (h : k < 10) (w : World) : Calls Tryz.prog 42 #[.int .i64 k] w (Same (.string (str [UInt8.ofNat (48 + k)])) w) := by
  have S := Lib.hid (fun w' => itoaI_dig k h w')
  generalize str [UInt8.ofNat (48 + k)] = s at *
  go_enter Tryz.func42, Tryz.ntmps42
  go_wp2_with fail
  refine (S.out _).mono ?_
  rintro e w1 ⟨rfl, rfl⟩
  go_wp2
  go_ret
  exact ⟨rfl, rfl⟩
/-- Nothing of a product that the list lacks. -/
def restB (n : Nat) (b : List Int) : Bool := (List.range 6).all fun j => decide (j < n) || decide (MB.at_ b j = 0)
theorem rest_iff {n : Nat} {b : List Int} : restB n b = true ↔ ∀ j, j < 6 → n ≤ j → MB.at_ b j = 0 := by
  unfold restB
  simp only [List.all_eq_true, List.mem_range, Bool.or_eq_true, decide_eq_true_eq]
  constructor
  · intro h j h6 hn
    rcases h j h6 with g | g
    · omega
    · exact g
  · intro h j h6
    rcases Nat.lt_or_ge j n with g | g
    · exact .inl g
    · exact .inr (h j h6 g)
theorem rest_bad {n k : Nat} {b : List Int} (hk : k < 6) (hn : n ≤ k) (h : MB.at_ b k ≠ 0) : restB n b = false := by
  cases e : restB n b with
  | false => rfl
  | true => exact absurd (rest_iff.1 e k hk hn) h
theorem rest_good {n : Nat} {b : List Int} (h : ∀ j, n ≤ j → j < 6 → MB.at_ b j = 0) : restB n b = true := rest_iff.2 fun j h1 h2 => h j h2 h1
theorem fits_iff {L : List Pr} {b : List Int} (hb : b.length = 6) : MC.Fits L b ↔ MC.chkL L = 0 ∧ MB.okB b = true ∧ restB L.length b = true := by
  unfold MC.Fits
  rw [rest_iff]
  constructor
  · rintro ⟨h1, h2, h3⟩; exact ⟨h1, h2, fun j _ hj => h3 j hj⟩
  · rintro ⟨h1, h2, h3⟩
    refine ⟨h1, h2, fun j hj => ?_⟩
    by_cases h6 : j < 6
    · exact h3 j h6 hj
    · unfold MB.at_; rw [List.getD_eq_getElem?_getD, List.getElem?_eq_none (by omega)]; rfl
/-- What fits answers. -/
def fitB (n : Nat) (b : List Int) : Bool := restB n b && MB.okB b
theorem fit_no {n : Nat} {b : List Int} (h : restB n b = false) : fitB n b = false := by unfold fitB; rw [h]; rfl
theorem fit_ok {n : Nat} {b : List Int} (h : restB n b = true) : fitB n b = MB.okB b := by unfold fitB; rw [h]; rfl
theorem slice_bun (g n : Nat) (hn : n ≤ 6) : ∃ o r : Nat, n + r = 6 ∧ (0 < r → o = n) ∧ ∀ w : World, (Instr.sliceAt 24 (.pointer (some ⟨g, 0, none⟩)) (some (.int .i64 n)) none none).run Tryz.prog w = .ok (.slice (some ⟨g, o, none⟩) r r) w := by
  have : n = 0 ∨ n = 1 ∨ n = 2 ∨ n = 3 ∨ n = 4 ∨ n = 5 ∨ n = 6 := by omega
  rcases this with rfl | rfl | rfl | rfl | rfl | rfl | rfl
  · exact ⟨0, 6, rfl, fun _ => rfl, fun w => by kernel_rfl⟩
  · exact ⟨1, 5, rfl, fun _ => rfl, fun w => by kernel_rfl⟩
  · exact ⟨2, 4, rfl, fun _ => rfl, fun w => by kernel_rfl⟩
  · exact ⟨3, 3, rfl, fun _ => rfl, fun w => by kernel_rfl⟩
  · exact ⟨4, 2, rfl, fun _ => rfl, fun w => by kernel_rfl⟩
  · exact ⟨5, 1, rfl, fun _ => rfl, fun w => by kernel_rfl⟩
  · exact ⟨0, 0, rfl, fun h => absurd h (by decide), fun w => by kernel_rfl⟩
set_option maxRecDepth 100000 in
set_option maxHeartbeats 2000000 in
theorem fits8_any (A : Option Addr) (n cp : Nat) (hn : n ≤ 6) (a b c d e f : Int) (w : World) :
    Calls Tryz.prog 41 #[.slice A n cp, .agg #[.int .i64 a, .int .i64 b, .int .i64 c, .int .i64 d, .int .i64 e, .int .i64 f]] w (Gives (.bool (fitB n [a, b, c, d, e, f])) w) := by
  have H1 := Lib.hid (BB.new w 24 a b c d e f)
  have HB := Lib.hid (below_new w (.cells #[.int .i64 a, .int .i64 b, .int .i64 c, .int .i64 d, .int .i64 e, .int .i64 f] 24))
  have BC := Lib.hid (fun w' => bcheck_any a b c d e f w')
  obtain ⟨o, r, hr, ho, hs⟩ := slice_bun w.heap.size n hn
  obtain ⟨ad, had⟩ : ∃ ad : Addr, ad = ⟨w.heap.size, o, none⟩ := ⟨_, rfl⟩
  rw [← had] at hs
  have HA := Lib.hid had
  have HO := Lib.hid ho
  have HR := Lib.hid hr
  have hr6 : r ≤ 6 := by omega
  clear had ho hr
  have HX : Hid (([a, b, c, d, e, f] : List Int).length = 6) := Lib.hid rfl
  go_enter Tryz.func41, Tryz.ntmps41
  go_wp2
  obtain ⟨W, hW⟩ : ∃ W, W = w.alloc (.cells #[.int .i64 a, .int .i64 b, .int .i64 c, .int .i64 d, .int .i64 e, .int .i64 f] 24) := ⟨_, rfl⟩
  rw [← hW] at H1 HB ⊢
  clear hW hs
  go_loop [11] (fun i => ∃ k : Nat, k ≤ r ∧ i = .int .i64 k ∧ Hid (∀ j, n ≤ j → j < n + k → MB.at_ [a, b, c, d, e, f] j = 0)) (fun i => r - (intOf i).toNat)
  case atStart => exact ⟨0, Nat.zero_le _, rfl, Lib.hid (fun j h1 h2 => absurd h1 (by omega))⟩
  case round =>
    obtain ⟨k, hk, rfl, HN⟩ := hrel
    by_cases hlt : k < r
    · have hc : W.cell? (ad.add k) = some (.int .i64 (MB.at_ [a, b, c, d, e, f] (n + k))) := by
        rw [HA.out, addr_add, HO.out (by omega)]
        exact H1.out.cell (by have := HR.out; omega)
      have hc' : W.cell? (ad.add (k * 1)) = some (.int .i64 (MB.at_ [a, b, c, d, e, f] (n + k))) := by rw [Nat.mul_one]; exact hc
      by_cases hz : MB.at_ [a, b, c, d, e, f] (n + k) = 0
      · have G : Hid (∀ j, n ≤ j → j < n + (k + 1) → MB.at_ [a, b, c, d, e, f] j = 0) := Lib.hid (fun j h1 h2 => by
          rcases Nat.lt_or_ge j (n + k) with g | g
          · exact HN.out j h1 g
          · have : j = n + k := by omega
            subst this; exact hz)
        rw [hz] at hc hc'
        clear HN hz
        go_wp2
        go_round
        case rel => exact ⟨k + 1, by omega, by go_num, G⟩
        case measure => simp [intOf]; omega
      · have G := Lib.hid (ret_b (fit_no (rest_bad (b := [a, b, c, d, e, f]) (by have := HR.out; omega) (Nat.le_add_right n k) hz)).symm)
        have hb : (MB.at_ [a, b, c, d, e, f] (n + k) != 0) = true := bne_iff_ne.2 hz
        clear HN hz
        generalize MB.at_ [a, b, c, d, e, f] (n + k) = y at *
        go_wp2
        go_ret
        exact ⟨G.out, HB.out⟩
    · obtain rfl : k = r := by omega
      have hf := fit_ok (rest_good (n := n) (b := [a, b, c, d, e, f]) fun j h1 h2 => HN.out j h1 (by have := HR.out; omega))
      obtain ⟨c0, c1, c2, c3, c4, c5⟩ := cells6 H1.out
      cases hok : MB.okB [a, b, c, d, e, f] with
      | true =>
        rw [chk_ok hok] at BC
        rw [hok] at hf
        have G := Lib.hid (ret_b hf.symm)
        clear hok hf HN
        go_wp2_with fail
        refine (BC.out _).mono ?_
        rintro e1 w1 ⟨rfl, hb⟩
        have B1 := Lib.hid (HB.out.trans (hb.mono HB.out.size))
        clear hb
        go_wp2
        go_ret
        exact ⟨G.out, B1.out⟩
      | false =>
        rw [chk_no hok] at BC
        rw [hok] at hf
        have G := Lib.hid (ret_b hf.symm)
        clear hok hf HN
        go_wp2_with fail
        refine (BC.out _).mono ?_
        rintro e1 w1 ⟨rfl, hb⟩
        have B1 := Lib.hid (HB.out.trans (hb.mono HB.out.size))
        clear hb
        go_wp2
        go_ret
        exact ⟨G.out, B1.out⟩
end Go.Proofs.YtcokplikmjegcaaGreatDoor
namespace Go.Proofs.YtcokplikmjegcaaGreatDoor
open Go.Shelf Go.RowKit
def lays156_ren : Go.Shelf.Ren := ⟨fun | 156 => 43 | 165 => 77 | 166 => 46 | 169 => 21 | 240 => 78 | 241 => 110 | 276 => 111 | 277 => 124 | n => n, fun | 0 => 0 | 3 => 3 | 4 => 4 | 5 => 5 | 9 => 9 | 20 => 20 | 31 => 79 | 37 => 45 | 70 => 44 | 72 => 47 | 75 => 87 | 76 => 88 | 80 => 52 | 127 => 91 | 164 => 136 | n => n, fun | n => n⟩
set_option maxRecDepth 100000 in
theorem lays156 : Go.Proofs.Lays.n156 Tryz.prog lays156_ren := {
  mixed := by kernel_rfl
  f156 := Tryz.func43.trans (congrArg some (by kernel_rfl))
  f165 := Tryz.func77.trans (congrArg some (by kernel_rfl))
  f166 := Tryz.func46.trans (congrArg some (by kernel_rfl))
  f169 := Tryz.func21.trans (congrArg some (by kernel_rfl))
  f240 := Tryz.func78.trans (congrArg some (by kernel_rfl))
  f241 := Tryz.func110.trans (congrArg some (by kernel_rfl))
  f276 := Tryz.func111.trans (congrArg some (by kernel_rfl))
  f277 := Tryz.func124.trans (congrArg some (by kernel_rfl))
  t0 := Tryz.underlying0
  a0 := Tryz.isAgg0
  z0 := Tryz.sizeOf0
  v0 := Tryz.zeroValue0
  t3 := Tryz.underlying3
  a3 := Tryz.isAgg3
  z3 := Tryz.sizeOf3
  v3 := Tryz.zeroValue3
  t4 := Tryz.underlying4
  a4 := Tryz.isAgg4
  z4 := Tryz.sizeOf4
  v4 := Tryz.zeroValue4
  t9 := Tryz.underlying9
  a9 := Tryz.isAgg9
  z9 := Tryz.sizeOf9
  v9 := Tryz.zeroValue9
  t20 := Tryz.underlying20
  a20 := Tryz.isAgg20
  z20 := Tryz.sizeOf20
  v20 := Tryz.zeroValue20
  t31 := Tryz.underlying79
  a31 := Tryz.isAgg79
  z31 := Tryz.sizeOf79
  v31 := Tryz.zeroValue79
  t37 := Tryz.underlying45
  a37 := Tryz.isAgg45
  z37 := Tryz.sizeOf45
  v37 := Tryz.zeroValue45
  t70 := Tryz.underlying44
  a70 := Tryz.isAgg44
  z70 := Tryz.sizeOf44
  v70 := Tryz.zeroValue44
  t72 := Tryz.underlying47
  a72 := Tryz.isAgg47
  z72 := Tryz.sizeOf47
  v72 := Tryz.zeroValue47
  t75 := Tryz.underlying87
  a75 := Tryz.isAgg87
  z75 := Tryz.sizeOf87
  v75 := Tryz.zeroValue87
  t76 := Tryz.underlying88
  a76 := Tryz.isAgg88
  z76 := Tryz.sizeOf88
  v76 := Tryz.zeroValue88
  t127 := Tryz.underlying91
  a127 := Tryz.isAgg91
  z127 := Tryz.sizeOf91
  v127 := Tryz.zeroValue91
  t164 := Tryz.underlying136
  a164 := Tryz.isAgg136
  z164 := Tryz.sizeOf136
  v164 := Tryz.zeroValue136 }
theorem joinExtra : Builder.Extra Tryz.prog lays156_ren := {
  sizeBuilder := by kernel_rfl
  liesBuilder := by kernel_rfl
  t5 := Tryz.underlying5
  a5 := Tryz.isAgg5
  z5 := Tryz.sizeOf5
  v5 := Tryz.zeroValue5
  infoByte := by kernel_rfl
  cellsByte := by kernel_rfl
  sizeByte := by kernel_rfl
  neB5 := by decide }
theorem join_some (bk o c : Nat) (xs : List ByteArray) (sep : ByteArray) (w : World)
    (hcells : ∀ (j : Nat) x, xs[j]? = some x → w.cell? ⟨bk, o + j, none⟩ = some (.string x))
    (hbk : bk < w.heap.size) (hN : xs.length ≤ 140737488355328) (hcap : xs.length ≤ c)
    (hlen : (Lib.join (xs.map (·.data.toList)) sep.data.toList).length ≤ 140737488355328) :
    Calls Tryz.prog 43 #[.slice (some ⟨bk, o, none⟩) xs.length c, .string sep] w (Gives (.string ⟨(Lib.join (xs.map (·.data.toList)) sep.data.toList).toArray⟩) w) :=
  Any.strings_Join lays156 joinExtra bk o c xs sep w hcells hbk hN hcap hlen
theorem join_none (a : Option Addr) (c : Nat) (sep : ByteArray) (w : World) : Calls Tryz.prog 43 #[.slice a 0 c, .string sep] w (Gives (.string ⟨#[]⟩) w) :=
  (Any.strings_Join_none lays156 joinExtra a c sep w).mono fun _ _ h => ⟨h.1, h.2 ▸ Below.refl _ _⟩
end Go.Proofs.YtcokplikmjegcaaGreatDoor
namespace Go.Proofs.YtcokplikmjegcaaGreatDoor
open Go.RowKit
open MC (Pr)
/-- The call's own row of strings. -/
def OwnS (w : World) (B : Nat) (v : Value) (xs : List (List UInt8)) : Prop := w.ownsRow B 9 1 v xs.length (xs.map fun x => .string (str x))
theorem OwnS.nil (w : World) (B : Nat) : OwnS w B (.slice none 0 0) [] := World.ownsRow_nil _ _ _ _
theorem OwnS.keep {w w' : World} {B : Nat} {v : Value} {xs : List (List UInt8)} (h : OwnS w B v xs) (hb : Below w.heap.size w w') : OwnS w' B v xs :=
  World.ownsRow.kept (row := none) h ⟨hb.os, hb.tape, hb.output, hb.size, fun k hk _ => hb.block k hk⟩ (by cases hv : v.ownBlock <;> simp)
theorem infoStr : (Tryz.prog.info? 9).map (fun i => (i.zero, i.size, i.bytes)) = some (some (.string ⟨#[]⟩), 1, 16) := by kernel_rfl
/-- What is held in the region of the append. -/
structure Fm (B : Nat) (wo : World) (Bb : Nat) (xs : List Int) (pb : Nat) (s : ByteArray) (w' : World) : Prop where
  bun : BB w' Bb 24 xs
  below : Below B wo w'
  name : w'.cell? ⟨pb, 0, none⟩ = some (.string s)
theorem Fm.alloc {B : Nat} {wo : World} {Bb : Nat} {xs : List Int} {pb : Nat} {s : ByteArray} {w' : World} (h : Fm B wo Bb xs pb s w') (o : Obj) (hB : B ≤ w'.heap.size) : Fm B wo Bb xs pb s (w'.alloc o) :=
  ⟨h.bun.alloc o, h.below.trans ((below_new w' o).mono hB), by rw [(below_new w' o).cell (block_lt_of_cell h.name)]; exact h.name⟩
theorem Fm.drew {B : Nat} {wo : World} {Bb : Nat} {xs : List Int} {pb : Nat} {s : ByteArray} {w' : World} (h : Fm B wo Bb xs pb s w') : Fm B wo Bb xs pb s w'.drew := ⟨h.bun.drew, h.below.drew, h.name⟩
theorem Fm.grown {B : Nat} {wo : World} {Bb : Nat} {xs : List Int} {pb : Nat} {s : ByteArray} {w' w7 : World} {r : Option Nat} (h : Fm B wo Bb xs pb s w') (hg : w'.grownBy w7 r) (hr : ∀ g, r = some g → B ≤ g ∧ g ≠ pb ∧ g ≠ Bb) (hB : B ≤ w'.heap.size) : Fm B wo Bb xs pb s w7 :=
  ⟨⟨(hg.block Bb h.bun.lt (fun e => (hr Bb e.symm).2.2 rfl)).trans h.bun.1, h.bun.2⟩, h.below.grown hg hB (fun k hk => (hr k hk).1), hg.cell h.name (fun e => (hr pb e.symm).2.1 rfl)⟩
theorem OwnS.app {w7 : World} {B g cap : Nat} {els : List (List UInt8)} {e : List UInt8} {se : ByteArray} (h : w7.ownsRow B 9 1 (.slice (some ⟨g, 0, none⟩) (els.length + 1) cap) (els.length + 1) (els.map (fun x => Value.string (str x)) ++ [.string se])) (he : se = str e) :
    OwnS w7 B (.slice (some ⟨g, 0, none⟩) (els.length + 1) cap) (els ++ [e]) := by
  unfold OwnS
  subst he
  rw [List.length_append, List.map_append]
  exact h
set_option maxRecDepth 100000 in
set_option maxHeartbeats 8000000 in
theorem format_any (A : Option Addr) (n cp : Nat) (L : List Pr) (a b c d e f : Int) (w : World) (h : Prs w A n cp L) :
    Calls Tryz.prog 17 #[.slice A n cp, .agg #[.int .i64 a, .int .i64 b, .int .i64 c, .int .i64 d, .int .i64 e, .int .i64 f]] w (Gives (.string (str (MC.fmtL L [a, b, c, d, e, f]))) w) := by
  have hn := h.few
  have hc := h.cap
  have HL := Lib.hid h.len
  have H := Lib.hid h
  clear h
  have H1 := Lib.hid (BB.new w 24 a b c d e f)
  have HB := Lib.hid (below_new w (.cells #[.int .i64 a, .int .i64 b, .int .i64 c, .int .i64 d, .int .i64 e, .int .i64 f] 24))
  have CK := Lib.hid (fun w' (hb : Below w.heap.size w w') => check_any A n cp L w' (H.out.keep hb))
  by_cases hg : MC.chkL L = 0
  · rw [hg] at CK
    have GL := Lib.hid (Good_of hg)
    have h6 : n ≤ 6 := by have := GL.out.few; rw [HL.out] at this; exact this
    have FT := Lib.hid (fun w' => fits8_any A n cp h6 a b c d e f w')
    have hfi : fitB n [a, b, c, d, e, f] = true ↔ MC.Fits L [a, b, c, d, e, f] := by
      rw [fits_iff rfl, HL.out]
      unfold fitB
      rw [Bool.and_eq_true]
      exact ⟨fun ⟨h1, h2⟩ => ⟨hg, h2, h1⟩, fun ⟨_, h1, h2⟩ => ⟨h2, h1⟩⟩
    cases hfit : fitB n [a, b, c, d, e, f] with
    | false =>
      rw [hfit] at FT
      have G := Lib.hid (ret_str (show (⟨#[]⟩ : ByteArray) = str (MC.fmtL L [a, b, c, d, e, f]) by rw [fmt_no (fun hh => by rw [hfi.2 hh] at hfit; cases hfit)]; rfl))
      clear hg hfit hfi
      go_enter Tryz.func17, Tryz.ntmps17
      go_wp2_with fail
      refine (CK.out _ HB.out).mono ?_
      rintro e1 w1 ⟨rfl, hb⟩
      have B1 := Lib.hid (HB.out.trans (hb.mono HB.out.size))
      obtain ⟨c0, c1, c2, c3, c4, c5⟩ := cells6 (H1.out.keep hb H1.out.lt)
      clear hb
      go_wp2_with fail
      refine (FT.out _).mono ?_
      rintro e2 w2 ⟨rfl, hb⟩
      have B2 := Lib.hid (B1.out.trans (hb.mono B1.out.size))
      clear hb
      go_wp2
      go_ret
      exact ⟨G.out, B2.out⟩
    | true =>
      rw [hfit] at FT
      have HFit := Lib.hid (hfi.1 hfit)
      have HOK := Lib.hid HFit.out.2.1
      have G := Lib.hid (ret_str (show (⟨#[123]⟩ : ByteArray) ++ str (MC.inK L [a, b, c, d, e, f] n) ++ ⟨#[125]⟩ = str (MC.fmtL L [a, b, c, d, e, f]) by rw [fmt_yes HFit.out, ← HL.out]; exact text_str L _))
      clear hg hfit hfi HFit
      obtain ⟨i0, hi, hz0, hz1, hz2⟩ := info_parts infoStr
      go_enter Tryz.func17, Tryz.ntmps17
      go_wp2_with fail
      refine (CK.out _ HB.out).mono ?_
      rintro e1 w1 ⟨rfl, hb⟩
      have B1 := Lib.hid (HB.out.trans (hb.mono HB.out.size))
      have N1 := Lib.hid (H1.out.keep hb H1.out.lt)
      obtain ⟨c0, c1, c2, c3, c4, c5⟩ := cells6 N1.out
      clear hb H1 HB CK
      go_wp2_with fail
      refine (FT.out _).mono ?_
      rintro e2 w2 ⟨rfl, hb⟩
      have B2 := Lib.hid (B1.out.trans (hb.mono B1.out.size))
      have N2 := Lib.hid (N1.out.keep hb N1.out.lt)
      clear hb N1 B1 FT c0 c1 c2 c3 c4 c5
      obtain ⟨xs, hxs⟩ : ∃ xs, [a, b, c, d, e, f] = xs := ⟨_, rfl⟩
      rw [hxs] at N2 HOK G
      have HXS := Lib.hid hxs
      have O0 := Lib.hid (OwnS.nil w2 w2.heap.size)
      have R0 := Lib.hid (Below.refl w2.heap.size w2)
      have PL := Lib.hid (H.out.keep B2.out)
      have LT2 : w.heap.size < w2.heap.size := N2.out.lt
      clear hxs
      go_wp2_with fail
      go_loopw [5, 19] (fun v i wr => ∃ k : Nat, k ≤ n ∧ i = .int .i64 k ∧ Hid (OwnS wr w2.heap.size v (MC.elsK L xs k)) ∧ Hid (BB wr w.heap.size 24 xs) ∧ Hid (Below w2.heap.size w2 wr)) (fun _ i _ => n - (intOf i).toNat)
      case atStart => exact ⟨0, Nat.zero_le _, rfl, O0, N2, R0⟩
      case round =>
        clear O0 R0 N2
        obtain ⟨k, hk, rfl, HO, HN, HD⟩ := hrel
        have hszr := HN.out.lt
        by_cases hlt : k < n
        · have hc1 := HN.out.cell (k := k) (by omega)
          obtain ⟨q, hq, hq4⟩ : ∃ q : Nat, MB.at_ xs k = q ∧ q ≤ 4 := by
            have := MC.okB_at HOK.out k
            exact ⟨(MB.at_ xs k).toNat, by omega, by omega⟩
          have HQ := Lib.hid hq
          rw [hq] at hc1
          clear hq
          obtain ⟨ad, p, rfl, q1, hbk, x0, x1, x2, x3, x4⟩ := (PL.out.keep HD.out).at_ hlt
          have S2 : (str p.name).size ≤ 12 := by rw [str_size]; exact MC.nameB_len (GL.out.each k p q1).1
          have S3 : (str [UInt8.ofNat (48 + q)]).size = 1 := by rw [str_size]; rfl
          have HE := Lib.hid (ent_str q1 HQ.out)
          have IT := Lib.hid (fun w' => itoa_dig q (by omega) w')
          have HF : Hid (Fm w2.heap.size w2 w.heap.size xs wr.heap.size (str p.name) (wr.alloc (.cells #[.string (str p.name), .int .i64 p.supply, .int .i64 p.reserve, .int .i64 p.points, .int .i64 p.group] 71)).drew) :=
            Lib.hid (Fm.drew ⟨HN.out.alloc _, HD.out.trans ((below_new wr _).mono HD.out.size), by rw [cell_of_row _ _ _ _ _ _ (heap_new wr _)]; rfl⟩)
          have O1 := Lib.hid (HO.out.keep (((below_new wr (.cells #[.string (str p.name), .int .i64 p.supply, .int .i64 p.reserve, .int .i64 p.points, .int .i64 p.group] 71)).drew)))
          have OL := Lib.hid (fun g hg => World.ownsRow.lt HO.out g hg)
          have hel : (MC.elsK L xs k).length ≤ 6 := by unfold MC.elsK; rw [List.length_map]; have := MC.upK_len xs k; omega
          clear q1 hbk
          by_cases h0 : 0 < q
          · have hd0 : decide (0 < (q : Int)) = true := decide_eq_true (by omega)
            have HG0 := Lib.hid ((MC.elsK_more (l := L) (b := xs) (k := k) (by rw [HQ.out]; omega)).symm)
            obtain ⟨pn, ps, pr, pp, pg⟩ := p
            simp only at *
            generalize str pn = s at *
            generalize str [UInt8.ofNat (48 + q)] = s3 at *
            have z1 : ¬ 9223372036854775807 < s.size + 1 := by omega
            have z2 : ¬ 9223372036854775807 < s.size + 1 + s3.size := by omega
            have z3 : (k : Int) < 6 := by omega
            clear S3
            have HX9 : Hid (((wr.alloc (.cells #[.string s, .int .i64 ps, .int .i64 pr, .int .i64 pp, .int .i64 pg] 71)).alloc (.cells #[.string (s ++ ⟨#[58]⟩ ++ s3)] 9)).drew.heap[wr.heap.size + 1]? = some (.cells #[.string (s ++ ⟨#[58]⟩ ++ s3)] 9 (0, 0))) := Lib.hid (by
              have := heap_new (wr.alloc (.cells #[.string s, .int .i64 ps, .int .i64 pr, .int .i64 pp, .int .i64 pg] 71)) (.cells #[.string (s ++ ⟨#[58]⟩ ++ s3)] 9)
              rw [show (wr.alloc (.cells #[.string s, .int .i64 ps, .int .i64 pr, .int .i64 pp, .int .i64 pg] 71)).heap.size = wr.heap.size + 1 by simp] at this
              exact this)
            go_wp2_with fail
            refine wp_region_held_drew (S := fun w' => Fm w2.heap.size w2 w.heap.size xs wr.heap.size s w') (by kernel_rfl) HF.out (fun hHeld => ?_)
            refine wpAnyH_take (i := 0) (oi := { dst := some 28, op := Op.move (Operand.tmp 5), type := 79, pos := "text.go:20", after := #[], guard := none }) (v := ?_) rfl (by kernel_rfl) (by kernel_rfl) (by kernel_rfl) (fun _ _ _ h => h) (Or.inl ⟨by rfl, ?_⟩) (by assumption) ?_
            rotate_left
            · intro w hSw; (try dsimp only at hSw); have hq0 := hSw.name; have hq1 := hSw.bun.cell (k := k) (by omega); rw [HQ.out] at hq1; go_simp; try with_reducible rfl
            (try simp only [Act.put, List.setIfInBounds_toArray, List.set_cons_zero, List.set_cons_succ])
            refine wpAnyH_take (i := 1) (oi := { dst := some 29, op := Op.fieldAddr 71 (Operand.tmp 7) 0, type := 0, pos := "text.go:20", after := #[], guard := none }) (v := ?_) rfl (by kernel_rfl) (by kernel_rfl) (by kernel_rfl) (fun _ _ _ h => h) (Or.inl ⟨by rfl, ?_⟩) (by assumption) ?_
            rotate_left
            · intro w hSw; (try dsimp only at hSw); have hq0 := hSw.name; have hq1 := hSw.bun.cell (k := k) (by omega); rw [HQ.out] at hq1; go_simp; try with_reducible rfl
            (try simp only [Act.put, List.setIfInBounds_toArray, List.set_cons_zero, List.set_cons_succ])
            refine wpAnyH_take (i := 2) (oi := { dst := some 30, op := Op.load 9 (Operand.tmp 29), type := 9, pos := "text.go:20", after := #[{ on := 1, ground := Ground.data }], guard := none }) (v := ?_) rfl (by kernel_rfl) (by kernel_rfl) (by kernel_rfl) (fun _ _ _ h => h) (Or.inl ⟨by rfl, ?_⟩) (by assumption) ?_
            rotate_left
            · intro w hSw; (try dsimp only at hSw); have hq0 := hSw.name; have hq1 := hSw.bun.cell (k := k) (by omega); rw [HQ.out] at hq1; go_simp; try with_reducible rfl
            (try simp only [Act.put, List.setIfInBounds_toArray, List.set_cons_zero, List.set_cons_succ])
            refine wpAnyH_take (i := 3) (oi := { dst := some 31, op := Op.binOp BinOp.add 9 (Operand.tmp 30) (Operand.const (Value.string { data := #[58] })) 9, type := 9, pos := "text.go:20", after := #[{ on := 2, ground := Ground.data }], guard := none }) (v := ?_) rfl (by kernel_rfl) (by kernel_rfl) (by kernel_rfl) (fun _ _ _ h => h) (Or.inl ⟨by rfl, ?_⟩) (by assumption) ?_
            rotate_left
            · intro w hSw; (try dsimp only at hSw); have hq0 := hSw.name; have hq1 := hSw.bun.cell (k := k) (by omega); rw [HQ.out] at hq1; go_simp; try with_reducible rfl
            (try simp only [Act.put, List.setIfInBounds_toArray, List.set_cons_zero, List.set_cons_succ])
            refine wpAnyH_take (i := 4) (oi := { dst := some 32, op := Op.move (Operand.tmp 6), type := 3, pos := "text.go:20", after := #[], guard := none }) (v := ?_) rfl (by kernel_rfl) (by kernel_rfl) (by kernel_rfl) (fun _ _ _ h => h) (Or.inl ⟨by rfl, ?_⟩) (by assumption) ?_
            rotate_left
            · intro w hSw; (try dsimp only at hSw); have hq0 := hSw.name; have hq1 := hSw.bun.cell (k := k) (by omega); rw [HQ.out] at hq1; go_simp; try with_reducible rfl
            (try simp only [Act.put, List.setIfInBounds_toArray, List.set_cons_zero, List.set_cons_succ])
            refine wpAnyH_take (i := 5) (oi := { dst := some 33, op := Op.indexAddr 24 (Operand.tmp 3) (Operand.tmp 32), type := 0, pos := "text.go:20", after := #[{ on := 4, ground := Ground.data }], guard := none }) (v := ?_) rfl (by kernel_rfl) (by kernel_rfl) (by kernel_rfl) (fun _ _ _ h => h) (Or.inl ⟨by rfl, ?_⟩) (by assumption) ?_
            rotate_left
            · intro w hSw; (try dsimp only at hSw); have hq0 := hSw.name; have hq1 := hSw.bun.cell (k := k) (by omega); rw [HQ.out] at hq1; go_simp; try with_reducible rfl
            (try simp only [Act.put, List.setIfInBounds_toArray, List.set_cons_zero, List.set_cons_succ])
            refine wpAnyH_take (i := 6) (oi := { dst := some 34, op := Op.load 3 (Operand.tmp 33), type := 3, pos := "text.go:20", after := #[{ on := 5, ground := Ground.data }], guard := none }) (v := ?_) rfl (by kernel_rfl) (by kernel_rfl) (by kernel_rfl) (fun _ _ _ h => h) (Or.inl ⟨by rfl, ?_⟩) (by assumption) ?_
            rotate_left
            · intro w hSw; (try dsimp only at hSw); have hq0 := hSw.name; have hq1 := hSw.bun.cell (k := k) (by omega); rw [HQ.out] at hq1; go_simp; try with_reducible rfl
            (try simp only [Act.put, List.setIfInBounds_toArray, List.set_cons_zero, List.set_cons_succ])
            refine wpAnyH_ready (rs := [7]) (by kernel_rfl) (by simp) ?_
            refine AllReadyH.cons (o := { dst := some 35, op := Op.call { callee := Callee.value (Operand.func 42), args := #[Operand.tmp 34], argTypes := #[3] }, type := 9, pos := "text.go:20", after := #[{ on := 6, ground := Ground.data }], guard := none }) rfl (fun K hK => ?_) AllReadyH.nil
            go_simp
            refine (IT.out _).mono ?_
            rintro e5 w5 ⟨rfl, rfl⟩
            refine hK.out _ _ ?_ (fun hHeld => ?_)
            · exact hHeld
            clear hK K
            (try simp only [Act.put, List.setIfInBounds_toArray, List.set_cons_zero, List.set_cons_succ])
            refine wpAnyH_take (i := 8) (oi := { dst := some 36, op := Op.binOp BinOp.add 9 (Operand.tmp 31) (Operand.tmp 35) 9, type := 9, pos := "text.go:20", after := #[{ on := 3, ground := Ground.data }, { on := 7, ground := Ground.data }], guard := none }) (v := ?_) rfl (by kernel_rfl) (by kernel_rfl) (by kernel_rfl) (fun _ _ _ h => h) (Or.inl ⟨by rfl, ?_⟩) (by assumption) ?_
            rotate_left
            · intro w hSw; (try dsimp only at hSw); have hq0 := hSw.name; have hq1 := hSw.bun.cell (k := k) (by omega); rw [HQ.out] at hq1; go_simp; try with_reducible rfl
            (try simp only [Act.put, List.setIfInBounds_toArray, List.set_cons_zero, List.set_cons_succ])
            refine wpAnyH_ready (rs := [9]) (by kernel_rfl) (by simp) ?_
            refine AllReadyH.cons (o := { dst := some 37, op := Op.buildSlice 79 1 #[(0, Operand.tmp 36)], type := 79, pos := "text.go:20", after := #[{ on := 8, ground := Ground.data }], guard := none }) rfl (fun K hK => ?_) AllReadyH.nil
            go_simp
            refine hK.out _ _ ?_ (fun hHeld => ?_)
            · exact hHeld.alloc _ hHeld.below.size
            clear hK K
            (try simp only [Act.put, List.setIfInBounds_toArray, List.set_cons_zero, List.set_cons_succ])
            refine wpAnyH_ready (rs := [10]) (by kernel_rfl) (by simp) ?_
            refine AllReadyH.cons (o := { dst := some 38, op := Op.call { callee := Callee.builtin Builtin.append, args := #[Operand.tmp 28, Operand.tmp 37], argTypes := #[79, 79] }, type := 79, pos := "text.go:20", after := #[{ on := 0, ground := Ground.data }, { on := 9, ground := Ground.data }, { on := 7, ground := Ground.chain }], guard := none }) rfl (fun K hK => ?_) AllReadyH.nil
            refine step_append_lies _ (by rfl) _ _ _ (by rfl) w2.heap.size 9 i0 (.string ⟨#[]⟩) 1 16 Tryz.underlying79 hi hz0 hz1 hz2 rfl (by decide) _ _ _ (by rfl) (O1.out.keep (below_new _ _)) ⟨_, 0, none⟩ 1 1 [.string (s ++ ⟨#[58]⟩ ++ s3)] (by rfl) rfl ?c1 ?c2 (by decide) ?c4 ?c5 ?c6 _ rfl ?_
            case c1 => exact World.news_of_block HX9.out
            case c2 => intro u hu; simp at hu; subst hu; rfl
            case c4 => unfold maxLen; omega
            case c5 => omega
            case c6 => exact hHeld.below.size
            intro g cap w7 hown hgrow hat hlt7
            have O7 := Lib.hid (OwnS.app hown HE.out)
            have F7 := Lib.hid (hHeld.grown hgrow (fun g hg => by have := OL.out g hg; exact ⟨this.1, by omega, by omega⟩) hHeld.below.size)
            clear hown hgrow hat hlt7
            refine hK.out _ _ ?_ (fun hHeld => ?_)
            · exact F7.out
            clear hK K
            (try simp only [Act.put, List.setIfInBounds_toArray, List.set_cons_zero, List.set_cons_succ])
            refine wpAnyH_take (i := 11) (oi := { dst := some 5, op := Op.assign (Operand.tmp 38), type := 79, pos := "text.go:20", after := #[{ on := 10, ground := Ground.data }, { on := 10, ground := Ground.chain }, { on := 0, ground := Ground.phase }, { on := 1, ground := Ground.phase }, { on := 2, ground := Ground.phase }, { on := 3, ground := Ground.phase }, { on := 4, ground := Ground.phase }, { on := 5, ground := Ground.phase }, { on := 6, ground := Ground.phase }, { on := 7, ground := Ground.phase }, { on := 8, ground := Ground.phase }, { on := 9, ground := Ground.phase }, { on := 10, ground := Ground.phase }], guard := none }) (v := ?_) rfl (by kernel_rfl) (by kernel_rfl) (by kernel_rfl) (fun _ _ _ h => h) (Or.inl ⟨by rfl, ?_⟩) (by assumption) ?_
            rotate_left
            · intro w hSw; (try dsimp only at hSw); have hq0 := hSw.name; have hq1 := hSw.bun.cell (k := k) (by omega); rw [HQ.out] at hq1; go_simp; try with_reducible rfl
            (try simp only [Act.put, List.setIfInBounds_toArray, List.set_cons_zero, List.set_cons_succ])
            refine wpAnyH_done (by kernel_rfl) ?_ _
            clear O1 HF HX9 IT
            rw [HG0.out] at O7
            go_wp2
            go_roundw
            case rel => exact ⟨k + 1, by omega, by go_num, O7, Lib.hid F7.out.bun, Lib.hid F7.out.below⟩
            case measure => simp [intOf]; omega
          · have hd0 : decide (0 < (q : Int)) = false := decide_eq_false (by omega)
            have HG := MC.elsK_skip (l := L) (b := xs) (k := k) (by rw [HQ.out]; omega)
            have O3 : Hid (OwnS (wr.alloc (.cells #[.string (str p.name), .int .i64 p.supply, .int .i64 p.reserve, .int .i64 p.points, .int .i64 p.group] 71)) w2.heap.size u5 (MC.elsK L xs (k + 1))) := Lib.hid (by rw [HG]; exact HO.out.keep (below_new wr _))
            have N3 := Lib.hid (HN.out.alloc (.cells #[.string (str p.name), .int .i64 p.supply, .int .i64 p.reserve, .int .i64 p.points, .int .i64 p.group] 71))
            have D3 := Lib.hid (HD.out.trans ((below_new wr (.cells #[.string (str p.name), .int .i64 p.supply, .int .i64 p.reserve, .int .i64 p.points, .int .i64 p.group] 71)).mono HD.out.size))
            clear HG O1 HF IT HE
            obtain ⟨pn, ps, pr, pp, pg⟩ := p
            simp only at *
            generalize str pn = s at *
            go_wp2_with fail
            go_roundw
            case rel => exact ⟨k + 1, by omega, by go_num, O3, N3, D3⟩
            case measure => simp [intOf]; omega
        · obtain rfl : k = n := by omega
          have hsz := inK_short GL.out xs k
          have hj := MC.join_els L xs k
          have hel : (MC.elsK L xs k).length ≤ 6 := by unfold MC.elsK; rw [List.length_map]; have := MC.upK_len xs k; omega
          have hmap : ((MC.elsK L xs k).map str).map (fun x : ByteArray => x.data.toList) = MC.elsK L xs k := by
            rw [List.map_map]
            conv => rhs; rw [← List.map_id (MC.elsK L xs k)]
            exact List.map_congr_left fun x _ => str_data x
          rcases HO.out.2 with ⟨hv, h0⟩ | ⟨g, cap, cur, hv, hge, hh, hcl, hm, hsz2, ht⟩
          · subst hv
            have he : MC.elsK L xs k = [] := List.eq_nil_of_length_eq_zero h0
            rw [he] at hj
            have hin : MC.inK L xs k = [] := hj.symm
            rw [hin] at G
            have JN := Lib.hid (fun w' => join_none none 0 ⟨#[44]⟩ w')
            have hs0 : str ([] : List UInt8) = ⟨#[]⟩ := rfl
            rw [hs0] at G
            clear hsz hj hel hmap he hin h0
            go_wp2_with fail
            refine (JN.out _).mono ?_
            rintro e5 w5 ⟨rfl, hb⟩
            have B5 := Lib.hid (B2.out.trans ((HD.out.trans (hb.mono HD.out.size)).mono B2.out.size))
            clear hb
            go_wp2
            go_ret
            refine ⟨?_, B5.out⟩
            rw [HXS.out]
            exact G.out
          · subst hv
            have hgl : g < wr.heap.size := (World.ownsRow.lt HO.out g rfl).2
            have JS := join_some g 0 cap ((MC.elsK L xs k).map str) ⟨#[44]⟩ wr (fun j x hx => by
                have hx' := hx
                rw [List.getElem?_map] at hx
                obtain ⟨y, hy, rfl⟩ := Option.map_eq_some_iff.1 hx
                have := World.ownsRow.cells HO.out (g := g) rfl j (.string (str y)) (by rw [List.getElem?_map, hy]; rfl)
                rw [addr_add] at this
                exact this) hgl (by rw [List.length_map]; omega) (by rw [List.length_map]; exact hcl) (by rw [hmap]; rw [show (⟨#[44]⟩ : ByteArray).data.toList = [44] from rfl, hj]; omega)
            rw [hmap, show (⟨#[44]⟩ : ByteArray).data.toList = [44] from rfl, hj, List.length_map] at JS
            change Calls _ _ _ _ (Gives (.string (str (MC.inK L xs k))) wr) at JS
            have HJ := Lib.hid JS
            clear JS hsz hj hel hmap hh hm hsz2 ht
            have hss : (str (MC.inK L xs k)).size ≤ 90 := by rw [str_size]; have := inK_short GL.out xs k; omega
            generalize str (MC.inK L xs k) = sj at *
            clear HL H GL HOK PL
            go_wp2_with fail
            refine HJ.out.mono ?_
            rintro e5 w5 ⟨rfl, hb⟩
            have B5 := Lib.hid (B2.out.trans ((HD.out.trans (hb.mono HD.out.size)).mono B2.out.size))
            clear hb
            go_wp2
            go_ret
            refine ⟨?_, B5.out⟩
            rw [HXS.out]
            exact G.out
  · have hb0 : (MC.chkL L != 0) = true := bne_iff_ne.2 hg
    have G := Lib.hid (ret_str (show (⟨#[]⟩ : ByteArray) = str (MC.fmtL L [a, b, c, d, e, f]) by rw [fmt_no (fun hh => hg hh.1)]; rfl))
    clear hg
    generalize MC.chkL L = er at *
    go_enter Tryz.func17, Tryz.ntmps17
    go_wp2_with fail
    refine (CK.out _ HB.out).mono ?_
    rintro e1 w1 ⟨rfl, hb⟩
    have B1 := Lib.hid (HB.out.trans (hb.mono HB.out.size))
    clear hb
    go_wp2
    go_ret
    exact ⟨G.out, B1.out⟩
end Go.Proofs.YtcokplikmjegcaaGreatDoor
