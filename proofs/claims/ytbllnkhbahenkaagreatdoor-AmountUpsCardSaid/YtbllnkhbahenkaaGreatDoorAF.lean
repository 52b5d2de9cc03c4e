/- ABase, AShr, ASmall, AF, joined: no claim of its own. -/
import Derived.Test.YtbllnkhbahenkaaGreatDoorBase
import Derived.Test.YtbllnkhbahenkaaGreatDoorCmp
import Derived.Test.YtbllnkhbahenkaaGreatDoorAMath
import Derived.Lib.Small
namespace Go.Proofs.YtbllnkhbahenkaaGreatDoor
open Go.RowKit
theorem below_new (w : World) (o : Obj) : Below w.heap.size w (w.alloc o) := (Below.refl _ _).alloc (Nat.le_refl _) _
theorem heap_new (w : World) (o : Obj) : (w.alloc o).heap[w.heap.size]? = some o := Array.getElem?_push_size
/-- Block b holds the cells cs. -/
def Blk (w : World) (b : Nat) (cs : List Value) (t : TypeId) : Prop := w.heap[b]? = some (.cells cs.toArray t (0, 0))
section
variable {w w1 : World} {b : Nat} {cs : List Value} {t : TypeId}
theorem Blk.lt (h : Blk w b cs t) : b < w.heap.size := (Array.getElem?_eq_some_iff.1 h).1
theorem Blk.cell (h : Blk w b cs t) {i : Nat} {v : Value} (hv : cs[i]? = some v) : w.cell? ⟨b, i, none⟩ = some v := by
  have h' : w.heap[b]? = some (.cells cs.toArray t (0, 0)) := h
  rw [cell_of_row w b i _ _ _ h']; simpa using hv
theorem Blk.frozen (h : Blk w b cs t) (i : Nat) : w.frozen? ⟨b, i, none⟩ = false := by
  have h' : w.heap[b]? = some (.cells cs.toArray t (0, 0)) := h
  simp [World.frozen?, h']
theorem Blk.keep (h : Blk w b cs t) (hb : Below w.heap.size w w1) : Blk w1 b cs t := (hb.block b h.lt).trans h
theorem Blk.drewN (h : Blk w b cs t) (q : Nat) : Blk (w.drewN q) b cs t := h
theorem Blk.drew (h : Blk w b cs t) : Blk w.drew b cs t := h
theorem Blk.alloc (h : Blk w b cs t) (o : Obj) : Blk (w.alloc o) b cs t := h.keep (below_new _ _)
theorem Blk.new (w : World) (cs : Array Value) (t : TypeId) : Blk (w.alloc (.cells cs t)) w.heap.size cs.toList t := heap_new w _
theorem Blk.set (h : Blk w b cs t) (i : Nat) (v : Value) : Blk (w.setCell ⟨b, i, none⟩ v) b (cs.set i v) t := by
  have h' : w.heap[b]? = some (.cells cs.toArray t (0, 0)) := h
  have := heap_setCell_same w b i _ _ v h'
  unfold Blk; rw [this]; simp
theorem Blk.other (h : Blk w b cs t) {g : Nat} (hne : b ≠ g) (i : Nat) (v : Value) : Blk (w.setCell ⟨g, i, none⟩ v) b cs t :=
  ((grown_set w g i v).block b h.lt (by intro e; injection e with e; exact hne e)).trans h
end
/-- A slice of integers of 64 bits that reads as ws. -/
structure Wts (w : World) (A : Option Addr) (n c : Nat) (ws : List Int) : Prop where
  reads : Reads w w.heap.size 1 A n (ws.map (Value.int .i64))
  len : ws.length = n
  cap : n ≤ c
  fewW : n ≤ 40
section
variable {w w' : World} {A : Option Addr} {n c : Nat} {ws : List Int}
theorem Wts.at_ (h : Wts w A n c ws) {k : Nat} (hk : k < n) : ∃ ad, A = some ad ∧ ad.block < w.heap.size ∧ w.cell? (ad.add k) = some (.int .i64 (ws.getD k 0)) := by
  obtain ⟨ad, u, e, hb, hx, hc⟩ := h.reads.at_ hk
  refine ⟨ad, e, hb, ?_⟩
  have hl : k < ws.length := by rw [h.len]; exact hk
  rw [List.getElem?_map, List.getElem?_eq_getElem hl] at hx
  injection hx with hx
  rw [hc, ← hx]
  simp [List.getD_eq_getElem?_getD, hl]
theorem Wts.keep (h : Wts w A n c ws) (hb : Below w.heap.size w w') : Wts w' A n c ws := ⟨(h.reads.below hb).more hb.size, h.len, h.cap, h.fewW⟩
end
/-- What Check answers. -/
def chk (v : Int) : Int := if 0 ≤ v ∧ v ≤ 1000000 then 0 else 4
theorem chk_ok {v : Int} (h0 : 0 ≤ v) (h1 : v ≤ 1000000) : chk v = 0 := if_pos ⟨h0, h1⟩
theorem chk_bad {v : Int} (h : v < 0 ∨ 1000000 < v) : chk v = 4 := if_neg (by omega)
set_option maxRecDepth 100000 in
theorem check_any (v : Int) (w : World) : Calls Tryz.prog 36 #[.int .i64 v] w fun e w' => e = .returned (.int .i64 (chk v)) ∧ w = w' := by
  have P := fun h => Lib.hid (chk_ok (v := v) h)
  have Q := Lib.hid (chk_bad (v := v))
  by_cases h1 : v < 0
  · clear P
    go_enter Tryz.func36, Tryz.ntmps36
    go_wp2
    go_ret
    exact ⟨by rw [Q.out (.inl h1)]; rfl, rfl⟩
  · by_cases h2 : v ≤ 1000000
    · have e := P (by omega)
      clear P Q
      go_enter Tryz.func36, Tryz.ntmps36
      go_wp2
      go_ret
      exact ⟨by rw [e.out h2]; rfl, rfl⟩
    · clear P
      go_enter Tryz.func36, Tryz.ntmps36
      go_wp2
      go_ret
      exact ⟨by rw [Q.out (.inr (by omega))]; rfl, rfl⟩
/-- The sum of the first k. -/
def okW (x : Int) : Bool := decide (0 ≤ x) && decide (x ≤ 1000000)
def sumR (ws : List Int) : Int × Int := if ws.all okW = true then (if ws.sum = 0 then (0, 6) else (ws.sum, 0)) else (0, 4)
/-- The first k weights are amounts of sum s. -/
structure SumIn (ws : List Int) (k : Nat) (s : Int) : Prop where
  ok : (ws.take k).all okW = true
  sum : s = (ws.take k).sum
  lo : 0 ≤ s
  hi : s ≤ 1000000 * k
theorem SumIn.zero (ws : List Int) : SumIn ws 0 0 := ⟨by simp, by simp, by omega, by omega⟩
theorem SumIn.next {ws : List Int} {k : Nat} {s x : Int} (h : SumIn ws k s) (hk : k < ws.length) (hx : ws.getD k 0 = x) (h0 : 0 ≤ x) (h1 : x ≤ 1000000) : SumIn ws (k + 1) (s + x) := by
  have e : ws[k] = x := by rw [← hx]; simp [List.getD_eq_getElem?_getD, hk]
  refine ⟨?_, ?_, by have := h.lo; omega, by have := h.hi; omega⟩
  · rw [List.take_succ_eq_append_getElem hk, List.all_append, h.ok, e]; simp [okW, h0, h1]
  · rw [List.take_succ_eq_append_getElem hk, List.sum_append, ← h.sum, e]; simp
theorem sumR_bad {ws : List Int} {k : Nat} {x : Int} (hk : k < ws.length) (hx : ws.getD k 0 = x) (hb : ¬ (0 ≤ x ∧ x ≤ 1000000)) : sumR ws = (0, 4) := by
  have e : ws[k] = x := by rw [← hx]; simp [List.getD_eq_getElem?_getD, hk]
  have : ¬ ws.all okW = true := by
    intro h
    rw [List.all_eq_true] at h
    have := h ws[k] (List.getElem_mem hk)
    rw [e] at this
    simp [okW] at this
    omega
  unfold sumR; rw [if_neg this]
theorem SumIn.fin {ws : List Int} {k : Nat} {s : Int} (h : SumIn ws k s) (hk : k = ws.length) : sumR ws = if s = 0 then (0, 6) else (s, 0) := by
  have e : ws.take k = ws := by rw [hk]; exact List.take_length
  have h1 := h.ok; have h2 := h.sum
  rw [e] at h1 h2
  unfold sumR; rw [if_pos h1, ← h2]
set_option maxRecDepth 100000 in
set_option maxHeartbeats 1000000 in
theorem sumOf_any (A : Option Addr) (n c : Nat) (ws : List Int) (w : World) (h : Wts w A n c ws) :
    Calls Tryz.prog 66 #[.slice A n c] w fun e w' => e = .returned (.tuple #[.int .i64 (sumR ws).1, .int .i64 (sumR ws).2]) ∧ w = w' := by
  have hc := h.cap
  have hn := h.fewW
  have H := Lib.hid h
  have HL := Lib.hid h.len
  clear h
  have I0 := Lib.hid (SumIn.zero ws)
  go_enter Tryz.func66, Tryz.ntmps66
  go_wp2
  go_loop [4, 10] (fun s i => ∃ (k : Nat) (z : Int), k ≤ n ∧ i = .int .i64 k ∧ s = .int .i64 z ∧ 0 ≤ z ∧ z ≤ 1000000 * k ∧ Hid (SumIn ws k z)) (fun _ i => n - (intOf i).toNat)
  case atStart => exact ⟨0, 0, by omega, by go_num, by go_num, by omega, by omega, I0⟩
  case round =>
    obtain ⟨k, z, hk, rfl, rfl, hz0, hz1, hi⟩ := hrel
    clear I0
    by_cases hlt : k < n
    · obtain ⟨ad, rfl, hb, hcell⟩ := H.out.at_ hlt
      obtain ⟨x, hx⟩ : ∃ x, ws.getD k 0 = x := ⟨_, rfl⟩
      rw [hx] at hcell
      have CK := Lib.hid (fun W => check_any x W)
      by_cases hok : 0 ≤ x ∧ x ≤ 1000000
      · obtain ⟨x0, x1⟩ := hok
        have I1 : Hid (SumIn ws (k + 1) (z + x)) := Lib.hid (hi.out.next (by rw [HL.out]; exact hlt) hx x0 x1)
        rw [chk_ok x0 x1] at CK
        have e1 : IntKind.i64.wrap (z + x) = z + x := IntWalk.i64_in _ (by omega)
        clear hx hi hb
        go_wp2_with (go_at_call 36; refine (CK.out _).mono ?_; rintro e w' ⟨rfl, rfl⟩)
        go_round
        case rel => exact ⟨k + 1, z + x, by omega, by go_num, by go_num, by omega, by omega, I1⟩
        case measure => simp [intOf]; omega
      · have F : Hid (sumR ws = (0, 4)) := Lib.hid (sumR_bad (by rw [HL.out]; exact hlt) hx hok)
        rw [chk_bad (by omega)] at CK
        clear hx hi hb hok
        go_wp2_with (go_at_call 36; refine (CK.out _).mono ?_; rintro e w' ⟨rfl, rfl⟩)
        go_ret2
        exact ⟨by rw [F.out]; rfl, rfl⟩
    · have F : Hid (sumR ws = if z = 0 then (0, 6) else (z, 0)) := Lib.hid (hi.out.fin (by rw [HL.out]; omega))
      obtain rfl : k = n := by omega
      clear hi
      by_cases h0 : z = 0
      · subst h0
        go_wp2
        go_ret2
        exact ⟨by rw [F.out]; rfl, rfl⟩
      · have hz : (z == 0) = false := beq_eq_false_iff_ne.2 h0
        have F2 : Hid (sumR ws = (z, 0)) := Lib.hid (by rw [F.out, if_neg h0])
        clear F h0
        go_wp2
        go_ret2
        exact ⟨by rw [F2.out]; rfl, rfl⟩
end Go.Proofs.YtbllnkhbahenkaaGreatDoor
namespace Go.Proofs.YtbllnkhbahenkaaGreatDoor
open MA
def wN (ws : List Int) (i : Nat) : Nat := (ws.getD i 0).toNat
theorem all_at {ws : List Int} (h : ws.all okW = true) {i : Nat} (hi : i < ws.length) : 0 ≤ ws[i] ∧ ws[i] ≤ 1000000 := by
  have := List.all_eq_true.1 h _ (List.getElem_mem hi)
  simpa [okW] using this
theorem getD_at {ws : List Int} {i : Nat} (hi : i < ws.length) : ws.getD i 0 = ws[i] := by simp [List.getD_eq_getElem?_getD, hi]
theorem wN_cast {ws : List Int} (h : ws.all okW = true) {i : Nat} (hi : i < ws.length) : (wN ws i : Int) = ws.getD i 0 := by
  have := all_at h hi
  unfold wN; rw [getD_at hi]; omega
theorem wN_le {ws : List Int} (h : ws.all okW = true) (i : Nat) : wN ws i ≤ 1000000 := by
  rcases Nat.lt_or_ge i ws.length with hi | hi
  · have := all_at h hi
    unfold wN; rw [getD_at hi]; omega
  · unfold wN; rw [List.getD_eq_getElem?_getD, List.getElem?_eq_none hi]; decide
theorem S_sum {ws : List Int} (h : ws.all okW = true) : ∀ k, k ≤ ws.length → ((S (wN ws) k : Nat) : Int) = (ws.take k).sum
  | 0, _ => by simp [S]
  | k + 1, hk => by
    have hk' : k < ws.length := hk
    simp only [S]
    have e := wN_cast h hk'
    rw [List.take_succ_eq_append_getElem hk', List.sum_append, ← S_sum h k (by omega)]
    rw [getD_at hk'] at e
    push_cast
    simp; omega
/-- The weights are amounts, not all 0; the total is an amount. -/
structure ShareIn (t : Int) (ws : List Int) : Prop where
  t0 : 0 ≤ t
  t1 : t ≤ 1000000
  ok : ws.all okW = true
  ne : ws.sum ≠ 0
section
variable {t : Int} {ws : List Int}
theorem ShareIn.sumN (h : ShareIn t ws) : S (wN ws) ws.length = ws.sum.toNat ∧ 0 ≤ ws.sum := by
  have := S_sum h.ok ws.length (Nat.le_refl _)
  rw [List.take_length] at this
  omega
theorem ShareIn.div (h : ShareIn t ws) : Div t.toNat (wN ws) ws.length ws.sum.toNat := ⟨h.sumN.1, by have := h.sumN.2; have := h.ne; omega⟩
theorem ShareIn.sum_le (h : ShareIn t ws) (hl : ws.length ≤ 40) : ws.sum.toNat ≤ 40000000 := by
  rw [← h.sumN.1]
  have := S_le (f := wN ws) (g := fun _ => 1000000) ws.length fun i _ => wN_le h.ok i
  rw [S_const] at this
  omega
theorem ShareIn.pos (h : ShareIn t ws) : 0 < ws.length := by
  rcases Nat.eq_zero_or_pos ws.length with e | e
  · exact absurd (by rw [List.eq_nil_of_length_eq_zero e]; rfl) h.ne
  · exact e
end
/-- The parts once j units have been given on; the parts. -/
def partsAt (t : Int) (ws : List Int) (j : Nat) : List Int := (List.range ws.length).map fun i => (MA.partAt t.toNat (wN ws) ws.length ws.sum.toNat j i : Int)
def parts (t : Int) (ws : List Int) : List Int := partsAt t ws (miss t.toNat (wN ws) ws.length ws.sum.toNat)
theorem partsAt_len (t : Int) (ws : List Int) (j : Nat) : (partsAt t ws j).length = ws.length := by simp [partsAt]
theorem partsAt_get (t : Int) (ws : List Int) (j : Nat) {i : Nat} (hi : i < ws.length) : (partsAt t ws j).getD i 0 = (MA.partAt t.toNat (wN ws) ws.length ws.sum.toNat j i : Int) := by
  simp [partsAt, List.getD_eq_getElem?_getD, hi]
/-- What Share answers. -/
def shareR (t : Int) (ws : List Int) : List Int × Int := if chk t = 0 then (if (sumR ws).2 = 0 then (parts t ws, 0) else ([], (sumR ws).2)) else ([], 4)
theorem shareR_bad {t : Int} (ws : List Int) (h : chk t ≠ 0) : shareR t ws = ([], 4) := by unfold shareR; rw [if_neg h]
theorem shareR_sum {t : Int} {ws : List Int} (h : chk t = 0) {e : Int} (he : (sumR ws).2 = e) (hne : e ≠ 0) : shareR t ws = ([], e) := by
  unfold shareR; rw [if_pos h, if_neg (by rw [he]; exact hne), he]
theorem shareR_ok {t : Int} {ws : List Int} (h : ShareIn t ws) : shareR t ws = (parts t ws, 0) := by
  have h1 : sumR ws = (ws.sum, 0) := by unfold sumR; rw [if_pos h.ok, if_neg h.ne]
  unfold shareR; rw [if_pos (chk_ok h.t0 h.t1), if_pos (by rw [h1])]
theorem sumR_zero {ws : List Int} (h : (sumR ws).2 = 0) : ws.all okW = true ∧ ws.sum ≠ 0 ∧ sumR ws = (ws.sum, 0) := by
  unfold sumR at h ⊢
  split at h
  · rename_i ha
    rw [if_pos ha]
    split at h
    · exact absurd h (by decide)
    · rename_i hs
      exact ⟨ha, hs, by rw [if_neg hs]⟩
  · exact absurd h (by decide)
theorem sumR_snd (ws : List Int) : (sumR ws).2 = 0 ∨ (sumR ws).2 = 4 ∨ (sumR ws).2 = 6 := by
  unfold sumR; split
  · split
    · exact .inr (.inr rfl)
    · exact .inl rfl
  · exact .inr (.inl rfl)
theorem shareIn_of {t : Int} {ws : List Int} (h : chk t = 0) (hs : (sumR ws).2 = 0) : ShareIn t ws := by
  obtain ⟨h1, h2, _⟩ := sumR_zero hs
  unfold chk at h
  split at h
  · rename_i hh; exact ⟨hh.1, hh.2, h1, h2⟩
  · exact absurd h (by decide)
end Go.Proofs.YtbllnkhbahenkaaGreatDoor
namespace Go.Proofs.YtbllnkhbahenkaaGreatDoor
open Go.RowKit MA
set_option maxRecDepth 100000 in
set_option maxHeartbeats 400000 in
theorem same5_yes (A B : Option Addr) (n c m d : Nat) (ws : List Int) (w : World) (h : Wts w A n c ws) (h' : Wts w B m d ws) :
    Calls Tryz.prog 34 #[.slice A n c, .slice B m d] w (Gives (.bool true) w) := by
  obtain rfl : n = m := h.len.symm.trans h'.len
  have hr := h.fewW
  have hc := h.cap
  have H := Lib.hid h
  have H' := Lib.hid h'
  clear h h'
  go_enter Tryz.func34, Tryz.ntmps34
  go_wp2
  go_loopw [5] (fun i wr => ∃ k q : Nat, k ≤ n ∧ i = .int .i64 k ∧ wr = w.drewN q) (fun i _ => n - (intOf i).toNat)
  case atStart => exact ⟨0, 0, by omega, rfl, rfl⟩
  case round =>
    obtain ⟨k, q, hk, rfl, rfl⟩ := hrel
    by_cases hlt : k < n
    · obtain ⟨ad, rfl, hb, hcell⟩ := H.out.at_ hlt
      obtain ⟨ad', rfl, hb', hcell'⟩ := H'.out.at_ hlt
      generalize ws.getD k 0 = x at *
      clear hb hb'
      go_wp2
      go_quiet (fail)
      go_wp2
      go_roundw
      case rel => exact ⟨k + 1, _, by omega, by go_num, rfl⟩
      case measure => simp [intOf]; omega
    · go_wp2
      go_ret
      exact ⟨rfl, by first | exact (Below.refl _ _) | exact below_drewN (Below.refl _ _) _⟩
def chkd (v : Int) : Int := if chk v = 0 then v else 0
set_option maxRecDepth 100000 in
theorem checked_any (v : Int) (w : World) : Calls Tryz.prog 39 #[.int .i64 v] w fun e w' => e = .returned (.tuple #[.int .i64 (chkd v), .int .i64 (chk v)]) ∧ w = w' := by
  have CK := Lib.hid (fun W => check_any v W)
  by_cases h : chk v = 0
  · have E : Hid (chkd v = v) := Lib.hid (if_pos h)
    rw [h] at CK ⊢
    go_enter Tryz.func39, Tryz.ntmps39
    go_wp2_with (go_at_call 36; refine (CK.out _).mono ?_; rintro e w' ⟨rfl, rfl⟩)
    go_ret2
    exact ⟨by rw [E.out]; rfl, rfl⟩
  · have E : Hid (chkd v = 0) := Lib.hid (if_neg h)
    generalize chk v = q at *
    go_enter Tryz.func39, Tryz.ntmps39
    go_wp2_with (go_at_call 36; refine (CK.out _).mono ?_; rintro e w' ⟨rfl, rfl⟩)
    go_ret2
    exact ⟨by rw [E.out]; rfl, rfl⟩
set_option maxRecDepth 100000 in
theorem isNaN64_any (x : Int) (w : World) : Calls Tryz.prog 123 #[.int .i64 x] w fun e w' => e = .returned (.bool false) ∧ w = w' := by
  go_enter Tryz.func123, Tryz.ntmps123
  go_wp2
  go_ret
  exact ⟨by simp, rfl⟩
set_option maxRecDepth 100000 in
theorem isNaN_any (x : Int) (w : World) : Calls Tryz.prog 124 #[.int .i64 x] w fun e w' => e = .returned (.bool false) ∧ w = w' := by
  go_enter Tryz.func124, Tryz.ntmps124
  go_wp2
  go_ret
  exact ⟨by simp, rfl⟩
def cmp3 (x y : Int) : Int := if x < y then -1 else if y < x then 1 else 0
set_option maxRecDepth 100000 in
set_option maxHeartbeats 400000 in
theorem cmp64_any (x y : Int) (w : World) : Calls Tryz.prog 105 #[.int .i64 x, .int .i64 y] w fun e w' => e = .returned (.int .i64 (cmp3 x y)) ∧ w = w' := by
  by_cases h1 : x < y
  · have E : Hid (cmp3 x y = -1) := Lib.hid (if_pos h1)
    go_enter Tryz.func105, Tryz.ntmps105
    go_wp2_with (go_at_call 123; refine (isNaN64_any _ _).mono ?_; rintro e w' ⟨rfl, rfl⟩)
    go_ret
    exact ⟨by rw [E.out]; rfl, rfl⟩
  · by_cases h2 : y < x
    · have E : Hid (cmp3 x y = 1) := Lib.hid (by unfold cmp3; rw [if_neg h1, if_pos h2])
      go_enter Tryz.func105, Tryz.ntmps105
      go_wp2_with (go_at_call 123; refine (isNaN64_any _ _).mono ?_; rintro e w' ⟨rfl, rfl⟩)
      go_ret
      exact ⟨by rw [E.out]; rfl, rfl⟩
    · have E : Hid (cmp3 x y = 0) := Lib.hid (by unfold cmp3; rw [if_neg h1, if_neg h2])
      go_enter Tryz.func105, Tryz.ntmps105
      go_wp2_with (go_at_call 123; refine (isNaN64_any _ _).mono ?_; rintro e w' ⟨rfl, rfl⟩)
      go_ret
      exact ⟨by rw [E.out]; rfl, rfl⟩
set_option maxRecDepth 100000 in
set_option maxHeartbeats 400000 in
theorem cmpInt_any (x y : Int) (w : World) : Calls Tryz.prog 106 #[.int .i64 x, .int .i64 y] w fun e w' => e = .returned (.int .i64 (cmp3 x y)) ∧ w = w' := by
  by_cases h1 : x < y
  · have E : Hid (cmp3 x y = -1) := Lib.hid (if_pos h1)
    go_enter Tryz.func106, Tryz.ntmps106
    go_wp2_with (go_at_call 124; refine (isNaN_any _ _).mono ?_; rintro e w' ⟨rfl, rfl⟩)
    go_ret
    exact ⟨by rw [E.out]; rfl, rfl⟩
  · by_cases h2 : y < x
    · have E : Hid (cmp3 x y = 1) := Lib.hid (by unfold cmp3; rw [if_neg h1, if_pos h2])
      go_enter Tryz.func106, Tryz.ntmps106
      go_wp2_with (go_at_call 124; refine (isNaN_any _ _).mono ?_; rintro e w' ⟨rfl, rfl⟩)
      go_ret
      exact ⟨by rw [E.out]; rfl, rfl⟩
    · have E : Hid (cmp3 x y = 0) := Lib.hid (by unfold cmp3; rw [if_neg h1, if_neg h2])
      go_enter Tryz.func106, Tryz.ntmps106
      go_wp2_with (go_at_call 124; refine (isNaN_any _ _).mono ?_; rintro e w' ⟨rfl, rfl⟩)
      go_ret
      exact ⟨by rw [E.out]; rfl, rfl⟩
/-- The first that is not 0. -/
def or2 (a b : Int) : Int := if a = 0 then b else a
set_option maxRecDepth 100000 in
set_option maxHeartbeats 1000000 in
theorem or_any (g : Nat) (a b : Int) (w : World) (h0 : w.cell? ⟨g, 0, none⟩ = some (.int .i64 a)) (h1 : w.cell? ⟨g, 1, none⟩ = some (.int .i64 b)) :
    Calls Tryz.prog 104 #[.slice (some ⟨g, 0, none⟩) 2 2] w fun e w' => e = .returned (.int .i64 (or2 a b)) ∧ w = w' := by
  by_cases ha : a = 0
  · by_cases hb : b = 0
    · subst ha; subst hb
      go_enter Tryz.func104, Tryz.ntmps104
      go_wp2
      go_loop [8] (fun i => ∃ k : Nat, k ≤ 2 ∧ i = .int .i64 k) (fun i => 2 - (intOf i).toNat)
      case atStart => exact ⟨0, by omega, rfl⟩
      case round =>
        obtain ⟨k, hk, rfl⟩ := hrel
        by_cases hlt : k < 2
        · have hc : w.cell? ⟨g, k, none⟩ = some (.int .i64 0) := by
            match k, hlt with
            | 0, _ => exact h0
            | 1, _ => exact h1
          go_wp2
          go_round
          case rel => exact ⟨k + 1, by omega, by go_num⟩
          case measure => simp [intOf]; omega
        · go_wp2
          go_ret
          exact ⟨rfl, rfl⟩
    · subst ha
      have E : Hid (or2 0 b = b) := Lib.hid (if_pos rfl)
      have hb' : (b == 0) = false := by simpa using hb
      go_enter Tryz.func104, Tryz.ntmps104
      go_wp2
      go_loop [8] (fun i => ∃ k : Nat, k ≤ 1 ∧ i = .int .i64 k) (fun i => 2 - (intOf i).toNat)
      case atStart => exact ⟨0, by omega, rfl⟩
      case round =>
        obtain ⟨k, hk, rfl⟩ := hrel
        by_cases hlt : k < 1
        · obtain rfl : k = 0 := by omega
          go_wp2
          go_round
          case rel => exact ⟨1, by omega, by go_num⟩
          case measure => simp [intOf]
        · obtain rfl : k = 1 := by omega
          go_wp2
          go_ret
          exact ⟨by rw [E.out]; rfl, rfl⟩
  · have E : Hid (or2 a b = a) := Lib.hid (if_neg ha)
    have ha' : (a == 0) = false := by simpa using ha
    go_enter Tryz.func104, Tryz.ntmps104
    go_wp2
    go_loop [8] (fun i => i = .int .i64 (0 : Nat)) (fun i => 2 - (intOf i).toNat)
    case atStart => rfl
    case round =>
      obtain rfl := hrel
      go_wp2
      go_ret
      exact ⟨by rw [E.out]; rfl, rfl⟩
end Go.Proofs.YtbllnkhbahenkaaGreatDoor
namespace Go.Proofs.YtbllnkhbahenkaaGreatDoor
open Go.RowKit MA
/-- Cells that hold the integers f 0, .., f (n - 1). -/
def F (f : Nat → Int) (n : Nat) : List Value := (List.range n).map fun i => Value.int .i64 (f i)
theorem F_len (f : Nat → Int) (n : Nat) : (F f n).length = n := by simp [F]
theorem F_at (f : Nat → Int) {n i : Nat} (h : i < n) : (F f n)[i]? = some (.int .i64 (f i)) := by simp [F, h]
theorem F_congr {f g : Nat → Int} {n : Nat} (h : ∀ i, i < n → f i = g i) : F f n = F g n := by
  unfold F
  apply List.map_congr_left
  intro i hi
  rw [h i (List.mem_range.1 hi)]
theorem F_set (f g : Nat → Int) {n k : Nat} (v : Int) (h : ∀ i, i < n → g i = if i = k then v else f i) : (F f n).set k (.int .i64 v) = F g n := by
  apply List.ext_getElem?
  intro i
  rw [List.getElem?_set]
  by_cases hi : i < n
  · rw [F_at g hi, h i hi, F_len]
    by_cases e : k = i
    · subst e; simp [hi]
    · rw [if_neg e, if_neg (fun e' => e e'.symm), F_at f hi]
  · rw [List.getElem?_eq_none (by rw [F_len]; omega : (F g n).length ≤ i), List.getElem?_eq_none (by rw [F_len]; omega : (F f n).length ≤ i), F_len]
    by_cases e : k = i
    · simp [e, hi]
    · simp [e]
theorem Wts.of_blk {w : World} {b n c : Nat} {f : Nat → Int} {t : TypeId} (h : Blk w b (F f n) t) (hn : n ≤ 40) (hc : n ≤ c) : Wts w (some ⟨b, 0, none⟩) n c ((List.range n).map f) := by
  refine ⟨⟨by simp, fun _ => ⟨_, rfl, h.lt, fun j u hu => ?_⟩⟩, by simp, hc, hn⟩
  have e : (List.map (Value.int .i64) ((List.range n).map f)) = F f n := by simp [F]
  rw [e] at hu
  have : (⟨b, 0, none⟩ : Addr).add j = ⟨b, j, none⟩ := by unfold Addr.add; split <;> simp_all
  rw [this]
  exact h.cell hu
theorem Blk.keepG {w w1 : World} {b : Nat} {cs : List Value} {t : TypeId} (h : Blk w b cs t) {g : Nat} (hg : w.grownBy w1 (some g)) (hne : b ≠ g) : Blk w1 b cs t :=
  (hg.block b h.lt (by intro e; injection e with e; exact hne e)).trans h
/-- A list of integers and an error handed back. -/
def GivesL (l : List Int) (er : Int) (w : World) (e : Ending) (w' : World) : Prop := ∃ A n c, e = .returned (.tuple #[.slice A n c, .int .i64 er]) ∧ Wts w' A n c l ∧ Below w.heap.size w w'
theorem GivesL.nil (er : Int) (w w' : World) (hb : Below w.heap.size w w') : GivesL [] er w (.returned (.tuple #[.slice none 0 0, .int .i64 er])) w' :=
  ⟨none, 0, 0, rfl, ⟨⟨by simp, fun h => absurd h (by decide)⟩, rfl, Nat.le_refl _, by decide⟩, hb⟩
theorem F_eq (f : Nat → Int) (n : Nat) : F f n = ((List.range n).map f).map (Value.int .i64) := by simp [F]
end Go.Proofs.YtbllnkhbahenkaaGreatDoor
