/- Words for memory and the small functions of amount: no claim of its own. -/
import Derived.Test.YtbllnkhbahenkaaDoorBase
import Derived.Test.YtbllnkhbahenkaaDoorCmp
import Derived.Test.YtbllnkhbahenkaaDoorMathA
import Derived.Lib.Small
namespace Go.Proofs.YtbllnkhbahenkaaDoor
open Go.RowKit
theorem below_new (w : World) (o : Obj) : Below w.heap.size w (w.alloc o) := (Below.refl _ _).alloc (Nat.le_refl _) _
theorem heap_new (w : World) (o : Obj) : (w.alloc o).heap[w.heap.size]? = some o := Array.getElem?_push_size
/-- Block b holds the cells cs. -/
def Blk (w : World) (b : Nat) (cs : List Value) (t : TypeId) : Prop := w.heap[b]? = some (.cells cs.toArray t (0, 0))
section
variable {w w1 : World} {b : Nat} {cs : List Value} {t : TypeId}
theorem Blk.lt (h : Blk w b cs t) : b < w.heap.size := (Array.getElem?_eq_some_iff.1 h).1
theorem Blk.cell (h : Blk w b cs t) {i : Nat} {v : Value} (hv : cs[i]? = some v) : w.cell? ⟨b, i, none⟩ = some v := by
  have h' : w.heap[b]? = some (.cells cs.toArray t (0, 0)) := h
  rw [cell_of_row w b i _ _ _ h']; simpa using hv
theorem Blk.frozen (h : Blk w b cs t) (i : Nat) : w.frozen? ⟨b, i, none⟩ = false := by
  have h' : w.heap[b]? = some (.cells cs.toArray t (0, 0)) := h
  simp [World.frozen?, h']
theorem Blk.keep (h : Blk w b cs t) (hb : Below w.heap.size w w1) : Blk w1 b cs t := (hb.block b h.lt).trans h
theorem Blk.drewN (h : Blk w b cs t) (q : Nat) : Blk (w.drewN q) b cs t := h
theorem Blk.drew (h : Blk w b cs t) : Blk w.drew b cs t := h
theorem Blk.alloc (h : Blk w b cs t) (o : Obj) : Blk (w.alloc o) b cs t := h.keep (below_new _ _)
theorem Blk.new (w : World) (cs : Array Value) (t : TypeId) : Blk (w.alloc (.cells cs t)) w.heap.size cs.toList t := heap_new w _
theorem Blk.set (h : Blk w b cs t) (i : Nat) (v : Value) : Blk (w.setCell ⟨b, i, none⟩ v) b (cs.set i v) t := by
  have h' : w.heap[b]? = some (.cells cs.toArray t (0, 0)) := h
  have := heap_setCell_same w b i _ _ v h'
  unfold Blk; rw [this]; simp
theorem Blk.other (h : Blk w b cs t) {g : Nat} (hne : b ≠ g) (i : Nat) (v : Value) : Blk (w.setCell ⟨g, i, none⟩ v) b cs t :=
  ((grown_set w g i v).block b h.lt (by intro e; injection e with e; exact hne e)).trans h
end
/-- A slice of integers of 64 bits that reads as ws. -/
structure Wts (w : World) (A : Option Addr) (n c : Nat) (ws : List Int) : Prop where
  reads : Reads w w.heap.size 1 A n (ws.map (Value.int .i64))
  len : ws.length = n
  cap : n ≤ c
  fewW : n ≤ 40
section
variable {w w' : World} {A : Option Addr} {n c : Nat} {ws : List Int}
theorem Wts.at_ (h : Wts w A n c ws) {k : Nat} (hk : k < n) : ∃ ad, A = some ad ∧ ad.block < w.heap.size ∧ w.cell? (ad.add k) = some (.int .i64 (ws.getD k 0)) := by
  obtain ⟨ad, u, e, hb, hx, hc⟩ := h.reads.at_ hk
  refine ⟨ad, e, hb, ?_⟩
  have hl : k < ws.length := by rw [h.len]; exact hk
  rw [List.getElem?_map, List.getElem?_eq_getElem hl] at hx
  injection hx with hx
  rw [hc, ← hx]
  simp [List.getD_eq_getElem?_getD, hl]
theorem Wts.keep (h : Wts w A n c ws) (hb : Below w.heap.size w w') : Wts w' A n c ws := ⟨(h.reads.below hb).more hb.size, h.len, h.cap, h.fewW⟩
end
/-- What Check answers. -/
def chk (v : Int) : Int := if 0 ≤ v ∧ v ≤ 1000000 then 0 else 4
theorem chk_ok {v : Int} (h0 : 0 ≤ v) (h1 : v ≤ 1000000) : chk v = 0 := if_pos ⟨h0, h1⟩
theorem chk_bad {v : Int} (h : v < 0 ∨ 1000000 < v) : chk v = 4 := if_neg (by omega)
set_option maxRecDepth 100000 in
theorem check_any (v : Int) (w : World) : Calls Tryd.prog 15 #[.int .i64 v] w fun e w' => e = .returned (.int .i64 (chk v)) ∧ w = w' := by
  have P := fun h => Lib.hid (chk_ok (v := v) h)
  have Q := Lib.hid (chk_bad (v := v))
  by_cases h1 : v < 0
  · clear P
    go_enter Tryd.func15, Tryd.ntmps15
    go_wp2
    go_ret
    exact ⟨by rw [Q.out (.inl h1)]; rfl, rfl⟩
  · by_cases h2 : v ≤ 1000000
    · have e := P (by omega)
      clear P Q
      go_enter Tryd.func15, Tryd.ntmps15
      go_wp2
      go_ret
      exact ⟨by rw [e.out h2]; rfl, rfl⟩
    · clear P
      go_enter Tryd.func15, Tryd.ntmps15
      go_wp2
      go_ret
      exact ⟨by rw [Q.out (.inr (by omega))]; rfl, rfl⟩
set_option maxRecDepth 100000 in
theorem rcheck_any (v : Int) (w : World) : Calls Tryd.prog 16 #[.int .i64 v] w fun e w' => e = .returned (.int .i64 (chk v)) ∧ w = w' := by
  have P := fun h => Lib.hid (chk_ok (v := v) h)
  have Q := Lib.hid (chk_bad (v := v))
  by_cases h1 : v < 0
  · clear P
    go_enter Tryd.func16, Tryd.ntmps16
    go_wp2
    go_ret
    exact ⟨by rw [Q.out (.inl h1)]; rfl, rfl⟩
  · by_cases h2 : v ≤ 1000000
    · have e := P (by omega)
      clear P Q
      go_enter Tryd.func16, Tryd.ntmps16
      go_wp2
      go_ret
      exact ⟨by rw [e.out h2]; rfl, rfl⟩
    · clear P
      go_enter Tryd.func16, Tryd.ntmps16
      go_wp2
      go_ret
      exact ⟨by rw [Q.out (.inr (by omega))]; rfl, rfl⟩
/-- The sum of the first k. -/
def okW (x : Int) : Bool := decide (0 ≤ x) && decide (x ≤ 1000000)
def sumR (ws : List Int) : Int × Int := if ws.all okW = true then (if ws.sum = 0 then (0, 6) else (ws.sum, 0)) else (0, 4)
/-- The first k weights are amounts of sum s. -/
structure SumIn (ws : List Int) (k : Nat) (s : Int) : Prop where
  ok : (ws.take k).all okW = true
  sum : s = (ws.take k).sum
  lo : 0 ≤ s
  hi : s ≤ 1000000 * k
theorem SumIn.zero (ws : List Int) : SumIn ws 0 0 := ⟨by simp, by simp, by omega, by omega⟩
theorem SumIn.next {ws : List Int} {k : Nat} {s x : Int} (h : SumIn ws k s) (hk : k < ws.length) (hx : ws.getD k 0 = x) (h0 : 0 ≤ x) (h1 : x ≤ 1000000) : SumIn ws (k + 1) (s + x) := by
  have e : ws[k] = x := by rw [← hx]; simp [List.getD_eq_getElem?_getD, hk]
  refine ⟨?_, ?_, by have := h.lo; omega, by have := h.hi; omega⟩
  · rw [List.take_succ_eq_append_getElem hk, List.all_append, h.ok, e]; simp [okW, h0, h1]
  · rw [List.take_succ_eq_append_getElem hk, List.sum_append, ← h.sum, e]; simp
theorem sumR_bad {ws : List Int} {k : Nat} {x : Int} (hk : k < ws.length) (hx : ws.getD k 0 = x) (hb : ¬ (0 ≤ x ∧ x ≤ 1000000)) : sumR ws = (0, 4) := by
  have e : ws[k] = x := by rw [← hx]; simp [List.getD_eq_getElem?_getD, hk]
  have : ¬ ws.all okW = true := by
    intro h
    rw [List.all_eq_true] at h
    have := h ws[k] (List.getElem_mem hk)
    rw [e] at this
    simp [okW] at this
    omega
  unfold sumR; rw [if_neg this]
theorem SumIn.fin {ws : List Int} {k : Nat} {s : Int} (h : SumIn ws k s) (hk : k = ws.length) : sumR ws = if s = 0 then (0, 6) else (s, 0) := by
  have e : ws.take k = ws := by rw [hk]; exact List.take_length
  have h1 := h.ok; have h2 := h.sum
  rw [e] at h1 h2
  unfold sumR; rw [if_pos h1, ← h2]
set_option maxRecDepth 100000 in
set_option maxHeartbeats 1000000 in
theorem sumOf_any (A : Option Addr) (n c : Nat) (ws : List Int) (w : World) (h : Wts w A n c ws) :
    Calls Tryd.prog 19 #[.slice A n c] w fun e w' => e = .returned (.tuple #[.int .i64 (sumR ws).1, .int .i64 (sumR ws).2]) ∧ w = w' := by
  have hc := h.cap
  have hn := h.fewW
  have H := Lib.hid h
  have HL := Lib.hid h.len
  clear h
  have I0 := Lib.hid (SumIn.zero ws)
  go_enter Tryd.func19, Tryd.ntmps19
  go_wp2
  go_loop [4, 10] (fun s i => ∃ (k : Nat) (z : Int), k ≤ n ∧ i = .int .i64 k ∧ s = .int .i64 z ∧ 0 ≤ z ∧ z ≤ 1000000 * k ∧ Hid (SumIn ws k z)) (fun _ i => n - (intOf i).toNat)
  case atStart => exact ⟨0, 0, by omega, by go_num, by go_num, by omega, by omega, I0⟩
  case round =>
    obtain ⟨k, z, hk, rfl, rfl, hz0, hz1, hi⟩ := hrel
    clear I0
    by_cases hlt : k < n
    · obtain ⟨ad, rfl, hb, hcell⟩ := H.out.at_ hlt
      obtain ⟨x, hx⟩ : ∃ x, ws.getD k 0 = x := ⟨_, rfl⟩
      rw [hx] at hcell
      have CK := Lib.hid (fun W => check_any x W)
      by_cases hok : 0 ≤ x ∧ x ≤ 1000000
      · obtain ⟨x0, x1⟩ := hok
        have I1 : Hid (SumIn ws (k + 1) (z + x)) := Lib.hid (hi.out.next (by rw [HL.out]; exact hlt) hx x0 x1)
        rw [chk_ok x0 x1] at CK
        have e1 : IntKind.i64.wrap (z + x) = z + x := IntWalk.i64_in _ (by omega)
        clear hx hi hb
        go_wp2_with (go_at_call 15; refine (CK.out _).mono ?_; rintro e w' ⟨rfl, rfl⟩)
        go_round
        case rel => exact ⟨k + 1, z + x, by omega, by go_num, by go_num, by omega, by omega, I1⟩
        case measure => simp [intOf]; omega
      · have F : Hid (sumR ws = (0, 4)) := Lib.hid (sumR_bad (by rw [HL.out]; exact hlt) hx hok)
        rw [chk_bad (by omega)] at CK
        clear hx hi hb hok
        go_wp2_with (go_at_call 15; refine (CK.out _).mono ?_; rintro e w' ⟨rfl, rfl⟩)
        go_ret2
        exact ⟨by rw [F.out]; rfl, rfl⟩
    · have F : Hid (sumR ws = if z = 0 then (0, 6) else (z, 0)) := Lib.hid (hi.out.fin (by rw [HL.out]; omega))
      obtain rfl : k = n := by omega
      clear hi
      by_cases h0 : z = 0
      · subst h0
        go_wp2
        go_ret2
        exact ⟨by rw [F.out]; rfl, rfl⟩
      · have hz : (z == 0) = false := beq_eq_false_iff_ne.2 h0
        have F2 : Hid (sumR ws = (z, 0)) := Lib.hid (by rw [F.out, if_neg h0])
        clear F h0
        go_wp2
        go_ret2
        exact ⟨by rw [F2.out]; rfl, rfl⟩
end Go.Proofs.YtbllnkhbahenkaaDoor
