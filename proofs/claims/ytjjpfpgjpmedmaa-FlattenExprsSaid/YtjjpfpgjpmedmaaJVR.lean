/- VROr0, VROr, joined: no claim of its own. -/
import Derived.Test.YtjjpfpgjpmedmaaVRef0
import Derived.Test.YtjjpfpgjpmedmaaVTab
import Derived.Test.YtjjpfpgjpmedmaaBRows
import Derived.Test.YtjjpfpgjpmedmaaJK
import Derived.Deep.DeepCutAuto
import Derived.Test.YtjjpfpgjpmedmaaJGH
import Derived.Test.YtjjpfpgjpmedmaaJVV
namespace Go.Proofs.Ytjjpfpgjpmedmaa
open Go.RowKit
/-- A block of n bundles, the first i of which are the first i bundles within b. -/
def PB (w : World) (B n : Nat) (b : List Int) (i : Nat) : Prop := ∃ cs : Array Value, w.heap[B]? = some (.cells cs 24 (0, 0)) ∧ cs.size = n * 6 ∧ (∀ i', i' < i → ∀ j, j < 6 → cs[i' * 6 + j]? = some (.int .i64 (MB.at_ (MB.D b 6 i') j))) ∧ (∀ k, k < n * 6 → ∃ z, cs[k]? = some (.int .i64 z))
theorem PB.lt {w : World} {B n : Nat} {b : List Int} {i : Nat} (h : PB w B n b i) : B < w.heap.size := by obtain ⟨cs, h, _⟩ := h; exact (Array.getElem?_eq_some_iff.1 h).1
theorem PB.keep {w w' : World} {B n : Nat} {b : List Int} {i : Nat} (h : PB w B n b i) (hb : Below w.heap.size w w') : PB w' B n b i := by
  have hl := h.lt
  obtain ⟨cs, h, r⟩ := h
  exact ⟨cs, (hb.block B hl).trans h, r⟩
theorem PB.six {w : World} {B n : Nat} {b : List Int} {i : Nat} (h : PB w B n b i) (hi : i < n) : (∀ k, k < 6 → ∃ z, w.cell? ⟨B, i * 6 + k, none⟩ = some (.int .i64 z)) ∧ ∀ k, w.frozen? ⟨B, k, none⟩ = false := by
  obtain ⟨cs, h, hs, _, hz⟩ := h
  refine ⟨fun k hk => ?_, fun k => by simp [World.frozen?, h]⟩
  obtain ⟨z, e⟩ := hz (i * 6 + k) (by omega)
  exact ⟨z, (cell_of_row _ _ _ _ _ _ h).trans e⟩
theorem PB.put {w : World} {B n : Nat} {b : List Int} {i : Nat} (h : PB w B n b i) (hi : i < n) {y0 y1 y2 y3 y4 y5 : Int} (hy : MB.D b 6 i = [y0, y1, y2, y3, y4, y5]) : PB (sets w B (i * 6) [.int .i64 y0, .int .i64 y1, .int .i64 y2, .int .i64 y3, .int .i64 y4, .int .i64 y5]) B n b (i + 1) := by
  obtain ⟨cs, h, hs, h1, hz⟩ := h
  obtain ⟨vs, hvs⟩ : ∃ vs : List Value, vs = [.int .i64 y0, .int .i64 y1, .int .i64 y2, .int .i64 y3, .int .i64 y4, .int .i64 y5] := ⟨_, rfl⟩
  have hvl : vs.length = 6 := by rw [hvs]; rfl
  have hva : ∀ j, j < 6 → vs[j]? = some (.int .i64 (MB.at_ (MB.D b 6 i) j)) := fun j hj => by
    rw [hvs, hy]
    have : j = 0 ∨ j = 1 ∨ j = 2 ∨ j = 3 ∨ j = 4 ∨ j = 5 := by omega
    rcases this with rfl | rfl | rfl | rfl | rfl | rfl <;> rfl
  rw [← hvs]
  refine ⟨putL cs (i * 6) vs, sets_row vs w (i * 6) cs h, by rw [putL_size, hs], fun i' hi' j hj => ?_, fun k hk => ?_⟩
  · by_cases e : i' = i
    · subst e
      rw [putL_at vs cs (i' * 6) j (by omega) (by omega)]
      exact hva j hj
    · rw [putL_low vs cs (i * 6) _ (by omega)]
      exact h1 i' (by omega) j hj
  · by_cases e : k < i * 6
    · rw [putL_low vs cs (i * 6) _ e]; exact hz k hk
    · by_cases e2 : k < i * 6 + 6
      · have := putL_at vs cs (i * 6) (k - i * 6) (by omega) (by omega)
        rw [show i * 6 + (k - i * 6) = k by omega] at this
        rw [this]
        exact ⟨_, hva (k - i * 6) (by omega)⟩
      · rw [putL_high vs cs (i * 6) k (by omega)]; exact hz k hk
where
  putL_high : ∀ (vs : List Value) (cur : Array Value) (o j : Nat), o + vs.length ≤ j → (putL cur o vs)[j]? = cur[j]?
  | [], _, _, _, _ => rfl
  | v :: r, cur, o, j, h => by
    rw [List.length_cons] at h
    rw [putL, putL_high r _ _ _ (by omega), Array.getElem?_setIfInBounds, if_neg (by omega)]
theorem PB.of_own {w : World} {B g n : Nat} {b : List Int} (h : w.ownsRow B 24 6 (.slice (some ⟨g, 0, none⟩) n n) n (madeCells (Value.agg #[.int .i64 0, .int .i64 0, .int .i64 0, .int .i64 0, .int .i64 0, .int .i64 0]).cells (n * 6)).toList) : PB w g n b 0 := by
  rcases h.2 with ⟨e, _⟩ | ⟨g', cap, cur, e, hB, hh, _, _, hs, ht⟩
  · cases e
  · cases e
    rw [List.take_of_length_le (by simp [hs])] at ht
    refine ⟨cur, hh, by simpa using hs, fun i' hi' => absurd hi' (Nat.not_lt_zero _), fun k hk => ⟨0, ?_⟩⟩
    rw [← Array.getElem?_toList, ht, Array.getElem?_toList]
    show (madeCells #[Value.int .i64 0, .int .i64 0, .int .i64 0, .int .i64 0, .int .i64 0, .int .i64 0] (n * 6))[k]? = _
    unfold madeCells
    rw [Array.getElem?_map, Array.getElem?_range, if_pos hk]
    have : k % 6 = 0 ∨ k % 6 = 1 ∨ k % 6 = 2 ∨ k % 6 = 3 ∨ k % 6 = 4 ∨ k % 6 = 5 := by omega
    show some (#[Value.int .i64 0, .int .i64 0, .int .i64 0, .int .i64 0, .int .i64 0, .int .i64 0][k % 6]!) = _
    rcases this with e | e | e | e | e | e <;> rw [e] <;> rfl
/-- All of them: a slice that reads as the bundles within b. -/
theorem PB.rws {w : World} {B n : Nat} {b : List Int} (h : PB w B n b n) (hn : n = VV.cnt b) (hc : n ≤ 100000) : Rws w (some ⟨B, 0, none⟩) n n (VV.all b) := by
  have hl := h.lt
  obtain ⟨cs, h, hs, h1, _⟩ := h
  have hall : ∀ r ∈ VV.all b, r.length = 6 := fun r hr => by
    unfold VV.all MB.row at hr
    obtain ⟨i, _, rfl⟩ := List.mem_map.1 hr
    rw [MB.pad_full (MB.D_length _ _ _)]; exact MB.D_length _ _ _
  have hlen : (VV.all b).length = n := by unfold VV.all; rw [MB.row_length, hn]
  refine ⟨⟨by rw [cellsRs_length hall, hlen], fun _ => ⟨_, rfl, hl, fun j u hu => ?_⟩⟩, hlen, Nat.le_refl _, hc, hall⟩
  rw [addr_add, Nat.zero_add, cell_of_row _ _ _ _ _ _ h]
  have hj : j < n * 6 := by
    have := (List.getElem?_eq_some_iff.1 hu).1
    rwa [cellsRs_length hall, hlen] at this
  have e := cellsRs_at hall (j / 6) (j % 6) (by rw [hlen]; omega) (by omega)
  rw [show j / 6 * 6 + j % 6 = j by omega] at e
  rw [← hu, e]
  have h2 := h1 (j / 6) (by omega) (j % 6) (by omega)
  rw [show j / 6 * 6 + j % 6 = j by omega] at h2
  rw [h2]
  have hr : (VV.all b)[j / 6]'(by rw [hlen]; omega) = MB.D b 6 (j / 6) := by
    have := MB.row_at (s := b) (i := 6) (n := VV.cnt b) (k := j / 6) (by rw [← hn]; omega)
    unfold VV.all
    rw [List.getElem?_eq_getElem (by rw [MB.row_length, ← hn]; omega)] at this
    rw [MB.pad_full (MB.D_length _ _ _)] at this
    exact Option.some.inj this
  rw [hr]
  show _ = (cellsR (MB.D b 6 (j / 6)))[j % 6]?
  obtain ⟨y0, y1, y2, y3, y4, y5, hy⟩ := Go.Proofs.Ytjjpfpgjpmedmaa.six (MB.D_length b 6 (j / 6))
  rw [hy]
  have : j % 6 = 0 ∨ j % 6 = 1 ∨ j % 6 = 2 ∨ j % 6 = 3 ∨ j % 6 = 4 ∨ j % 6 = 5 := by omega
  rcases this with e | e | e | e | e | e <;> rw [e] <;> rfl
end Go.Proofs.Ytjjpfpgjpmedmaa
namespace Go.Proofs.Ytjjpfpgjpmedmaa
open Go.RowKit
attribute [local go_sem] Oper.semAt_some
/-- What the loops have written so far. -/
def orG (f g : List Int → Int) (b : List Int) (i j : Nat) (k : Nat) : Int := if k < i then VV.orF f g (VV.at6 b k) else if k = i then VV.orP f g b i j else 0
/-- All that lies, below N0: the supply, both tables, all bundles, the table to be. -/
structure RO (w : World) (Bx By Bo n N0 : Nat) (Ap : Option Addr) (b : List Int) (f g : List Int → Int) (go : Nat → Int) (X : World) : Prop where
  below : Below w.heap.size w X
  box : BB X w.heap.size 24 b
  xs : Blk X Bx (F (fun i => f (VV.at6 b i)) n) 2
  ys : Blk X By (F (fun i => g (VV.at6 b i)) n) 2
  ps : Rws X Ap n n (VV.all b)
  out : Blk X Bo (F go n) 2
  bo : w.heap.size < Bo ∧ Bo < N0
  bx : Bx < w.heap.size ∧ By < w.heap.size
  pa : ∀ ad, Ap = some ad → ad.block < N0 ∧ ad.block ≠ Bo
  nx : N0 ≤ X.heap.size
section
variable {w X Y : World} {Bx By Bo n N0 : Nat} {Ap : Option Addr} {b : List Int} {f g : List Int → Int} {go go' : Nat → Int}
theorem RO.same (h : RO w Bx By Bo n N0 Ap b f g go X) (e : ∀ k, k < n → go k = go' k) : RO w Bx By Bo n N0 Ap b f g go' X :=
  ⟨h.below, h.box, h.xs, h.ys, h.ps, by rw [← F_congr e]; exact h.out, h.bo, h.bx, h.pa, h.nx⟩
theorem RO.keep (h : RO w Bx By Bo n N0 Ap b f g go X) (hb : Below X.heap.size X Y) : RO w Bx By Bo n N0 Ap b f g go Y :=
  ⟨h.below.trans (hb.mono h.below.size), h.box.keep hb h.box.lt, h.xs.keep hb, h.ys.keep hb, h.ps.keep hb, h.out.keep hb, h.bo, h.bx, h.pa, Nat.le_trans h.nx hb.size⟩
/-- A store into another block, laid later. -/
theorem RO.far (h : RO w Bx By Bo n N0 Ap b f g go X) {Br : Nat} (hg : X.grownBy Y (some Br)) (hr : N0 ≤ Br) : RO w Bx By Bo n N0 Ap b f g go Y := by
  have hw := h.bo
  have hnx := h.nx
  have far : ∀ k, k < N0 → Y.heap[k]? = X.heap[k]? := fun k h1 => hg.block k (by omega) (by simp; omega)
  refine ⟨h.below.grown hg h.below.size (fun k e => by injection e with e; omega), ⟨(far _ (by omega)).trans h.box.1, h.box.2⟩, h.xs.same (far _ (by have := h.bx; omega)), h.ys.same (far _ (by have := h.bx; omega)), ?_, h.out.same (far _ hw.2), h.bo, h.bx, h.pa, Nat.le_trans hnx hg.size⟩
  refine ⟨⟨h.ps.reads.1, fun hn => ?_⟩, h.ps.len, h.ps.cap, h.ps.few, h.ps.all⟩
  obtain ⟨ad, e, h1, h2⟩ := h.ps.reads.2 hn
  have := h.pa ad e
  exact ⟨ad, e, Nat.lt_of_lt_of_le h1 hg.size, fun j u hu => (cell_same (by rw [block_of_add]; exact far _ this.1)).trans (h2 j u hu)⟩
/-- A store into the table. -/
theorem RO.put (h : RO w Bx By Bo n N0 Ap b f g go X) {i : Nat} {v : Int} (hgo : ∀ k, k < n → go' k = if k = i then v else go k) : RO w Bx By Bo n N0 Ap b f g go' (X.setCell ⟨Bo, i, none⟩ (.int .i64 v)) := by
  have hw := h.bo
  have hbx := h.bx
  have far : ∀ k, k ≠ Bo → (X.setCell ⟨Bo, i, none⟩ (.int .i64 v)).heap[k]? = X.heap[k]? := fun k h1 => Below.heap_setCell _ _ _ k h1
  refine ⟨h.below.setCell (p := ⟨Bo, i, none⟩) (by show w.heap.size ≤ Bo; omega) _, h.box.other _ (by omega), h.xs.other (by omega) _ _, h.ys.other (by omega) _ _, ?_, ?_, h.bo, h.bx, h.pa, by rw [World.size_setCell]; exact h.nx⟩
  · refine ⟨⟨h.ps.reads.1, fun hn => ?_⟩, h.ps.len, h.ps.cap, h.ps.few, h.ps.all⟩
    obtain ⟨ad, e, h1, h2⟩ := h.ps.reads.2 hn
    have := h.pa ad e
    exact ⟨ad, e, by rw [World.size_setCell]; exact h1, fun j u hu => (cell_same (by rw [block_of_add]; exact far _ this.2)).trans (h2 j u hu)⟩
  · have := h.out.set i (.int .i64 v)
    rwa [F_set go go' v hgo] at this
end
theorem nest6 (w : World) (g o : Nat) (u0 u1 u2 u3 u4 u5 : Value) : ((((((w.setCell ⟨g, o, none⟩ u0).setCell ⟨g, o + 1, none⟩ u1).setCell ⟨g, o + 2, none⟩ u2).setCell ⟨g, o + 3, none⟩ u3).setCell ⟨g, o + 4, none⟩ u4).setCell ⟨g, o + 5, none⟩ u5) = sets w g o [u0, u1, u2, u3, u4, u5] := rfl
theorem grown_sets6 {w : World} {g : Nat} (vs : List Value) (o : Nat) : w.grownBy (sets w g o vs) (some g) := by
  obtain ⟨e1, e2, e3, e4⟩ := sets_same (g := g) vs w o
  exact ⟨e1, e2, e3, by rw [e4]; exact Nat.le_refl _, fun k _ hk => sets_far (fun e => hk (by rw [e])) vs w o⟩
theorem all_get {b c : List Int} {i : Nat} (h : (VV.all b)[i]? = some c) : i < VV.cnt b ∧ c = VV.at6 b i := by
  have hl := (List.getElem?_eq_some_iff.1 h).1
  have e : (VV.all b).length = VV.cnt b := by unfold VV.all; exact MB.row_length _ _ _
  rw [e] at hl
  refine ⟨hl, ?_⟩
  unfold VV.all at h
  rw [MB.row_at hl] at h
  exact (Option.some.inj h).symm
theorem set_grown (X : World) (g k : Nat) (v : Value) : X.grownBy (X.setCell ⟨g, k, none⟩ v) (some g) :=
  ⟨rfl, rfl, rfl, by rw [World.size_setCell]; exact Nat.le_refl _, fun j _ hj => Below.heap_setCell X ⟨g, k, none⟩ v j (fun e => hj (by rw [e]))⟩
theorem orP_bound {b : List Int} (hb : VV.Bu b) {f g : List Int → Int} (hf : ∀ x, VV.Bu x → 0 ≤ f x ∧ f x ≤ 100000000) (hg : ∀ x, VV.Bu x → 0 ≤ g x ∧ g x ≤ 100000000) (i j : Nat) : 0 ≤ VV.orP f g b i j ∧ VV.orP f g b i j ≤ 200000000 := by
  refine ⟨VV.supL_nonneg _, VV.supL_le (by decide) fun v hv => ?_⟩
  obtain ⟨q, hq, rfl⟩ := List.mem_map.1 hv
  obtain ⟨_, h2⟩ := List.mem_filter.1 hq
  have h3 := hf _ (VV.at6_bu hb q).1
  have h4 := hg _ (VV.Bu.sub (VV.leB_iff.1 h2))
  omega
theorem sub_put {c d z : List Int} {k : Nat} (_hc : c.length = 6) (hz : z.length = 6) (hk : k < 6) (h : ∀ j, j < 6 → MB.at_ z j = if j < k then MB.at_ c j - MB.at_ d j else MB.at_ c j) : ∀ j, j < 6 → MB.at_ (z.set k (MB.at_ c k - MB.at_ d k)) j = if j < k + 1 then MB.at_ c j - MB.at_ d j else MB.at_ c j := fun j hj => by
  by_cases e : j = k
  · rw [e, at_set_same _ (by rw [hz]; exact hk), if_pos (by omega)]
  · rw [at_set_other _ e, h j hj]
    by_cases h1 : j < k
    · rw [if_pos h1, if_pos (by omega)]
    · rw [if_neg h1, if_neg (by omega)]
set_option maxRecDepth 100000 in
set_option maxHeartbeats 8000000 in
theorem ror_any (q0 q1 q2 q3 q4 q5 : Int) (f g : List Int → Int) (Bx By n : Nat) (w : World) (hok : MB.okB [q0, q1, q2, q3, q4, q5] = true) (hn : n = VV.cnt [q0, q1, q2, q3, q4, q5]) (hx : Blk w Bx (F (fun i => f (VV.at6 [q0, q1, q2, q3, q4, q5] i)) n) 2) (hy : Blk w By (F (fun i => g (VV.at6 [q0, q1, q2, q3, q4, q5] i)) n) 2)
    (hf : ∀ x, VV.Bu x → 0 ≤ f x ∧ f x ≤ 100000000) (hg : ∀ x, VV.Bu x → 0 ≤ g x ∧ g x ≤ 100000000) :
    Calls Try.prog 69 #[.agg #[.int .i64 q0, .int .i64 q1, .int .i64 q2, .int .i64 q3, .int .i64 q4, .int .i64 q5], .slice (some ⟨Bx, 0, none⟩) n n, .slice (some ⟨By, 0, none⟩) n n] w (GivesB (fun i => VV.orF f g (VV.at6 [q0, q1, q2, q3, q4, q5] i)) n w) := by
  have CC := Lib.hid (fun w' => count13_any q0 q1 q2 q3 q4 q5 hok w')
  have hcs := P_small hok rfl (Nat.le_refl 6)
  rw [show MB.P [q0, q1, q2, q3, q4, q5] 6 = n from hn.symm] at CC hcs
  have HCN := Lib.hid hn
  have HOK := Lib.hid hok
  have HBU := Lib.hid (VV.bu_of_ok (b := [q0, q1, q2, q3, q4, q5]) rfl hok)
  have HFF := Lib.hid hf
  have HGG := Lib.hid hg
  have hn0 : 0 < n := by rw [hn]; exact VV.cnt_pos _
  have B0 := Lib.hid (below_new w (.cells #[.int .i64 q0, .int .i64 q1, .int .i64 q2, .int .i64 q3, .int .i64 q4, .int .i64 q5] 24))
  have S0 := Lib.hid (BB.new w 24 q0 q1 q2 q3 q4 q5)
  have X0 := Lib.hid (hx.keep B0.out)
  have Y0 := Lib.hid (hy.keep B0.out)
  have hbx := hx.lt
  have hby := hy.lt
  clear hx hy hf hg hok hn
  obtain ⟨i0, hi0, hz0, hz1, hz2⟩ := info_parts infoI64
  obtain ⟨i1, hi1, hy0, hy1, hy2⟩ := info_parts infoBun
  go_enter Try.func69, Try.ntmps69
  go_upto_region 1 with (fail)
  generalize w.alloc (.cells #[.int .i64 q0, .int .i64 q1, .int .i64 q2, .int .i64 q3, .int .i64 q4, .int .i64 q5] 24) = w1 at *
  obtain ⟨r0, r1, r2, r3, r4, r5⟩ := cells6 S0.out
  go_wp2_with fail
  refine (CC.out _).mono ?_
  rintro ev w2 ⟨rfl, nb⟩
  have B2 := Lib.hid (B0.out.trans (nb.mono B0.out.size))
  have S2 := Lib.hid (S0.out.keep nb S0.out.lt)
  have X2 := Lib.hid (X0.out.keep nb)
  have Y2 := Lib.hid (Y0.out.keep nb)
  clear nb B0 S0 X0 Y0 r0 r1 r2 r3 r4 r5 CC
  obtain ⟨w3, hmk, hown, hg3⟩ := run_makeSlice_full (P := Try.prog) w2 w2.heap.size 64 2 i0 (.int .i64 0) 1 Try.underlying64 hi0 hz0 hz1 .i64 .i64 n (by omega) (by rw [hz2]; omega) (by unfold maxLen; omega) (Nat.le_refl _)
  have AR := Blk.of_own hown
  rw [zeros] at AR
  have O3 := Lib.hid AR
  have n3 : Below w2.heap.size w2 w3 := (Below.refl _ _).grown hg3 (Nat.le_refl _) (fun k e => by cases e)
  have B3 := Lib.hid (B2.out.trans (n3.mono B2.out.size))
  have S3 := Lib.hid (S2.out.keep n3 S2.out.lt)
  have X3 := Lib.hid (X2.out.keep n3)
  have Y3 := Lib.hid (Y2.out.keep n3)
  have hlt3 := AR.lt
  have hw23 : w.heap.size < w2.heap.size := S2.out.lt
  go_upto_region 3 with (fail)
  clear hmk hown hg3 AR n3 B2 S2 X2 Y2
  generalize w2.heap.size = Bo at *
  obtain ⟨w4, hmk, hown, hg4⟩ := run_makeSlice_full (P := Try.prog) w3 w3.heap.size 45 24 i1 (.agg #[.int .i64 0, .int .i64 0, .int .i64 0, .int .i64 0, .int .i64 0, .int .i64 0]) 6 Try.underlying45 hi1 hy0 hy1 .i64 .i64 n (by omega) (by rw [hy2]; omega) (by unfold maxLen; omega) (Nat.le_refl _)
  have P4 := Lib.hid (PB.of_own (b := [q0, q1, q2, q3, q4, q5]) hown)
  have n4 : Below w3.heap.size w3 w4 := (Below.refl _ _).grown hg4 (Nat.le_refl _) (fun k e => by cases e)
  have B4 := Lib.hid (B3.out.trans (n4.mono B3.out.size))
  have S4 := Lib.hid (S3.out.keep n4 S3.out.lt)
  have X4 := Lib.hid (X3.out.keep n4)
  have Y4 := Lib.hid (Y3.out.keep n4)
  have O4 := Lib.hid (O3.out.keep n4)
  have hw3b : Bo < w3.heap.size := O3.out.lt
  go_upto_region 4 with (fail)
  clear hmk hown hg4 n4 B3 S3 X3 Y3 O3 hlt3
  generalize w3.heap.size = Bp at *
  go_wp2_with fail
  go_loopw [10] (fun t wr => ∃ i : Nat, i ≤ n ∧ t = .int .i64 i ∧ Below w.heap.size w wr ∧ BB wr w.heap.size 24 [q0, q1, q2, q3, q4, q5] ∧ Blk wr Bx (F (fun i => f (VV.at6 [q0, q1, q2, q3, q4, q5] i)) n) 2 ∧ Blk wr By (F (fun i => g (VV.at6 [q0, q1, q2, q3, q4, q5] i)) n) 2 ∧ Blk wr Bo (F (fun _ => 0) n) 2 ∧ PB wr Bp n [q0, q1, q2, q3, q4, q5] i) (fun t _ => n - (intOf t).toNat)
  case atStart => exact ⟨0, Nat.zero_le _, rfl, B4.out, S4.out, X4.out, Y4.out, O4.out, P4.out⟩
  case round =>
    obtain ⟨i, hi, rfl, hb, hs, hx, hy, ho, hp⟩ := hrel
    have BR := Lib.hid hb
    have SR := Lib.hid hs
    have XR := Lib.hid hx
    have YR := Lib.hid hy
    have OR := Lib.hid ho
    have PR := Lib.hid hp
    clear hb hs hx hy ho hp B4 S4 X4 Y4 O4 P4
    by_cases hlt : i < n
    · have HA := Lib.hid (fun w' => at13_any q0 q1 q2 q3 q4 q5 i w' HOK.out (by have := HCN.out; show i < VV.cnt [q0, q1, q2, q3, q4, q5]; omega))
      obtain ⟨y0, y1, y2, y3, y4, y5, hy6⟩ := six (MB.D_length [q0, q1, q2, q3, q4, q5] 6 i)
      rw [hy6, aggB_lit] at HA
      have HY6 := Lib.hid hy6
      clear hy6
      obtain ⟨r0, r1, r2, r3, r4, r5⟩ := cells6 SR.out
      go_wp2_with fail
      refine (HA.out _).mono ?_
      rintro ev w5 ⟨rfl, nb⟩
      have B5 := Lib.hid (BR.out.trans (nb.mono BR.out.size))
      have S5 := Lib.hid (SR.out.keep nb SR.out.lt)
      have X5 := Lib.hid (XR.out.keep nb)
      have Y5 := Lib.hid (YR.out.keep nb)
      have O5 := Lib.hid (OR.out.keep nb)
      have P5 := Lib.hid (PR.out.keep nb)
      clear nb r0 r1 r2 r3 r4 r5 BR SR XR YR OR PR HA
      obtain ⟨hcell, hfz⟩ := P5.out.six hlt
      obtain ⟨z0, c0⟩ := hcell 0 (by decide)
      obtain ⟨z1, c1⟩ := hcell 1 (by decide)
      obtain ⟨z2, c2⟩ := hcell 2 (by decide)
      obtain ⟨z3, c3⟩ := hcell 3 (by decide)
      obtain ⟨z4, c4⟩ := hcell 4 (by decide)
      obtain ⟨z5, c5⟩ := hcell 5 (by decide)
      rw [Nat.add_zero] at c0
      have f0 := hfz (i * 6)
      have f1 := hfz (i * 6 + 1)
      have f2 := hfz (i * 6 + 2)
      have f3 := hfz (i * 6 + 3)
      have f4 := hfz (i * 6 + 4)
      have f5 := hfz (i * 6 + 5)
      clear hcell hfz
      go_wp2
      rw [nest6]
      have gs := grown_sets6 (w := w5) (g := Bp) [.int .i64 y0, .int .i64 y1, .int .i64 y2, .int .i64 y3, .int .i64 y4, .int .i64 y5] (i * 6)
      have P6 := Lib.hid (P5.out.put hlt HY6.out)
      obtain ⟨w6, hw6⟩ : ∃ w6, w6 = sets w5 Bp (i * 6) [.int .i64 y0, .int .i64 y1, .int .i64 y2, .int .i64 y3, .int .i64 y4, .int .i64 y5] := ⟨_, rfl⟩
      rw [← hw6] at gs P6 ⊢
      clear hw6 c0 c1 c2 c3 c4 c5 f0 f1 f2 f3 f4 f5
      go_roundw
      case rel => exact ⟨i + 1, hlt, by go_num, B5.out.grown gs B5.out.size (fun k e => by injection e with e; omega), ⟨(gs.block _ S5.out.lt (by simp; omega)).trans S5.out.1, S5.out.2⟩, X5.out.same (gs.block _ X5.out.lt (by simp; omega)), Y5.out.same (gs.block _ Y5.out.lt (by simp; omega)), O5.out.same (gs.block _ O5.out.lt (by simp; omega)), P6.out⟩
      case measure => simp [intOf]; omega
    · have hin : i = n := by omega
      rw [hin] at PR
      clear hin
      have I0 := Lib.hid (show RO w Bx By Bo n (Bp + 1) (some ⟨Bp, 0, none⟩) [q0, q1, q2, q3, q4, q5] f g (orG f g [q0, q1, q2, q3, q4, q5] 0 0) wr from
        ⟨BR.out, SR.out, XR.out, YR.out, PR.out.rws HCN.out (by omega), by rw [F_congr (f := orG f g [q0, q1, q2, q3, q4, q5] 0 0) (g := fun _ => 0) (fun k _ => by unfold orG; rw [if_neg (by omega)]; split <;> rfl)]; exact OR.out, by omega, ⟨hbx, hby⟩, fun ad e => by injection e with e; subst e; exact ⟨Nat.lt_succ_self _, by show Bp ≠ Bo; omega⟩, PR.out.lt⟩)
      obtain ⟨Ap, hAp⟩ : ∃ Ap : Option Addr, Ap = some ⟨Bp, 0, none⟩ := ⟨_, rfl⟩
      rw [← hAp] at I0 ⊢
      clear hAp BR SR XR YR OR PR
      generalize Bp + 1 = N0 at *
      go_wp2_with fail
      go_loopw [11] (fun t wr => ∃ i : Nat, i ≤ n ∧ t = .int .i64 i ∧ RO w Bx By Bo n N0 Ap [q0, q1, q2, q3, q4, q5] f g (orG f g [q0, q1, q2, q3, q4, q5] i 0) wr) (fun t _ => n - (intOf t).toNat)
      case atStart => exact ⟨0, Nat.zero_le _, rfl, I0.out⟩
      case round =>
        obtain ⟨wo, hwo⟩ : ∃ wo, wo = wr := ⟨_, rfl⟩
        obtain ⟨i, hi, rfl, hr⟩ := hrel
        have IR := Lib.hid hr
        clear hr I0 hwo wo
        by_cases hlt : i < n
        · obtain ⟨ad, c0, c1, c2, c3, c4, c5, rfl, hrow, hadl, e0, e1, e2, e3, e4, e5⟩ := IR.out.ps.at_ hlt
          have HCi := Lib.hid (all_get hrow).2
          clear hrow
          go_upto_region 12 with (fail)
          have nb := below_new wr (.cells #[.int .i64 c0, .int .i64 c1, .int .i64 c2, .int .i64 c3, .int .i64 c4, .int .i64 c5] 24)
          have C1 := Lib.hid (BB.new wr 24 c0 c1 c2 c3 c4 c5)
          have I1 := Lib.hid (IR.out.keep nb)
          have hcN : N0 ≤ wr.heap.size := IR.out.nx
          clear nb IR e0 e1 e2 e3 e4 e5 hadl
          generalize wr.alloc (.cells #[.int .i64 c0, .int .i64 c1, .int .i64 c2, .int .i64 c3, .int .i64 c4, .int .i64 c5] 24) = w12 at *
          generalize wr.heap.size = Bc at *
          have HCB := Lib.hid (show VV.Bu [c0, c1, c2, c3, c4, c5] ∧ VV.Le [c0, c1, c2, c3, c4, c5] [q0, q1, q2, q3, q4, q5] from by rw [HCi.out]; exact VV.at6_bu HBU.out i)
          go_wp2_with fail
          go_loopw [13] (fun t wr => ∃ j : Nat, j ≤ i + 1 ∧ t = .int .i64 j ∧ RO w Bx By Bo n N0 (some ad) [q0, q1, q2, q3, q4, q5] f g (orG f g [q0, q1, q2, q3, q4, q5] i j) wr ∧ BB wr Bc 24 [c0, c1, c2, c3, c4, c5]) (fun t _ => i + 1 - (intOf t).toNat)
          case atStart => exact ⟨0, Nat.zero_le _, rfl, I1.out, C1.out⟩
          case round =>
            obtain ⟨j, hj, rfl, hr, hc⟩ := hrel
            have IJ := Lib.hid hr
            have CJ := Lib.hid hc
            clear hr hc I1 C1
            by_cases hjl : j < i + 1
            · have hjn : j < n := by omega
              have hjd : decide ((j : Int) ≤ (i : Int)) = true := decide_eq_true (by omega)
              have hjd2 : decide (j ≤ i) = true := decide_eq_true (by omega)
              obtain ⟨ad2, d0, d1, d2, d3, d4, d5, had2, hrow, hadl, e0, e1, e2, e3, e4, e5⟩ := IJ.out.ps.at_ hjn
              have had3 : ad2 = ad := by injection had2 with e; exact e.symm
              rw [had3] at hadl e0 e1 e2 e3 e4 e5
              have HDj := Lib.hid (all_get hrow).2
              clear hrow had2 had3 ad2
              go_upto_region 16 with (fail)
              have nb := below_new wr (.cells #[.int .i64 d0, .int .i64 d1, .int .i64 d2, .int .i64 d3, .int .i64 d4, .int .i64 d5] 24)
              have D2 := Lib.hid (BB.new wr 24 d0 d1 d2 d3 d4 d5)
              have I2 := Lib.hid (IJ.out.keep nb)
              have C2 := Lib.hid (CJ.out.keep nb CJ.out.lt)
              have hdN : N0 ≤ wr.heap.size := IJ.out.nx
              have hcd : Bc < wr.heap.size := CJ.out.lt
              clear nb IJ CJ e0 e1 e2 e3 e4 e5 hadl
              generalize wr.alloc (.cells #[.int .i64 d0, .int .i64 d1, .int .i64 d2, .int .i64 d3, .int .i64 d4, .int .i64 d5] 24) = w16 at *
              generalize wr.heap.size = Bd at *
              have HDB := Lib.hid (show VV.Bu [d0, d1, d2, d3, d4, d5] ∧ VV.Le [d0, d1, d2, d3, d4, d5] [q0, q1, q2, q3, q4, q5] from by rw [HDj.out]; exact VV.at6_bu HBU.out j)
              have HW := Lib.hid (fun w' => rwithin13_any d0 d1 d2 d3 d4 d5 c0 c1 c2 c3 c4 c5 w')
              obtain ⟨r0, r1, r2, r3, r4, r5⟩ := cells6 D2.out
              obtain ⟨s0, s1, s2, s3, s4, s5⟩ := cells6 C2.out
              by_cases hw : MB.withinB [d0, d1, d2, d3, d4, d5] [c0, c1, c2, c3, c4, c5] 6 = true
              · rw [hw] at HW
                have HP := Lib.hid (VV.orP_yes (f := f) (g := g) (b := [q0, q1, q2, q3, q4, q5]) (i := i) (j := j) (by rw [← HCi.out, ← HDj.out]; exact hw))
                rw [← HCi.out, ← HDj.out] at HP
                have HLE := Lib.hid (VV.leB_iff.1 (show VV.leB [d0, d1, d2, d3, d4, d5] [c0, c1, c2, c3, c4, c5] = true from hw))
                clear hw
                go_wp2_with fail
                refine (HW.out _).mono ?_
                rintro ev w17 ⟨rfl, nb⟩
                have I3 := Lib.hid (I2.out.keep nb)
                have C3 := Lib.hid (C2.out.keep nb C2.out.lt)
                have D3 := Lib.hid (D2.out.keep nb D2.out.lt)
                clear nb I2 C2 D2 HW r0 r1 r2 r3 r4 r5 s0 s1 s2 s3 s4 s5
                obtain ⟨s0, s1, s2, s3, s4, s5⟩ := cells6 C3.out
                go_upto_region 18 with (fail)
                have nb := below_new w17 (.cells #[.int .i64 c0, .int .i64 c1, .int .i64 c2, .int .i64 c3, .int .i64 c4, .int .i64 c5] 24)
                have R4 := Lib.hid (BB.new w17 24 c0 c1 c2 c3 c4 c5)
                have I4 := Lib.hid (I3.out.keep nb)
                have C4 := Lib.hid (C3.out.keep nb C3.out.lt)
                have D4 := Lib.hid (D3.out.keep nb D3.out.lt)
                have hrN : N0 ≤ w17.heap.size := I3.out.nx
                have hdr : Bd < w17.heap.size := D3.out.lt
                clear nb I3 C3 D3 s0 s1 s2 s3 s4 s5
                generalize w17.alloc (.cells #[.int .i64 c0, .int .i64 c1, .int .i64 c2, .int .i64 c3, .int .i64 c4, .int .i64 c5] 24) = w18 at *
                generalize w17.heap.size = Br at *
                have HCA := Lib.hid (fun k (hk : k < 6) => (show 0 ≤ MB.at_ [c0, c1, c2, c3, c4, c5] k ∧ MB.at_ [c0, c1, c2, c3, c4, c5] k ≤ 4 from by
                  have h1 := HCB.out.1.pos k hk; have h2 := HCB.out.2 k hk; have h3 := okB_at HOK.out (k := k) (by simpa using hk); omega))
                have HDA := Lib.hid (fun k (hk : k < 6) => (show 0 ≤ MB.at_ [d0, d1, d2, d3, d4, d5] k ∧ MB.at_ [d0, d1, d2, d3, d4, d5] k ≤ 4 from by
                  have h1 := HDB.out.1.pos k hk; have h2 := HDB.out.2 k hk; have h3 := okB_at HOK.out (k := k) (by simpa using hk); omega))
                go_wp2_with fail
                go_loopw [16] (fun t wr => ∃ (k : Nat) (zs : List Int), k ≤ 6 ∧ t = .int .i64 k ∧ RO w Bx By Bo n N0 (some ad) [q0, q1, q2, q3, q4, q5] f g (orG f g [q0, q1, q2, q3, q4, q5] i j) wr ∧ BB wr Bc 24 [c0, c1, c2, c3, c4, c5] ∧ BB wr Bd 24 [d0, d1, d2, d3, d4, d5] ∧ BB wr Br 24 zs ∧ ∀ j', j' < 6 → MB.at_ zs j' = if j' < k then MB.at_ [c0, c1, c2, c3, c4, c5] j' - MB.at_ [d0, d1, d2, d3, d4, d5] j' else MB.at_ [c0, c1, c2, c3, c4, c5] j') (fun t _ => 6 - (intOf t).toNat)
                case atStart => exact ⟨0, _, Nat.zero_le _, rfl, I4.out, C4.out, D4.out, R4.out, fun j' _ => by rw [if_neg (by omega)]⟩
                case round =>
                  obtain ⟨k, zs, hk, rfl, hr, hc, hd, hz, hzs⟩ := hrel
                  have IK := Lib.hid hr
                  have CK := Lib.hid hc
                  have DK := Lib.hid hd
                  have ZK := Lib.hid hz
                  have HZ := Lib.hid hzs
                  clear hr hc hd hz hzs I4 C4 D4 R4
                  by_cases hk6 : k < 6
                  · have x1 := CK.out.cell hk6
                    have x2 := DK.out.cell hk6
                    have x3 := ZK.out.cell hk6
                    have x4 := ZK.out.free k
                    have h1 := HCA.out k hk6
                    have h2 := HDA.out k hk6
                    have HS := Lib.hid (sub_put (c := [c0, c1, c2, c3, c4, c5]) (d := [d0, d1, d2, d3, d4, d5]) rfl ZK.out.2 hk6 HZ.out)
                    have hkI : (k : Int) < 6 := by omega
                    generalize MB.at_ [c0, c1, c2, c3, c4, c5] k = xc at *
                    generalize MB.at_ [d0, d1, d2, d3, d4, d5] k = xd at *
                    have hwr : wrap64 (xc - xd) = xc - xd := by unfold wrap64; omega
                    have hwr2 : IntKind.i64.wrap (xc - xd) = xc - xd := by first | exact Go.i64_in _ (by omega) | exact IntWalk.i64_in _ (by omega) | exact i64_in _ (by omega)
                    go_wp2_with fail
                    go_still_tail 9, (by kernel_rfl)
                    change wpList _ _ _ _ _ wr.drew
                    have IKd := Lib.hid (IK.out.keep (below_drawn wr))
                    have CKd := Lib.hid (CK.out.keep (below_drawn wr) CK.out.lt)
                    have DKd := Lib.hid (DK.out.keep (below_drawn wr) DK.out.lt)
                    have ZKd := Lib.hid (ZK.out.keep (below_drawn wr) ZK.out.lt)
                    generalize wr.drew = wd at *
                    clear x1 x2 x3 x4
                    have x3 := ZKd.out.cell hk6
                    have x4 := ZKd.out.free k
                    go_wp2
                    go_roundw
                    case rel => exact ⟨k + 1, zs.set k (xc - xd), hk6, by go_num, IKd.out.far (set_grown _ _ _ _) hrN, CKd.out.other _ (by omega), DKd.out.other _ (by omega), ZKd.out.set k _, HS.out⟩
                    case measure => simp [intOf]; omega
                  · obtain rfl : k = 6 := by omega
                    have hzs : zs = VV.sub [c0, c1, c2, c3, c4, c5] [d0, d1, d2, d3, d4, d5] := MB.ext6 ZK.out.2 rfl fun j' hj' => by rw [HZ.out j' hj', if_pos hj', VV.sub_at hj']
                    have hbz : VV.Bu zs ∧ VV.Le zs [q0, q1, q2, q3, q4, q5] := by
                      rw [hzs]
                      exact ⟨VV.Bu.sub HLE.out, (VV.sub_le HDB.out.1).trans HCB.out.2⟩
                    rw [← hzs] at HP
                    clear hzs HZ
                    obtain ⟨z0, z1, z2, z3, z4, z5, rfl⟩ := six hbz.1.len
                    have hok2 : MB.okB [z0, z1, z2, z3, z4, z5] = true := (K4.of_le ⟨rfl, HOK.out⟩ hbz.1 (VV.leB_iff.2 hbz.2)).ok
                    have HI := Lib.hid (fun w' => index13_any q0 q1 q2 q3 q4 q5 z0 z1 z2 z3 z4 z5 HOK.out hok2 (VV.leB_iff.2 hbz.2) w')
                    have hrl : VV.rank [q0, q1, q2, q3, q4, q5] [z0, z1, z2, z3, z4, z5] < n := by have := VV.rank_lt HBU.out hbz.1 hbz.2; have := HCN.out; omega
                    have hya := VV.at_rank HBU.out hbz.1 hbz.2
                    obtain ⟨r, hr⟩ : ∃ r, r = VV.rank [q0, q1, q2, q3, q4, q5] [z0, z1, z2, z3, z4, z5] := ⟨_, rfl⟩
                    rw [show MB.R [q0, q1, q2, q3, q4, q5] [z0, z1, z2, z3, z4, z5] 6 = r from hr.symm] at HI
                    rw [← hr] at hrl hya
                    clear hr hok2
                    have hgb := HGG.out _ hbz.1
                    have hfb := HFF.out _ HDB.out.1
                    have cy := IK.out.ys.cell (F_at (fun i => g (VV.at6 [q0, q1, q2, q3, q4, q5] i)) hrl)
                    have cx := IK.out.xs.cell (F_at (fun i => f (VV.at6 [q0, q1, q2, q3, q4, q5] i)) hjn)
                    have co := IK.out.out.cell (F_at (orG f g [q0, q1, q2, q3, q4, q5] i j) hlt)
                    have fo := IK.out.out.frozen i
                    try dsimp only at cy cx
                    rw [hya] at cy
                    rw [← HDj.out] at cx
                    have hvo : orG f g [q0, q1, q2, q3, q4, q5] i j i = VV.orP f g [q0, q1, q2, q3, q4, q5] i j := by unfold orG; rw [if_neg (by omega), if_pos rfl]
                    have hpb := orP_bound (b := [q0, q1, q2, q3, q4, q5]) HBU.out HFF.out HGG.out i j
                    rw [hvo] at co
                    have HGo := Lib.hid (fun v (hv : v = VV.orP f g [q0, q1, q2, q3, q4, q5] i (j + 1)) => (show ∀ k, k < n → orG f g [q0, q1, q2, q3, q4, q5] i (j + 1) k = if k = i then v else orG f g [q0, q1, q2, q3, q4, q5] i j k from fun k _ => by
                      unfold orG
                      by_cases ek : k = i
                      · rw [if_pos ek, if_neg (by omega), if_pos ek, hv]
                      · by_cases hk : k < i
                        · simp only [if_neg ek, if_pos hk]
                        · simp only [if_neg ek, if_neg hk]))
                    rw [HP.out] at HGo
                    clear hvo hya
                    generalize VV.orP f g [q0, q1, q2, q3, q4, q5] i j = vo at *
                    generalize f [d0, d1, d2, d3, d4, d5] = fv at *
                    generalize g [z0, z1, z2, z3, z4, z5] = gv at *
                    clear HP
                    have hwr : wrap64 (fv + gv) = fv + gv := by unfold wrap64; omega
                    have hwr2 : IntKind.i64.wrap (fv + gv) = fv + gv := by first | exact Go.i64_in _ (by omega) | exact IntWalk.i64_in _ (by omega) | exact i64_in _ (by omega)
                    have HWR := Lib.hid (And.intro hwr hwr2)
                    clear hwr hwr2
                    have C5' := Lib.hid (And.intro co (And.intro cx cy))
                    have hmo : Try.prog.follows .mixedOrders = true := by kernel_rfl
                    clear co cx cy fo
                    go_wp2_with fail
                    have I5 := Lib.hid (IK.out.keep (below_drawn wr))
                    have C5 := Lib.hid (CK.out.keep (below_drawn wr) CK.out.lt)
                    have Z5 := Lib.hid (ZK.out.keep (below_drawn wr) ZK.out.lt)
                    have V5 := Lib.hid (show wr.drew.cell? ⟨Bo, i, none⟩ = some (.int .i64 vo) ∧ wr.drew.cell? ⟨Bx, j, none⟩ = some (.int .i64 fv) ∧ wr.drew.cell? ⟨By, r, none⟩ = some (.int .i64 gv) from C5'.out)
                    clear IK CK ZK DK C5'
                    refine region_held_L (S := fun w' => BB w' w.heap.size 24 [q0, q1, q2, q3, q4, q5] ∧ BB w' Br 24 [z0, z1, z2, z3, z4, z5] ∧ w'.cell? ⟨Bo, i, none⟩ = some (.int .i64 vo) ∧ w'.cell? ⟨Bx, j, none⟩ = some (.int .i64 fv) ∧ w'.cell? ⟨By, r, none⟩ = some (.int .i64 gv)) 19 hmo ⟨I5.out.box, Z5.out, V5.out⟩ (fun hHeld => ?_)
                    generalize wr.drew = Y at *
                    by_cases hmx : vo < fv + gv
                    · have HGo2 := Lib.hid (HGo.out (fv + gv) (by omega))
                      clear HGo
                      refine wpAnyL_take (i := 0) (oi := { dst := some 70, op := Op.move (Operand.tmp 8), type := 64, pos := "ref.go:71", after := #[], guard := none }) (v := ?_) rfl (by kernel_rfl) (by kernel_rfl) (by kernel_rfl) (fun _ _ _ h => h) (Or.inl ⟨by rfl, ?_⟩) (by assumption) ?_
                      rotate_left
                      · intro w hSw; (try dsimp only at hSw); obtain ⟨hB, hZ, co, cx, cy⟩ := hSw; have hwr := HWR.out.1; have hwr2 := HWR.out.2; obtain ⟨r0, r1, r2, r3, r4, r5⟩ := cells6 hB; obtain ⟨s0, s1, s2, s3, s4, s5⟩ := cells6 hZ; go_simp; try with_reducible rfl
                      (try simp only [Act.put, List.setIfInBounds_toArray, List.set_cons_zero, List.set_cons_succ])
                      refine wpAnyL_take (i := 1) (oi := { dst := some 71, op := Op.move (Operand.tmp 11), type := 3, pos := "ref.go:71", after := #[], guard := none }) (v := ?_) rfl (by kernel_rfl) (by kernel_rfl) (by kernel_rfl) (fun _ _ _ h => h) (Or.inl ⟨by rfl, ?_⟩) (by assumption) ?_
                      rotate_left
                      · intro w hSw; (try dsimp only at hSw); obtain ⟨hB, hZ, co, cx, cy⟩ := hSw; have hwr := HWR.out.1; have hwr2 := HWR.out.2; obtain ⟨r0, r1, r2, r3, r4, r5⟩ := cells6 hB; obtain ⟨s0, s1, s2, s3, s4, s5⟩ := cells6 hZ; go_simp; try with_reducible rfl
                      (try simp only [Act.put, List.setIfInBounds_toArray, List.set_cons_zero, List.set_cons_succ])
                      refine wpAnyL_take (i := 2) (oi := { dst := some 72, op := Op.move (Operand.tmp 8), type := 64, pos := "ref.go:71", after := #[], guard := none }) (v := ?_) rfl (by kernel_rfl) (by kernel_rfl) (by kernel_rfl) (fun _ _ _ h => h) (Or.inl ⟨by rfl, ?_⟩) (by assumption) ?_
                      rotate_left
                      · intro w hSw; (try dsimp only at hSw); obtain ⟨hB, hZ, co, cx, cy⟩ := hSw; have hwr := HWR.out.1; have hwr2 := HWR.out.2; obtain ⟨r0, r1, r2, r3, r4, r5⟩ := cells6 hB; obtain ⟨s0, s1, s2, s3, s4, s5⟩ := cells6 hZ; go_simp; try with_reducible rfl
                      (try simp only [Act.put, List.setIfInBounds_toArray, List.set_cons_zero, List.set_cons_succ])
                      refine wpAnyL_take (i := 3) (oi := { dst := some 73, op := Op.move (Operand.tmp 11), type := 3, pos := "ref.go:71", after := #[], guard := none }) (v := ?_) rfl (by kernel_rfl) (by kernel_rfl) (by kernel_rfl) (fun _ _ _ h => h) (Or.inl ⟨by rfl, ?_⟩) (by assumption) ?_
                      rotate_left
                      · intro w hSw; (try dsimp only at hSw); obtain ⟨hB, hZ, co, cx, cy⟩ := hSw; have hwr := HWR.out.1; have hwr2 := HWR.out.2; obtain ⟨r0, r1, r2, r3, r4, r5⟩ := cells6 hB; obtain ⟨s0, s1, s2, s3, s4, s5⟩ := cells6 hZ; go_simp; try with_reducible rfl
                      (try simp only [Act.put, List.setIfInBounds_toArray, List.set_cons_zero, List.set_cons_succ])
                      refine wpAnyL_take (i := 4) (oi := { dst := some 74, op := Op.indexAddr 64 (Operand.tmp 72) (Operand.tmp 73), type := 0, pos := "ref.go:71", after := #[{ on := 2, ground := Ground.data }, { on := 3, ground := Ground.data }], guard := none }) (v := ?_) rfl (by kernel_rfl) (by kernel_rfl) (by kernel_rfl) (fun _ _ _ h => h) (Or.inl ⟨by rfl, ?_⟩) (by assumption) ?_
                      rotate_left
                      · intro w hSw; (try dsimp only at hSw); obtain ⟨hB, hZ, co, cx, cy⟩ := hSw; have hwr := HWR.out.1; have hwr2 := HWR.out.2; obtain ⟨r0, r1, r2, r3, r4, r5⟩ := cells6 hB; obtain ⟨s0, s1, s2, s3, s4, s5⟩ := cells6 hZ; go_simp; try with_reducible rfl
                      (try simp only [Act.put, List.setIfInBounds_toArray, List.set_cons_zero, List.set_cons_succ])
                      refine wpAnyL_take (i := 5) (oi := { dst := some 75, op := Op.load 2 (Operand.tmp 74), type := 2, pos := "ref.go:71", after := #[{ on := 4, ground := Ground.data }], guard := none }) (v := ?_) rfl (by kernel_rfl) (by kernel_rfl) (by kernel_rfl) (fun _ _ _ h => h) (Or.inl ⟨by rfl, ?_⟩) (by assumption) ?_
                      rotate_left
                      · intro w hSw; (try dsimp only at hSw); obtain ⟨hB, hZ, co, cx, cy⟩ := hSw; have hwr := HWR.out.1; have hwr2 := HWR.out.2; obtain ⟨r0, r1, r2, r3, r4, r5⟩ := cells6 hB; obtain ⟨s0, s1, s2, s3, s4, s5⟩ := cells6 hZ; go_simp; try with_reducible rfl
                      (try simp only [Act.put, List.setIfInBounds_toArray, List.set_cons_zero, List.set_cons_succ])
                      refine wpAnyL_take (i := 6) (oi := { dst := some 76, op := Op.move (Operand.tmp 1), type := 64, pos := "ref.go:71", after := #[], guard := none }) (v := ?_) rfl (by kernel_rfl) (by kernel_rfl) (by kernel_rfl) (fun _ _ _ h => h) (Or.inl ⟨by rfl, ?_⟩) (by assumption) ?_
                      rotate_left
                      · intro w hSw; (try dsimp only at hSw); obtain ⟨hB, hZ, co, cx, cy⟩ := hSw; have hwr := HWR.out.1; have hwr2 := HWR.out.2; obtain ⟨r0, r1, r2, r3, r4, r5⟩ := cells6 hB; obtain ⟨s0, s1, s2, s3, s4, s5⟩ := cells6 hZ; go_simp; try with_reducible rfl
                      (try simp only [Act.put, List.setIfInBounds_toArray, List.set_cons_zero, List.set_cons_succ])
                      refine wpAnyL_take (i := 7) (oi := { dst := some 77, op := Op.move (Operand.tmp 13), type := 3, pos := "ref.go:71", after := #[], guard := none }) (v := ?_) rfl (by kernel_rfl) (by kernel_rfl) (by kernel_rfl) (fun _ _ _ h => h) (Or.inl ⟨by rfl, ?_⟩) (by assumption) ?_
                      rotate_left
                      · intro w hSw; (try dsimp only at hSw); obtain ⟨hB, hZ, co, cx, cy⟩ := hSw; have hwr := HWR.out.1; have hwr2 := HWR.out.2; obtain ⟨r0, r1, r2, r3, r4, r5⟩ := cells6 hB; obtain ⟨s0, s1, s2, s3, s4, s5⟩ := cells6 hZ; go_simp; try with_reducible rfl
                      (try simp only [Act.put, List.setIfInBounds_toArray, List.set_cons_zero, List.set_cons_succ])
                      refine wpAnyL_take (i := 8) (oi := { dst := some 78, op := Op.indexAddr 64 (Operand.tmp 76) (Operand.tmp 77), type := 0, pos := "ref.go:71", after := #[{ on := 6, ground := Ground.data }, { on := 7, ground := Ground.data }], guard := none }) (v := ?_) rfl (by kernel_rfl) (by kernel_rfl) (by kernel_rfl) (fun _ _ _ h => h) (Or.inl ⟨by rfl, ?_⟩) (by assumption) ?_
                      rotate_left
                      · intro w hSw; (try dsimp only at hSw); obtain ⟨hB, hZ, co, cx, cy⟩ := hSw; have hwr := HWR.out.1; have hwr2 := HWR.out.2; obtain ⟨r0, r1, r2, r3, r4, r5⟩ := cells6 hB; obtain ⟨s0, s1, s2, s3, s4, s5⟩ := cells6 hZ; go_simp; try with_reducible rfl
                      (try simp only [Act.put, List.setIfInBounds_toArray, List.set_cons_zero, List.set_cons_succ])
                      refine wpAnyL_take (i := 9) (oi := { dst := some 79, op := Op.load 2 (Operand.tmp 78), type := 2, pos := "ref.go:71", after := #[{ on := 8, ground := Ground.data }], guard := none }) (v := ?_) rfl (by kernel_rfl) (by kernel_rfl) (by kernel_rfl) (fun _ _ _ h => h) (Or.inl ⟨by rfl, ?_⟩) (by assumption) ?_
                      rotate_left
                      · intro w hSw; (try dsimp only at hSw); obtain ⟨hB, hZ, co, cx, cy⟩ := hSw; have hwr := HWR.out.1; have hwr2 := HWR.out.2; obtain ⟨r0, r1, r2, r3, r4, r5⟩ := cells6 hB; obtain ⟨s0, s1, s2, s3, s4, s5⟩ := cells6 hZ; go_simp; try with_reducible rfl
                      (try simp only [Act.put, List.setIfInBounds_toArray, List.set_cons_zero, List.set_cons_succ])
                      refine wpAnyL_take (i := 10) (oi := { dst := some 80, op := Op.move (Operand.tmp 2), type := 64, pos := "ref.go:71", after := #[], guard := none }) (v := ?_) rfl (by kernel_rfl) (by kernel_rfl) (by kernel_rfl) (fun _ _ _ h => h) (Or.inl ⟨by rfl, ?_⟩) (by assumption) ?_
                      rotate_left
                      · intro w hSw; (try dsimp only at hSw); obtain ⟨hB, hZ, co, cx, cy⟩ := hSw; have hwr := HWR.out.1; have hwr2 := HWR.out.2; obtain ⟨r0, r1, r2, r3, r4, r5⟩ := cells6 hB; obtain ⟨s0, s1, s2, s3, s4, s5⟩ := cells6 hZ; go_simp; try with_reducible rfl
                      (try simp only [Act.put, List.setIfInBounds_toArray, List.set_cons_zero, List.set_cons_succ])
                      refine wpAnyL_take (i := 11) (oi := { dst := some 81, op := Op.load 24 (Operand.tmp 3), type := 24, pos := "ref.go:71", after := #[], guard := none }) (v := ?_) rfl (by kernel_rfl) (by kernel_rfl) (by kernel_rfl) (fun _ _ _ h => h) (Or.inl ⟨by rfl, ?_⟩) (by assumption) ?_
                      rotate_left
                      · intro w hSw; (try dsimp only at hSw); obtain ⟨hB, hZ, co, cx, cy⟩ := hSw; have hwr := HWR.out.1; have hwr2 := HWR.out.2; obtain ⟨r0, r1, r2, r3, r4, r5⟩ := cells6 hB; obtain ⟨s0, s1, s2, s3, s4, s5⟩ := cells6 hZ; go_simp; try with_reducible rfl
                      (try simp only [Act.put, List.setIfInBounds_toArray, List.set_cons_zero, List.set_cons_succ])
                      refine wpAnyL_take (i := 12) (oi := { dst := some 82, op := Op.load 24 (Operand.tmp 15), type := 24, pos := "ref.go:71", after := #[], guard := none }) (v := ?_) rfl (by kernel_rfl) (by kernel_rfl) (by kernel_rfl) (fun _ _ _ h => h) (Or.inl ⟨by rfl, ?_⟩) (by assumption) ?_
                      rotate_left
                      · intro w hSw; (try dsimp only at hSw); obtain ⟨hB, hZ, co, cx, cy⟩ := hSw; have hwr := HWR.out.1; have hwr2 := HWR.out.2; obtain ⟨r0, r1, r2, r3, r4, r5⟩ := cells6 hB; obtain ⟨s0, s1, s2, s3, s4, s5⟩ := cells6 hZ; go_simp; try with_reducible rfl
                      (try simp only [Act.put, List.setIfInBounds_toArray, List.set_cons_zero, List.set_cons_succ])
                      refine wpAnyL_ready (rs := [13]) (by kernel_rfl) (by simp) ?_
                      refine AllReadyL.cons (o := { dst := some 83, op := Op.call { callee := Callee.value (Operand.func 88), args := #[Operand.tmp 81, Operand.tmp 82], argTypes := #[24, 24] }, type := 3, pos := "ref.go:71", after := #[{ on := 11, ground := Ground.data }, { on := 12, ground := Ground.data }], guard := none }) rfl (fun K hK => ?_) AllReadyL.nil
                      go_simp
                      refine (HI.out _).mono ?_
                      rintro ev w7 ⟨rfl, nb⟩
                      have I7 := Lib.hid (I5.out.keep nb)
                      have C7 := Lib.hid (C5.out.keep nb C5.out.lt)
                      have Z7 := Lib.hid (Z5.out.keep nb Z5.out.lt)
                      have V7 := Lib.hid (show w7.cell? ⟨Bo, i, none⟩ = some (.int .i64 vo) ∧ w7.cell? ⟨Bx, j, none⟩ = some (.int .i64 fv) ∧ w7.cell? ⟨By, r, none⟩ = some (.int .i64 gv) from ⟨(nb.cell (p := ⟨Bo, i, none⟩) I5.out.out.lt).trans V5.out.1, (nb.cell (p := ⟨Bx, j, none⟩) I5.out.xs.lt).trans V5.out.2.1, (nb.cell (p := ⟨By, r, none⟩) I5.out.ys.lt).trans V5.out.2.2⟩)
                      clear nb I5 C5 Z5 V5
                      refine hK.out _ _ ?_ (fun hHeld => ?_)
                      · exact ⟨I7.out.box, Z7.out, V7.out⟩
                      clear hK K
                      (try simp only [Act.put, List.setIfInBounds_toArray, List.set_cons_zero, List.set_cons_succ])
                      refine wpAnyL_take (i := 14) (oi := { dst := some 84, op := Op.indexAddr 64 (Operand.tmp 80) (Operand.tmp 83), type := 0, pos := "ref.go:71", after := #[{ on := 10, ground := Ground.data }, { on := 13, ground := Ground.data }], guard := none }) (v := ?_) rfl (by kernel_rfl) (by kernel_rfl) (by kernel_rfl) (fun _ _ _ h => h) (Or.inl ⟨by rfl, ?_⟩) (by assumption) ?_
                      rotate_left
                      · intro w hSw; (try dsimp only at hSw); obtain ⟨hB, hZ, co, cx, cy⟩ := hSw; have hwr := HWR.out.1; have hwr2 := HWR.out.2; obtain ⟨r0, r1, r2, r3, r4, r5⟩ := cells6 hB; obtain ⟨s0, s1, s2, s3, s4, s5⟩ := cells6 hZ; go_simp; try with_reducible rfl
                      (try simp only [Act.put, List.setIfInBounds_toArray, List.set_cons_zero, List.set_cons_succ])
                      refine wpAnyL_take (i := 15) (oi := { dst := some 85, op := Op.load 2 (Operand.tmp 84), type := 2, pos := "ref.go:71", after := #[{ on := 14, ground := Ground.data }], guard := none }) (v := ?_) rfl (by kernel_rfl) (by kernel_rfl) (by kernel_rfl) (fun _ _ _ h => h) (Or.inl ⟨by rfl, ?_⟩) (by assumption) ?_
                      rotate_left
                      · intro w hSw; (try dsimp only at hSw); obtain ⟨hB, hZ, co, cx, cy⟩ := hSw; have hwr := HWR.out.1; have hwr2 := HWR.out.2; obtain ⟨r0, r1, r2, r3, r4, r5⟩ := cells6 hB; obtain ⟨s0, s1, s2, s3, s4, s5⟩ := cells6 hZ; go_simp; try with_reducible rfl
                      (try simp only [Act.put, List.setIfInBounds_toArray, List.set_cons_zero, List.set_cons_succ])
                      refine wpAnyL_take (i := 16) (oi := { dst := some 86, op := Op.binOp BinOp.add 2 (Operand.tmp 79) (Operand.tmp 85) 2, type := 2, pos := "ref.go:71", after := #[{ on := 9, ground := Ground.data }, { on := 15, ground := Ground.data }], guard := none }) (v := ?_) rfl (by kernel_rfl) (by kernel_rfl) (by kernel_rfl) (fun _ _ _ h => h) (Or.inl ⟨by rfl, ?_⟩) (by assumption) ?_
                      rotate_left
                      · intro w hSw; (try dsimp only at hSw); obtain ⟨hB, hZ, co, cx, cy⟩ := hSw; have hwr := HWR.out.1; have hwr2 := HWR.out.2; obtain ⟨r0, r1, r2, r3, r4, r5⟩ := cells6 hB; obtain ⟨s0, s1, s2, s3, s4, s5⟩ := cells6 hZ; go_simp; try with_reducible rfl
                      (try simp only [Act.put, List.setIfInBounds_toArray, List.set_cons_zero, List.set_cons_succ])
                      refine wpAnyL_take (i := 17) (oi := { dst := some 87, op := Op.call { callee := Callee.builtin Builtin.max, args := #[Operand.tmp 75, Operand.tmp 86], argTypes := #[2, 2] }, type := 2, pos := "ref.go:71", after := #[{ on := 5, ground := Ground.data }, { on := 16, ground := Ground.data }], guard := none }) (v := ?_) rfl (by kernel_rfl) (by kernel_rfl) (by kernel_rfl) (fun _ _ _ h => h) (Or.inl ⟨by rfl, ?_⟩) (by assumption) ?_
                      rotate_left
                      · intro w hSw; (try dsimp only at hSw); obtain ⟨hB, hZ, co, cx, cy⟩ := hSw; have hwr := HWR.out.1; have hwr2 := HWR.out.2; obtain ⟨r0, r1, r2, r3, r4, r5⟩ := cells6 hB; obtain ⟨s0, s1, s2, s3, s4, s5⟩ := cells6 hZ; go_simp; try with_reducible rfl
                      (try simp only [Act.put, List.setIfInBounds_toArray, List.set_cons_zero, List.set_cons_succ])
                      refine wpAnyL_take (i := 18) (oi := { dst := some 88, op := Op.indexAddr 64 (Operand.tmp 70) (Operand.tmp 71), type := 0, pos := "ref.go:71", after := #[{ on := 0, ground := Ground.data }, { on := 1, ground := Ground.data }, { on := 0, ground := Ground.phase }, { on := 1, ground := Ground.phase }, { on := 2, ground := Ground.phase }, { on := 3, ground := Ground.phase }, { on := 4, ground := Ground.phase }, { on := 5, ground := Ground.phase }, { on := 6, ground := Ground.phase }, { on := 7, ground := Ground.phase }, { on := 8, ground := Ground.phase }, { on := 9, ground := Ground.phase }, { on := 10, ground := Ground.phase }, { on := 11, ground := Ground.phase }, { on := 12, ground := Ground.phase }, { on := 13, ground := Ground.phase }, { on := 14, ground := Ground.phase }, { on := 15, ground := Ground.phase }, { on := 16, ground := Ground.phase }, { on := 17, ground := Ground.phase }], guard := none }) (v := ?_) rfl (by kernel_rfl) (by kernel_rfl) (by kernel_rfl) (fun _ _ _ h => h) (Or.inl ⟨by rfl, ?_⟩) (by assumption) ?_
                      rotate_left
                      · intro w hSw; (try dsimp only at hSw); obtain ⟨hB, hZ, co, cx, cy⟩ := hSw; have hwr := HWR.out.1; have hwr2 := HWR.out.2; obtain ⟨r0, r1, r2, r3, r4, r5⟩ := cells6 hB; obtain ⟨s0, s1, s2, s3, s4, s5⟩ := cells6 hZ; go_simp; try with_reducible rfl
                      (try simp only [Act.put, List.setIfInBounds_toArray, List.set_cons_zero, List.set_cons_succ])
                      refine wpAnyL_ready (rs := [19]) (by kernel_rfl) (by simp) ?_
                      refine AllReadyL.last (o := { dst := none, op := Op.store 2 (Operand.tmp 88) (Operand.tmp 87), type := 0, pos := "ref.go:71", after := #[{ on := 18, ground := Ground.data }, { on := 17, ground := Ground.data }, { on := 13, ground := Ground.chain }, { on := 0, ground := Ground.phase }, { on := 1, ground := Ground.phase }, { on := 2, ground := Ground.phase }, { on := 3, ground := Ground.phase }, { on := 4, ground := Ground.phase }, { on := 5, ground := Ground.phase }, { on := 6, ground := Ground.phase }, { on := 7, ground := Ground.phase }, { on := 8, ground := Ground.phase }, { on := 9, ground := Ground.phase }, { on := 10, ground := Ground.phase }, { on := 11, ground := Ground.phase }, { on := 12, ground := Ground.phase }, { on := 13, ground := Ground.phase }, { on := 14, ground := Ground.phase }, { on := 15, ground := Ground.phase }, { on := 16, ground := Ground.phase }, { on := 17, ground := Ground.phase }], guard := none }) rfl (fun K hK => ?_)
                      have co := V7.out.1
                      have fo := I7.out.out.frozen i
                      go_simp
                      refine hK.out _ _ trivial (fun _ => ?_)
                      clear hK K
                      (try simp only [Act.put, List.setIfInBounds_toArray, List.set_cons_zero, List.set_cons_succ])
                      refine wpAnyL_done (by kernel_rfl) ?_ _
                      go_wp2
                      go_roundw
                      case rel => exact ⟨j + 1, by omega, by go_num, I7.out.put HGo2.out, C7.out.other _ (by have := I7.out.bo; omega)⟩
                      case measure => simp [intOf]; omega
                    · have HGo2 := Lib.hid (HGo.out vo (by omega))
                      clear HGo
                      refine wpAnyL_take (i := 0) (oi := { dst := some 70, op := Op.move (Operand.tmp 8), type := 64, pos := "ref.go:71", after := #[], guard := none }) (v := ?_) rfl (by kernel_rfl) (by kernel_rfl) (by kernel_rfl) (fun _ _ _ h => h) (Or.inl ⟨by rfl, ?_⟩) (by assumption) ?_
                      rotate_left
                      · intro w hSw; (try dsimp only at hSw); obtain ⟨hB, hZ, co, cx, cy⟩ := hSw; have hwr := HWR.out.1; have hwr2 := HWR.out.2; obtain ⟨r0, r1, r2, r3, r4, r5⟩ := cells6 hB; obtain ⟨s0, s1, s2, s3, s4, s5⟩ := cells6 hZ; go_simp; try with_reducible rfl
                      (try simp only [Act.put, List.setIfInBounds_toArray, List.set_cons_zero, List.set_cons_succ])
                      refine wpAnyL_take (i := 1) (oi := { dst := some 71, op := Op.move (Operand.tmp 11), type := 3, pos := "ref.go:71", after := #[], guard := none }) (v := ?_) rfl (by kernel_rfl) (by kernel_rfl) (by kernel_rfl) (fun _ _ _ h => h) (Or.inl ⟨by rfl, ?_⟩) (by assumption) ?_
                      rotate_left
                      · intro w hSw; (try dsimp only at hSw); obtain ⟨hB, hZ, co, cx, cy⟩ := hSw; have hwr := HWR.out.1; have hwr2 := HWR.out.2; obtain ⟨r0, r1, r2, r3, r4, r5⟩ := cells6 hB; obtain ⟨s0, s1, s2, s3, s4, s5⟩ := cells6 hZ; go_simp; try with_reducible rfl
                      (try simp only [Act.put, List.setIfInBounds_toArray, List.set_cons_zero, List.set_cons_succ])
                      refine wpAnyL_take (i := 2) (oi := { dst := some 72, op := Op.move (Operand.tmp 8), type := 64, pos := "ref.go:71", after := #[], guard := none }) (v := ?_) rfl (by kernel_rfl) (by kernel_rfl) (by kernel_rfl) (fun _ _ _ h => h) (Or.inl ⟨by rfl, ?_⟩) (by assumption) ?_
                      rotate_left
                      · intro w hSw; (try dsimp only at hSw); obtain ⟨hB, hZ, co, cx, cy⟩ := hSw; have hwr := HWR.out.1; have hwr2 := HWR.out.2; obtain ⟨r0, r1, r2, r3, r4, r5⟩ := cells6 hB; obtain ⟨s0, s1, s2, s3, s4, s5⟩ := cells6 hZ; go_simp; try with_reducible rfl
                      (try simp only [Act.put, List.setIfInBounds_toArray, List.set_cons_zero, List.set_cons_succ])
                      refine wpAnyL_take (i := 3) (oi := { dst := some 73, op := Op.move (Operand.tmp 11), type := 3, pos := "ref.go:71", after := #[], guard := none }) (v := ?_) rfl (by kernel_rfl) (by kernel_rfl) (by kernel_rfl) (fun _ _ _ h => h) (Or.inl ⟨by rfl, ?_⟩) (by assumption) ?_
                      rotate_left
                      · intro w hSw; (try dsimp only at hSw); obtain ⟨hB, hZ, co, cx, cy⟩ := hSw; have hwr := HWR.out.1; have hwr2 := HWR.out.2; obtain ⟨r0, r1, r2, r3, r4, r5⟩ := cells6 hB; obtain ⟨s0, s1, s2, s3, s4, s5⟩ := cells6 hZ; go_simp; try with_reducible rfl
                      (try simp only [Act.put, List.setIfInBounds_toArray, List.set_cons_zero, List.set_cons_succ])
                      refine wpAnyL_take (i := 4) (oi := { dst := some 74, op := Op.indexAddr 64 (Operand.tmp 72) (Operand.tmp 73), type := 0, pos := "ref.go:71", after := #[{ on := 2, ground := Ground.data }, { on := 3, ground := Ground.data }], guard := none }) (v := ?_) rfl (by kernel_rfl) (by kernel_rfl) (by kernel_rfl) (fun _ _ _ h => h) (Or.inl ⟨by rfl, ?_⟩) (by assumption) ?_
                      rotate_left
                      · intro w hSw; (try dsimp only at hSw); obtain ⟨hB, hZ, co, cx, cy⟩ := hSw; have hwr := HWR.out.1; have hwr2 := HWR.out.2; obtain ⟨r0, r1, r2, r3, r4, r5⟩ := cells6 hB; obtain ⟨s0, s1, s2, s3, s4, s5⟩ := cells6 hZ; go_simp; try with_reducible rfl
                      (try simp only [Act.put, List.setIfInBounds_toArray, List.set_cons_zero, List.set_cons_succ])
                      refine wpAnyL_take (i := 5) (oi := { dst := some 75, op := Op.load 2 (Operand.tmp 74), type := 2, pos := "ref.go:71", after := #[{ on := 4, ground := Ground.data }], guard := none }) (v := ?_) rfl (by kernel_rfl) (by kernel_rfl) (by kernel_rfl) (fun _ _ _ h => h) (Or.inl ⟨by rfl, ?_⟩) (by assumption) ?_
                      rotate_left
                      · intro w hSw; (try dsimp only at hSw); obtain ⟨hB, hZ, co, cx, cy⟩ := hSw; have hwr := HWR.out.1; have hwr2 := HWR.out.2; obtain ⟨r0, r1, r2, r3, r4, r5⟩ := cells6 hB; obtain ⟨s0, s1, s2, s3, s4, s5⟩ := cells6 hZ; go_simp; try with_reducible rfl
                      (try simp only [Act.put, List.setIfInBounds_toArray, List.set_cons_zero, List.set_cons_succ])
                      refine wpAnyL_take (i := 6) (oi := { dst := some 76, op := Op.move (Operand.tmp 1), type := 64, pos := "ref.go:71", after := #[], guard := none }) (v := ?_) rfl (by kernel_rfl) (by kernel_rfl) (by kernel_rfl) (fun _ _ _ h => h) (Or.inl ⟨by rfl, ?_⟩) (by assumption) ?_
                      rotate_left
                      · intro w hSw; (try dsimp only at hSw); obtain ⟨hB, hZ, co, cx, cy⟩ := hSw; have hwr := HWR.out.1; have hwr2 := HWR.out.2; obtain ⟨r0, r1, r2, r3, r4, r5⟩ := cells6 hB; obtain ⟨s0, s1, s2, s3, s4, s5⟩ := cells6 hZ; go_simp; try with_reducible rfl
                      (try simp only [Act.put, List.setIfInBounds_toArray, List.set_cons_zero, List.set_cons_succ])
                      refine wpAnyL_take (i := 7) (oi := { dst := some 77, op := Op.move (Operand.tmp 13), type := 3, pos := "ref.go:71", after := #[], guard := none }) (v := ?_) rfl (by kernel_rfl) (by kernel_rfl) (by kernel_rfl) (fun _ _ _ h => h) (Or.inl ⟨by rfl, ?_⟩) (by assumption) ?_
                      rotate_left
                      · intro w hSw; (try dsimp only at hSw); obtain ⟨hB, hZ, co, cx, cy⟩ := hSw; have hwr := HWR.out.1; have hwr2 := HWR.out.2; obtain ⟨r0, r1, r2, r3, r4, r5⟩ := cells6 hB; obtain ⟨s0, s1, s2, s3, s4, s5⟩ := cells6 hZ; go_simp; try with_reducible rfl
                      (try simp only [Act.put, List.setIfInBounds_toArray, List.set_cons_zero, List.set_cons_succ])
                      refine wpAnyL_take (i := 8) (oi := { dst := some 78, op := Op.indexAddr 64 (Operand.tmp 76) (Operand.tmp 77), type := 0, pos := "ref.go:71", after := #[{ on := 6, ground := Ground.data }, { on := 7, ground := Ground.data }], guard := none }) (v := ?_) rfl (by kernel_rfl) (by kernel_rfl) (by kernel_rfl) (fun _ _ _ h => h) (Or.inl ⟨by rfl, ?_⟩) (by assumption) ?_
                      rotate_left
                      · intro w hSw; (try dsimp only at hSw); obtain ⟨hB, hZ, co, cx, cy⟩ := hSw; have hwr := HWR.out.1; have hwr2 := HWR.out.2; obtain ⟨r0, r1, r2, r3, r4, r5⟩ := cells6 hB; obtain ⟨s0, s1, s2, s3, s4, s5⟩ := cells6 hZ; go_simp; try with_reducible rfl
                      (try simp only [Act.put, List.setIfInBounds_toArray, List.set_cons_zero, List.set_cons_succ])
                      refine wpAnyL_take (i := 9) (oi := { dst := some 79, op := Op.load 2 (Operand.tmp 78), type := 2, pos := "ref.go:71", after := #[{ on := 8, ground := Ground.data }], guard := none }) (v := ?_) rfl (by kernel_rfl) (by kernel_rfl) (by kernel_rfl) (fun _ _ _ h => h) (Or.inl ⟨by rfl, ?_⟩) (by assumption) ?_
                      rotate_left
                      · intro w hSw; (try dsimp only at hSw); obtain ⟨hB, hZ, co, cx, cy⟩ := hSw; have hwr := HWR.out.1; have hwr2 := HWR.out.2; obtain ⟨r0, r1, r2, r3, r4, r5⟩ := cells6 hB; obtain ⟨s0, s1, s2, s3, s4, s5⟩ := cells6 hZ; go_simp; try with_reducible rfl
                      (try simp only [Act.put, List.setIfInBounds_toArray, List.set_cons_zero, List.set_cons_succ])
                      refine wpAnyL_take (i := 10) (oi := { dst := some 80, op := Op.move (Operand.tmp 2), type := 64, pos := "ref.go:71", after := #[], guard := none }) (v := ?_) rfl (by kernel_rfl) (by kernel_rfl) (by kernel_rfl) (fun _ _ _ h => h) (Or.inl ⟨by rfl, ?_⟩) (by assumption) ?_
                      rotate_left
                      · intro w hSw; (try dsimp only at hSw); obtain ⟨hB, hZ, co, cx, cy⟩ := hSw; have hwr := HWR.out.1; have hwr2 := HWR.out.2; obtain ⟨r0, r1, r2, r3, r4, r5⟩ := cells6 hB; obtain ⟨s0, s1, s2, s3, s4, s5⟩ := cells6 hZ; go_simp; try with_reducible rfl
                      (try simp only [Act.put, List.setIfInBounds_toArray, List.set_cons_zero, List.set_cons_succ])
                      refine wpAnyL_take (i := 11) (oi := { dst := some 81, op := Op.load 24 (Operand.tmp 3), type := 24, pos := "ref.go:71", after := #[], guard := none }) (v := ?_) rfl (by kernel_rfl) (by kernel_rfl) (by kernel_rfl) (fun _ _ _ h => h) (Or.inl ⟨by rfl, ?_⟩) (by assumption) ?_
                      rotate_left
                      · intro w hSw; (try dsimp only at hSw); obtain ⟨hB, hZ, co, cx, cy⟩ := hSw; have hwr := HWR.out.1; have hwr2 := HWR.out.2; obtain ⟨r0, r1, r2, r3, r4, r5⟩ := cells6 hB; obtain ⟨s0, s1, s2, s3, s4, s5⟩ := cells6 hZ; go_simp; try with_reducible rfl
                      (try simp only [Act.put, List.setIfInBounds_toArray, List.set_cons_zero, List.set_cons_succ])
                      refine wpAnyL_take (i := 12) (oi := { dst := some 82, op := Op.load 24 (Operand.tmp 15), type := 24, pos := "ref.go:71", after := #[], guard := none }) (v := ?_) rfl (by kernel_rfl) (by kernel_rfl) (by kernel_rfl) (fun _ _ _ h => h) (Or.inl ⟨by rfl, ?_⟩) (by assumption) ?_
                      rotate_left
                      · intro w hSw; (try dsimp only at hSw); obtain ⟨hB, hZ, co, cx, cy⟩ := hSw; have hwr := HWR.out.1; have hwr2 := HWR.out.2; obtain ⟨r0, r1, r2, r3, r4, r5⟩ := cells6 hB; obtain ⟨s0, s1, s2, s3, s4, s5⟩ := cells6 hZ; go_simp; try with_reducible rfl
                      (try simp only [Act.put, List.setIfInBounds_toArray, List.set_cons_zero, List.set_cons_succ])
                      refine wpAnyL_ready (rs := [13]) (by kernel_rfl) (by simp) ?_
                      refine AllReadyL.cons (o := { dst := some 83, op := Op.call { callee := Callee.value (Operand.func 88), args := #[Operand.tmp 81, Operand.tmp 82], argTypes := #[24, 24] }, type := 3, pos := "ref.go:71", after := #[{ on := 11, ground := Ground.data }, { on := 12, ground := Ground.data }], guard := none }) rfl (fun K hK => ?_) AllReadyL.nil
                      go_simp
                      refine (HI.out _).mono ?_
                      rintro ev w7 ⟨rfl, nb⟩
                      have I7 := Lib.hid (I5.out.keep nb)
                      have C7 := Lib.hid (C5.out.keep nb C5.out.lt)
                      have Z7 := Lib.hid (Z5.out.keep nb Z5.out.lt)
                      have V7 := Lib.hid (show w7.cell? ⟨Bo, i, none⟩ = some (.int .i64 vo) ∧ w7.cell? ⟨Bx, j, none⟩ = some (.int .i64 fv) ∧ w7.cell? ⟨By, r, none⟩ = some (.int .i64 gv) from ⟨(nb.cell (p := ⟨Bo, i, none⟩) I5.out.out.lt).trans V5.out.1, (nb.cell (p := ⟨Bx, j, none⟩) I5.out.xs.lt).trans V5.out.2.1, (nb.cell (p := ⟨By, r, none⟩) I5.out.ys.lt).trans V5.out.2.2⟩)
                      clear nb I5 C5 Z5 V5
                      refine hK.out _ _ ?_ (fun hHeld => ?_)
                      · exact ⟨I7.out.box, Z7.out, V7.out⟩
                      clear hK K
                      (try simp only [Act.put, List.setIfInBounds_toArray, List.set_cons_zero, List.set_cons_succ])
                      refine wpAnyL_take (i := 14) (oi := { dst := some 84, op := Op.indexAddr 64 (Operand.tmp 80) (Operand.tmp 83), type := 0, pos := "ref.go:71", after := #[{ on := 10, ground := Ground.data }, { on := 13, ground := Ground.data }], guard := none }) (v := ?_) rfl (by kernel_rfl) (by kernel_rfl) (by kernel_rfl) (fun _ _ _ h => h) (Or.inl ⟨by rfl, ?_⟩) (by assumption) ?_
                      rotate_left
                      · intro w hSw; (try dsimp only at hSw); obtain ⟨hB, hZ, co, cx, cy⟩ := hSw; have hwr := HWR.out.1; have hwr2 := HWR.out.2; obtain ⟨r0, r1, r2, r3, r4, r5⟩ := cells6 hB; obtain ⟨s0, s1, s2, s3, s4, s5⟩ := cells6 hZ; go_simp; try with_reducible rfl
                      (try simp only [Act.put, List.setIfInBounds_toArray, List.set_cons_zero, List.set_cons_succ])
                      refine wpAnyL_take (i := 15) (oi := { dst := some 85, op := Op.load 2 (Operand.tmp 84), type := 2, pos := "ref.go:71", after := #[{ on := 14, ground := Ground.data }], guard := none }) (v := ?_) rfl (by kernel_rfl) (by kernel_rfl) (by kernel_rfl) (fun _ _ _ h => h) (Or.inl ⟨by rfl, ?_⟩) (by assumption) ?_
                      rotate_left
                      · intro w hSw; (try dsimp only at hSw); obtain ⟨hB, hZ, co, cx, cy⟩ := hSw; have hwr := HWR.out.1; have hwr2 := HWR.out.2; obtain ⟨r0, r1, r2, r3, r4, r5⟩ := cells6 hB; obtain ⟨s0, s1, s2, s3, s4, s5⟩ := cells6 hZ; go_simp; try with_reducible rfl
                      (try simp only [Act.put, List.setIfInBounds_toArray, List.set_cons_zero, List.set_cons_succ])
                      refine wpAnyL_take (i := 16) (oi := { dst := some 86, op := Op.binOp BinOp.add 2 (Operand.tmp 79) (Operand.tmp 85) 2, type := 2, pos := "ref.go:71", after := #[{ on := 9, ground := Ground.data }, { on := 15, ground := Ground.data }], guard := none }) (v := ?_) rfl (by kernel_rfl) (by kernel_rfl) (by kernel_rfl) (fun _ _ _ h => h) (Or.inl ⟨by rfl, ?_⟩) (by assumption) ?_
                      rotate_left
                      · intro w hSw; (try dsimp only at hSw); obtain ⟨hB, hZ, co, cx, cy⟩ := hSw; have hwr := HWR.out.1; have hwr2 := HWR.out.2; obtain ⟨r0, r1, r2, r3, r4, r5⟩ := cells6 hB; obtain ⟨s0, s1, s2, s3, s4, s5⟩ := cells6 hZ; go_simp; try with_reducible rfl
                      (try simp only [Act.put, List.setIfInBounds_toArray, List.set_cons_zero, List.set_cons_succ])
                      refine wpAnyL_take (i := 17) (oi := { dst := some 87, op := Op.call { callee := Callee.builtin Builtin.max, args := #[Operand.tmp 75, Operand.tmp 86], argTypes := #[2, 2] }, type := 2, pos := "ref.go:71", after := #[{ on := 5, ground := Ground.data }, { on := 16, ground := Ground.data }], guard := none }) (v := ?_) rfl (by kernel_rfl) (by kernel_rfl) (by kernel_rfl) (fun _ _ _ h => h) (Or.inl ⟨by rfl, ?_⟩) (by assumption) ?_
                      rotate_left
                      · intro w hSw; (try dsimp only at hSw); obtain ⟨hB, hZ, co, cx, cy⟩ := hSw; have hwr := HWR.out.1; have hwr2 := HWR.out.2; obtain ⟨r0, r1, r2, r3, r4, r5⟩ := cells6 hB; obtain ⟨s0, s1, s2, s3, s4, s5⟩ := cells6 hZ; go_simp; try with_reducible rfl
                      (try simp only [Act.put, List.setIfInBounds_toArray, List.set_cons_zero, List.set_cons_succ])
                      refine wpAnyL_take (i := 18) (oi := { dst := some 88, op := Op.indexAddr 64 (Operand.tmp 70) (Operand.tmp 71), type := 0, pos := "ref.go:71", after := #[{ on := 0, ground := Ground.data }, { on := 1, ground := Ground.data }, { on := 0, ground := Ground.phase }, { on := 1, ground := Ground.phase }, { on := 2, ground := Ground.phase }, { on := 3, ground := Ground.phase }, { on := 4, ground := Ground.phase }, { on := 5, ground := Ground.phase }, { on := 6, ground := Ground.phase }, { on := 7, ground := Ground.phase }, { on := 8, ground := Ground.phase }, { on := 9, ground := Ground.phase }, { on := 10, ground := Ground.phase }, { on := 11, ground := Ground.phase }, { on := 12, ground := Ground.phase }, { on := 13, ground := Ground.phase }, { on := 14, ground := Ground.phase }, { on := 15, ground := Ground.phase }, { on := 16, ground := Ground.phase }, { on := 17, ground := Ground.phase }], guard := none }) (v := ?_) rfl (by kernel_rfl) (by kernel_rfl) (by kernel_rfl) (fun _ _ _ h => h) (Or.inl ⟨by rfl, ?_⟩) (by assumption) ?_
                      rotate_left
                      · intro w hSw; (try dsimp only at hSw); obtain ⟨hB, hZ, co, cx, cy⟩ := hSw; have hwr := HWR.out.1; have hwr2 := HWR.out.2; obtain ⟨r0, r1, r2, r3, r4, r5⟩ := cells6 hB; obtain ⟨s0, s1, s2, s3, s4, s5⟩ := cells6 hZ; go_simp; try with_reducible rfl
                      (try simp only [Act.put, List.setIfInBounds_toArray, List.set_cons_zero, List.set_cons_succ])
                      refine wpAnyL_ready (rs := [19]) (by kernel_rfl) (by simp) ?_
                      refine AllReadyL.last (o := { dst := none, op := Op.store 2 (Operand.tmp 88) (Operand.tmp 87), type := 0, pos := "ref.go:71", after := #[{ on := 18, ground := Ground.data }, { on := 17, ground := Ground.data }, { on := 13, ground := Ground.chain }, { on := 0, ground := Ground.phase }, { on := 1, ground := Ground.phase }, { on := 2, ground := Ground.phase }, { on := 3, ground := Ground.phase }, { on := 4, ground := Ground.phase }, { on := 5, ground := Ground.phase }, { on := 6, ground := Ground.phase }, { on := 7, ground := Ground.phase }, { on := 8, ground := Ground.phase }, { on := 9, ground := Ground.phase }, { on := 10, ground := Ground.phase }, { on := 11, ground := Ground.phase }, { on := 12, ground := Ground.phase }, { on := 13, ground := Ground.phase }, { on := 14, ground := Ground.phase }, { on := 15, ground := Ground.phase }, { on := 16, ground := Ground.phase }, { on := 17, ground := Ground.phase }], guard := none }) rfl (fun K hK => ?_)
                      have co := V7.out.1
                      have fo := I7.out.out.frozen i
                      go_simp
                      refine hK.out _ _ trivial (fun _ => ?_)
                      clear hK K
                      (try simp only [Act.put, List.setIfInBounds_toArray, List.set_cons_zero, List.set_cons_succ])
                      refine wpAnyL_done (by kernel_rfl) ?_ _
                      go_wp2
                      go_roundw
                      case rel => exact ⟨j + 1, by omega, by go_num, I7.out.put HGo2.out, C7.out.other _ (by have := I7.out.bo; omega)⟩
                      case measure => simp [intOf]; omega
              · have hw' : MB.withinB [d0, d1, d2, d3, d4, d5] [c0, c1, c2, c3, c4, c5] 6 = false := by simpa using hw
                rw [hw'] at HW
                have HP := Lib.hid (VV.orP_no (f := f) (g := g) (b := [q0, q1, q2, q3, q4, q5]) (i := i) (j := j) (by rw [← HCi.out, ← HDj.out]; exact hw'))
                go_wp2_with fail
                refine (HW.out _).mono ?_
                rintro ev w17 ⟨rfl, nb⟩
                have I3 := Lib.hid (I2.out.keep nb)
                have C3 := Lib.hid (C2.out.keep nb C2.out.lt)
                clear nb I2 C2 D2 HW r0 r1 r2 r3 r4 r5 s0 s1 s2 s3 s4 s5
                go_wp2
                go_roundw
                case rel => exact ⟨j + 1, by omega, by go_num, I3.out.same (fun k _ => by unfold orG; rw [HP.out]), C3.out⟩
                case measure => simp [intOf]; omega
            · obtain rfl : j = i + 1 := by omega
              have hjd : decide (((i : Int) + 1) ≤ (i : Int)) = false := decide_eq_false (by omega)
              have hjd1 : decide (((i + 1 : Nat) : Int) ≤ (i : Int)) = false := decide_eq_false (by omega)
              have hjd2 : decide (i + 1 ≤ i) = false := decide_eq_false (by omega)
              have IE := Lib.hid (IJ.out.same (go' := orG f g [q0, q1, q2, q3, q4, q5] (i + 1) 0) (fun k _ => by
                have hfull := VV.orP_full (f := f) (g := g) HBU.out (i := i) (by have := HCN.out; omega)
                unfold orG
                by_cases ek : k = i
                · rw [if_neg (by omega), if_pos ek, if_pos (by omega), hfull, ek]
                · by_cases hk : k < i
                  · rw [if_pos hk, if_pos (by omega)]
                  · rw [if_neg hk, if_neg ek, if_neg (by omega)]
                    split <;> rfl))
              clear IJ CJ
              go_wp2
              go_roundw
              case rel => exact ⟨i + 1, by omega, by go_num, IE.out⟩
              case measure => simp [intOf]; omega
        · obtain rfl : i = n := by omega
          have E := Lib.hid IR.out
          clear IR
          go_wp2
          go_ret
          exact ⟨Bo, rfl, by rw [F_congr (g := orG f g [q0, q1, q2, q3, q4, q5] i 0) (fun k hk => by unfold orG; rw [if_pos hk])]; exact E.out.out, by have := E.out.bo; omega, E.out.below⟩
end Go.Proofs.Ytjjpfpgjpmedmaa
