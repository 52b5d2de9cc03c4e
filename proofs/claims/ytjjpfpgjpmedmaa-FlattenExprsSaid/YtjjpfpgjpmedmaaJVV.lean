/- VMap, VRaise, VList, VSize, joined: no claim of its own. -/
import Derived.Test.YtjjpfpgjpmedmaaVSteps
import Derived.Test.YtjjpfpgjpmedmaaJB
import Derived.Maps.RangeWalk
import Derived.Maps.OwnOps
import Derived.DeepKeys4
import Derived.WideKeyPair
import Derived.Test.YtjjpfpgjpmedmaaBUnr
import Derived.StillTailTactics
namespace Go.Proofs.Ytjjpfpgjpmedmaa
open Go.RowKit Go.WideMaps
set_option maxRecDepth 100000 in
theorem bLaid : laidOutB Try.prog = true := by kernel_rfl
set_option maxRecDepth 100000 in
theorem bRow : (24 : TypeId) < Try.prog.types.size := of_decide_eq_true (by kernel_rfl)
set_option maxRecDepth 100000 in
theorem bWide : (match Try.prog.underlying 24 with | some (.array _ _) | some (.struct _) => true | _ => false) = true := by kernel_rfl
set_option maxRecDepth 100000 in
theorem bArr : ArrKey Try.prog 24 3 6 := ⟨by kernel_rfl, by kernel_rfl, by kernel_rfl, by kernel_rfl⟩
set_option maxRecDepth 100000 in
theorem bLaw : Maps.Keyed Try.prog 24 := Maps.Keyed.of_law (deep_law_laid bLaid (m := 2) (by omega) bRow (by kernel_rfl) bWide)
set_option maxRecDepth 100000 in
theorem bTypes : ∃ m, Try.prog.types.size = m + 1 := ⟨Try.prog.types.size - 1, (Nat.succ_pred_eq_of_pos (Nat.lt_of_le_of_lt (Nat.zero_le _) bRow)).symm⟩
set_option maxRecDepth 100000 in
theorem bInt64 : Try.prog.underlying 2 = some (.int .i64) := by kernel_rfl
set_option maxRecDepth 100000 in
theorem bMap : Try.prog.underlying 124 = some (.map 24 2) := by kernel_rfl
/-- A bundle as a map's key. -/
def kb (b : List Int) : Lit := .string (keyBytes (b.map (Lit.int .i64)))
structure K4 (b : List Int) : Prop where
  len : b.length = 6
  ok : MB.okB b = true
theorem K4.bu {b : List Int} (h : K4 b) : VV.Bu b := ⟨h.len, fun j hj => (okB_at h.ok (by rw [h.len]; exact hj)).1⟩
theorem wf_small {x : Int} (h : 0 ≤ x) (h' : x ≤ 1000000) : (Lit.int .i64 x).wf = true := WalkArith.wf_i64 (n := x) ⟨by omega, by omega⟩
set_option maxRecDepth 100000 in
theorem keyOf_bun {b : List Int} (h : K4 b) : keyOf Try.prog 24 (aggB b) = some (kb b) := by
  obtain ⟨x0, x1, x2, x3, x4, x5, rfl⟩ := six h.len
  have wa : ∀ k, k < 6 → (Lit.int .i64 (MB.at_ [x0, x1, x2, x3, x4, x5] k)).wf = true := fun k hk => by
    have := okB_at h.ok (k := k) (by simpa using hk)
    exact wf_small this.1 (by omega)
  have w0 := wa 0 (by decide)
  have w1 := wa 1 (by decide)
  have w2 := wa 2 (by decide)
  have w3 := wa 3 (by decide)
  have w4 := wa 4 (by decide)
  have w5 := wa 5 (by decide)
  simp only [MB.at_, List.getD_cons_zero, List.getD_cons_succ] at w0 w1 w2 w3 w4 w5
  have hkt := bArr.keyType bTypes
  obtain ⟨m, hm⟩ := bTypes
  rw [aggB_lit]
  unfold keyOf kb
  simp only [bArr.hu]
  rw [if_pos (by simp [hkt, Value.formed, bArr.hu, bArr.size]), hm]
  unfold Program.keyLits
  simp only [bArr.hu, Value.cells]
  rw [if_pos (by rw [bArr.size]; rfl), show List.range 6 = [0, 1, 2, 3, 4, 5] from rfl, List.mapM_cons, List.mapM_cons, List.mapM_cons, List.mapM_cons, List.mapM_cons, List.mapM_cons, List.mapM_nil]
  simp [bArr.one, Program.keyLits, w0, w1, w2, w3, w4, w5]
theorem kb_inj {b c : List Int} (hb : K4 b) (hc : K4 c) (h : kb b = kb c) : b = c := by
  have e := bLaw.inj (keyOf_bun hb) (h ▸ keyOf_bun hc)
  obtain ⟨x0, x1, x2, x3, x4, x5, rfl⟩ := six hb.len
  obtain ⟨y0, y1, y2, y3, y4, y5, rfl⟩ := six hc.len
  rw [aggB_lit, aggB_lit] at e
  simpa using e
theorem kb_key (b : List Int) : WideAt.IsKeyLit (kb b) := trivial
abbrev DV := DataW Unit
/-- What a map that reads as M looks up. -/
def pick (o : Option Int) (zd : DV) : DV := match o with | some v => .lit (.int .i64 v) | none => zd
structure ReadsM (D : DV) (M : VV.Vm) : Prop where
  isMap : Maps.IsMap D
  supp : ∀ b v, M b = some v → K4 b ∧ 0 ≤ v ∧ v ≤ 1000000
  keys : ∀ kl, Maps.has D kl = true → ∃ b, K4 b ∧ kl = kb b
  at_ : ∀ b, K4 b → ∀ zd, D.atKey (kb b) zd = pick (M b) zd
/-- Block g of w is a map that reads as M. -/
def OwnV (w : World) (g n : Nat) (M : VV.Vm) : Prop := ∃ D : DV, w.ownsMap Try.prog 24 (plainElem Try.prog 2) g n D ∧ ReadsM D M
theorem ReadsM.nil : ReadsM (.map []) (fun _ => none) where
  isMap := Maps.isMap_empty
  supp _ _ h := by simp at h
  keys _ h := by simp [Maps.has] at h
  at_ _ _ _ := rfl
theorem ReadsM.put {D : DV} {M : VV.Vm} (h : ReadsM D M) {b : List Int} (hb : K4 b) {v : Int} (h0 : 0 ≤ v) (h1 : v ≤ 1000000) : ReadsM (D.put (kb b) (.lit (.int .i64 v))) (fun c => if c = b then some v else M c) where
  isMap := h.isMap.put _ _
  supp c x hx := by
    by_cases e : c = b
    · simp only [e, if_true, Option.some.injEq] at hx ⊢
      subst hx
      exact ⟨hb, h0, h1⟩
    · simp only [e, if_false] at hx
      exact h.supp c x hx
  keys kl hk := by
    by_cases e : kl = kb b
    · exact ⟨b, hb, e⟩
    · rw [Maps.has_put_other e] at hk
      exact h.keys kl hk
  at_ c hc zd := by
    by_cases e : c = b
    · subst e
      simp only [if_true]
      rw [Maps.atKey_put_same h.isMap (kb_key c)]
      rfl
    · simp only [e, if_false]
      rw [Maps.atKey_put_other (fun k => e (kb_inj hc hb k))]
      exact h.at_ c hc zd
theorem ReadsM.get {D : DV} {M : VV.Vm} (h : ReadsM D M) {b : List Int} (hb : K4 b) {c : Int} (hc : D.atKey (kb b) (.lit (.int .i64 0)) = .lit (.int .i64 c)) : c = (M b).getD 0 := by
  rw [h.at_ b hb] at hc
  unfold pick at hc
  cases hm : M b with
  | none => rw [hm] at hc; simp at hc; exact hc.symm
  | some v => rw [hm] at hc; simp at hc; exact hc.symm
theorem OwnV.kept {w w' : World} {row : Option Nat} {g n : Nat} {M : VV.Vm} (h : OwnV w g n M) (hg : w.grownBy w' row) (hne : some g ≠ row) : OwnV w' g n M :=
  let ⟨D, a, b⟩ := h
  ⟨D, a.kept hg hne, b⟩
theorem OwnV.lt {w : World} {g n : Nat} {M : VV.Vm} (h : OwnV w g n M) : g < w.heap.size := let ⟨_, a, _⟩ := h; a.lt
end Go.Proofs.Ytjjpfpgjpmedmaa
namespace Go.Proofs.Ytjjpfpgjpmedmaa
open Go.RowKit
theorem zero64 (w : World) : (zeroValue 2).run Try.prog w = .ok (.int .i64 0) w := by kernel_rfl
theorem grown_of {w w' : World} (hb : Below w.heap.size w w') : w.grownBy w' none := ⟨hb.os, hb.tape, hb.output, hb.size, fun k hk _ => hb.block k hk⟩
theorem upM_no {s b : List Int} {M : VV.Vm} {v : Int} (h : MB.withinB b s 6 = false) : VV.upM s M b v = M := by
  unfold VV.upM
  rw [if_neg]
  intro g
  rw [show VV.leB b s = false from h] at g
  cases g
theorem upM_yes {s b : List Int} {M : VV.Vm} {v : Int} (h : MB.withinB b s 6 = true) : VV.upM s M b v = fun c => if c = b then some (max ((M b).getD 0) (min v 1000000)) else M c := by
  unfold VV.upM
  rw [if_pos (show VV.leB b s = true from h)]
theorem K4.of_le {s b : List Int} (hs : K4 s) (hb : VV.Bu b) (h : MB.withinB b s 6 = true) : K4 b := by
  refine ⟨hb.len, ?_⟩
  unfold MB.okB
  rw [List.all_eq_true]
  intro q hq
  obtain ⟨k, hk, rfl⟩ := List.getElem_of_mem hq
  have h6 : k < 6 := by rw [← hb.len]; exact hk
  have e : b[k] = MB.at_ b k := by unfold MB.at_; rw [List.getD_eq_getElem?_getD, List.getElem?_eq_getElem hk]; rfl
  have h1 := hb.pos k h6
  have h2 := (MB.withinB_iff b s 6).1 h k h6
  have h3 := okB_at hs.ok (k := k) (by rw [hs.len]; exact h6)
  rw [e]
  simp
  omega
set_option maxRecDepth 100000 in
set_option maxHeartbeats 2000000 in
theorem raise_any (a b c d e f v s0 s1 s2 s3 s4 s5 : Int) (gs gm g n : Nat) (M : VV.Vm) (w : World) (hS : BB w gs 24 [s0, s1, s2, s3, s4, s5]) (hs4 : K4 [s0, s1, s2, s3, s4, s5])
    (hm : w.cell? ⟨gm, 0, none⟩ = some (.map (some g))) (hgm : gm < w.heap.size) (hO : OwnV w g n M) (hn : n ≤ 1000000) (hb : VV.Bu [a, b, c, d, e, f]) (hv0 : 0 ≤ v) (hv1 : v ≤ 2000000) :
    Calls Try.prog 98 #[.agg #[.int .i64 a, .int .i64 b, .int .i64 c, .int .i64 d, .int .i64 e, .int .i64 f], .int .i64 v, .pointer (some ⟨gs, 0, none⟩), .pointer (some ⟨gm, 0, none⟩)] w
      fun e' w' => e' = .returned (.tuple #[]) ∧ OwnV w' g (n + 1) (VV.upM [s0, s1, s2, s3, s4, s5] M [a, b, c, d, e, f] v) ∧ w.grownBy w' (some g) := by
  have HWi := Lib.hid (fun w => within_any a b c d e f s0 s1 s2 s3 s4 s5 w)
  have HB := Lib.hid (BB.new w 24 a b c d e f)
  have hb1 := below_new w (.cells #[.int .i64 a, .int .i64 b, .int .i64 c, .int .i64 d, .int .i64 e, .int .i64 f] 24)
  have HS := Lib.hid (hS.keep hb1 hS.lt)
  have HO := Lib.hid (hO.kept (grown_of hb1) (by simp))
  have HG := Lib.hid (grown_of hb1)
  have hm1 := (hb1.cell (p := ⟨gm, 0, none⟩) hgm).trans hm
  have hgm1 : gm < (w.alloc (.cells #[.int .i64 a, .int .i64 b, .int .i64 c, .int .i64 d, .int .i64 e, .int .i64 f] 24)).heap.size := Nat.lt_of_lt_of_le hgm hb1.size
  have hgo := hO.lt
  clear hS hm hgm hO
  go_enter Try.func98, Try.ntmps98
  go_upto_region 1 with (fail)
  generalize w.alloc (.cells #[.int .i64 a, .int .i64 b, .int .i64 c, .int .i64 d, .int .i64 e, .int .i64 f] 24) = w1 at *
  generalize w.heap.size = gb at *
  obtain ⟨q0, q1, q2, q3, q4, q5⟩ := cells6 HB.out
  obtain ⟨r0, r1, r2, r3, r4, r5⟩ := cells6 HS.out
  by_cases h : MB.withinB [a, b, c, d, e, f] [s0, s1, s2, s3, s4, s5] 6 = true
  · rw [h] at HWi
    have HK := Lib.hid (K4.of_le hs4 hb h)
    have HU := Lib.hid (upM_yes (M := M) (v := v) h)
    go_wp2_with fail
    refine (HWi.out _).mono ?_
    rintro e2 w2 ⟨rfl, hb2⟩
    have HB2 := Lib.hid (HB.out.keep hb2 HB.out.lt)
    have hm2 := (hb2.cell (p := ⟨gm, 0, none⟩) hgm1).trans hm1
    have HO2 := Lib.hid (HO.out.kept (grown_of hb2) (by simp))
    have HG2 := Lib.hid (HG.out.andThen (grown_of hb2) (by simp))
    clear hb2 q0 q1 q2 q3 q4 q5 r0 r1 r2 r3 r4 r5 HB HS HO HG hm1 HWi
    obtain ⟨q0, q1, q2, q3, q4, q5⟩ := cells6 HB2.out
    obtain ⟨D, hown, hrd⟩ := HO2.out
    obtain ⟨x, hrun, hat, _⟩ := hown.drew.lookup_int bLaw bMap bInt64 (zero64 _) (keyOf_bun HK.out)
    rw [aggB_lit] at hrun
    have hx := hrd.get HK.out hat
    go_wp2
    go_still_tail 8, (by kernel_rfl)
    change wpList _ _ _ _ _ w2.drew
    have hy : 0 ≤ (M [a, b, c, d, e, f]).getD 0 ∧ (M [a, b, c, d, e, f]).getD 0 ≤ 1000000 := by
      cases hmb : M [a, b, c, d, e, f] with
      | none => exact ⟨by simp, by simp⟩
      | some z => exact (hrd.supp _ _ hmb).2
    refine wpList_mapUpdate_own _ rfl _ _ _ 124 rfl 24 2 bLaw bMap _ g n D rfl hown.drew (by unfold maxLen; omega) _ _ (kb [a, b, c, d, e, f]) rfl rfl (keyOf_bun HK.out) (.lit (.int .i64 (max ((M [a, b, c, d, e, f]).getD 0) (min v 1000000)))) [] ?_ ?_
    · skip
      have he : max ((M [a, b, c, d, e, f]).getD 0) (min v 1000000) = (if (M [a, b, c, d, e, f]).getD 0 < if 1000000 < v then 1000000 else v then if 1000000 < v then 1000000 else v else (M [a, b, c, d, e, f]).getD 0) := by
        generalize (M [a, b, c, d, e, f]).getD 0 = y
        by_cases h1 : 1000000 < v
        · simp only [h1, if_true]; split <;> omega
        · simp only [h1, if_false]; split <;> omega
      have hwf := wf_small (x := max ((M [a, b, c, d, e, f]).getD 0) (min v 1000000)) (by omega) (by omega)
      rw [he] at hwf ⊢
      exact plainElem_int bInt64 hwf
    · intro w3 hown3 hg3
      have hg4 : w2.grownBy w3 (some g) := ⟨hg3.os, hg3.tape, hg3.output, hg3.size, hg3.block⟩
      have hfin : OwnV w3 g (n + 1) (VV.upM [s0, s1, s2, s3, s4, s5] M [a, b, c, d, e, f] v) ∧ w.grownBy w3 (some g) := by
        refine ⟨?_, (HG2.out.but _).andThen hg4 fun j hj => .inr hj⟩
        rw [HU.out]
        exact ⟨_, hown3, hrd.put HK.out (by omega) (by omega)⟩
      have HF := Lib.hid hfin
      clear hfin
      go_wp2 <;> (go_end0; exact ⟨rfl, HF.out.1, HF.out.2⟩)
  · have h' : MB.withinB [a, b, c, d, e, f] [s0, s1, s2, s3, s4, s5] 6 = false := by simpa using h
    rw [h'] at HWi
    have HU := Lib.hid (upM_no (M := M) (v := v) h')
    go_wp2_with fail
    refine (HWi.out _).mono ?_
    rintro e2 w2 ⟨rfl, hb2⟩
    have HO2 := Lib.hid (HO.out.kept (grown_of hb2) (by simp))
    have HG2 := Lib.hid (HG.out.andThen (grown_of hb2) (by simp))
    clear hb2 q0 q1 q2 q3 q4 q5 r0 r1 r2 r3 r4 r5 HB HS HO HG hm1 HWi
    go_wp2
    go_end0
    refine ⟨rfl, ?_, HG2.out.but _⟩
    rw [HU.out]
    obtain ⟨D, x, y⟩ := HO2.out
    exact ⟨D, x.mono (by omega), y⟩
end Go.Proofs.Ytjjpfpgjpmedmaa
namespace Go.Proofs.Ytjjpfpgjpmedmaa
open Go.RowKit
theorem own_ne_iter {w : World} {base : Nat} {e : TypeId} {size : Nat} {v : Value} {m : Nat} {xs : List Value} (h : w.ownsRow base e size v m xs) {P : Program} {k : TypeId} {R : Value → Option (DV × List MemPlace)} {b r n : Nat} {D : DV} {left : Lit → Bool} {cnt : Nat}
    (hr : w.ranges P k R b r n D left cnt) : some r ≠ v.ownBlock ∧ some b ≠ v.ownBlock := by
  obtain ⟨es, clock, since, seen, c0, hb, _, _, _, hi, _⟩ := hr
  rcases h.2 with ⟨rfl, _⟩ | ⟨g, cap, cur, rfl, hg, hh, _⟩
  · exact ⟨by simp [Value.ownBlock], by simp [Value.ownBlock]⟩
  · refine ⟨fun e => ?_, fun e => ?_⟩
    · simp [Value.ownBlock] at e
      subst e
      rw [hi] at hh
      cases hh
    · simp [Value.ownBlock] at e
      subst e
      rw [hb] at hh
      cases hh
/-- What has been listed when left is still to come. -/
structure ListInv (M : VV.Vm) (D : DV) (left : Lit → Bool) (S : VV.St) : Prop where
  mem : ∀ b x, (b, x) ∈ S ↔ M b = some x ∧ left (kb b) = false
  has : ∀ kl, left kl = true → Maps.has D kl = true
  len : S.length + 0 ≤ S.length
theorem ListInv.start {M : VV.Vm} {D : DV} (h : ReadsM D M) : ListInv M D (Maps.has D) [] where
  mem b x := by
    refine ⟨fun e => by simp at e, fun ⟨e, g⟩ => ?_⟩
    have hk := (h.supp b x e).1
    have : Maps.has D (kb b) = true := Maps.has_true_of_atKey fun zd => by rw [h.at_ b hk, e]; rfl
    rw [this] at g
    cases g
  has _ h := h
  len := Nat.le_refl _
theorem ListInv.step {M : VV.Vm} {D : DV} (hR : ReadsM D M) {left : Lit → Bool} {S : VV.St} (h : ListInv M D left S) {b : List Int} (hb : K4 b) {c : Int} (hl : left (kb b) = true) (hc : M b = some c) : ListInv M D (fun z => left z && !z.sameKey (kb b)) (S ++ [(b, c)]) where
  mem b' x := by
    rw [List.mem_append, List.mem_singleton, h.mem]
    constructor
    · rintro (⟨e, g⟩ | e)
      · exact ⟨e, by simp [g]⟩
      · simp only [Prod.mk.injEq] at e
        obtain ⟨rfl, rfl⟩ := e
        exact ⟨hc, by simp [WideAt.sameKey_self (kb_key b')]⟩
    · rintro ⟨e, g⟩
      by_cases hs : b' = b
      · subst hs
        rw [hc] at e
        injection e with e
        exact .inr (by rw [e])
      · refine .inl ⟨e, ?_⟩
        have hne : (kb b').sameKey (kb b) = false := Maps.sameKey_ne fun k => hs (kb_inj (hR.supp b' x e).1 hb k)
        simpa [hne] using g
  has kl hk := h.has kl (by simp at hk; exact hk.1)
  len := Nat.le_refl _
theorem ListInv.done {M : VV.Vm} {D : DV} {left : Lit → Bool} {S : VV.St} (h : ListInv M D left S) (hl : ∀ kl, left kl = false) : VV.Entries M S := fun b x => by rw [h.mem, hl]; exact ⟨fun e => e.1, fun e => ⟨e, rfl⟩⟩
def GivesSt (M : VV.Vm) (w : World) (e : Ending) (w' : World) : Prop := ∃ A n c S, e = .returned (.slice A n c) ∧ StW w' A n c S ∧ VV.Entries M S ∧ Below w.heap.size w w'
set_option maxRecDepth 100000 in
set_option maxHeartbeats 4000000 in
theorem listOf_any (g n : Nat) (M : VV.Vm) (w : World) (hO : OwnV w g n M) (hn : n ≤ 90000) : Calls Try.prog 99 #[.map (some g)] w (GivesSt M w) := by
  obtain ⟨D, hown, hrd⟩ := hO
  have HRd := Lib.hid hrd
  have hsz := hown.size_le
  have hlen : ∀ ty, (Builtin.len_ #[124] ty #[.map (some g)]).run Try.prog w = .ok (.int .i64 (Maps.size D)) w := fun ty => hown.len bMap ty
  obtain ⟨i0, hi, hz0, hz1, hz2⟩ := info_parts infoStep
  generalize Maps.size D = m at hsz hlen
  clear hrd
  go_enter Try.func99, Try.ntmps99
  go_wp2_with (at_make; refine wpList_make_own _ rfl _ _ 113 rfl w.heap.size 127 i0 (.agg #[.int .i64 0, .int .i64 0, .int .i64 0, .int .i64 0, .int .i64 0, .int .i64 0, .int .i64 0]) 7 Try.underlying113 hi hz0 hz1 .i64 .i64 _ m rfl rfl rfl ?b2 ?b3 (Nat.le_refl _) ?_)
  case b2 => rw [hz2]; omega
  case b3 => unfold maxLen; omega
  intro w1 hrow hg1
  have hmap1 := hown.kept hg1 (row := none) (by simp)
  have B1 := Lib.hid ((Below.refl w.heap.size w).grown hg1 (Nat.le_refl _) (by simp))
  clear hg1 hlen hsz
  go_wp2_with (first | (at_range; refine wpList_range_own _ rfl _ 124 rfl 24 2 bLaw bMap (plainElem Try.prog 2) g n D rfl hmap1 ?_; intro w2 hrg hg2 hs2) | go_in)
  go_frame
  have HR2 := Lib.hid hrg
  have OS2 := Lib.hid (show OwnS w2 w.heap.size (.slice (some ⟨w.heap.size, 0, none⟩) 0 m) [] from ⟨World.ownsRow.kept (row := none) hrow hg2 (by simp [Value.ownBlock]), fun _ h => by cases h⟩)
  have B2 := Lib.hid (B1.out.grown hg2 B1.out.size (by simp))
  have hrl : w.heap.size ≤ w1.heap.size := B1.out.size
  have INV := Lib.hid (ListInv.start HRd.out)
  generalize w1.heap.size = r at *
  clear hrow hrg hg2 hs2 hmap1 B1 hown
  go_loopw [3] (fun v wr => ∃ left cnt S, wr.ranges Try.prog 24 (plainElem Try.prog 2) g r n D left cnt ∧ OwnS wr w.heap.size v S ∧ Below w.heap.size w wr ∧ ListInv M D left S ∧ S.length + cnt ≤ n) (fun _ wr => wr.rangeLeft g r)
  case atStart => exact ⟨_, _, [], HR2.out, OS2.out, B2.out, INV.out, by have := HR2.out.owns.size_le; simpa using this⟩
  case round =>
    obtain ⟨left, cnt, S, hrg, hos, hbw, hinv, hcnt⟩ := hrel
    have R := Lib.hid hrg
    have O := Lib.hid hos
    have B := Lib.hid hbw
    have I := Lib.hid hinv
    have hleft := hrg.left_eq
    clear HR2 OS2 B2 INV hos hbw hinv
    go_wp2_with (first | (at_next; refine wpList_next_ranges _ rfl _ rfl 24 bLaw (plainElem Try.prog 2) (fun v : Value => v) (Value.int .i64) (fun key _ _ => ⟨key, rfl⟩) (fun v y hv => by obtain ⟨c, rfl, _⟩ := plainElem_int_inv bInt64 hv; exact ⟨c, rfl⟩) g r n D left cnt rfl hrg ?_ ?_) | go_in)
    · intro hc0 hl0
      clear hrg
      have HE := Lib.hid (I.out.done hl0)
      obtain ⟨A, c, hv, hst⟩ := O.out.form (by omega)
      subst hv
      have HST := Lib.hid hst
      clear hst hl0 O I
      go_wp2
      go_ret
      exact ⟨_, _, _, S, rfl, HST.out, HE.out, B.out⟩
    · intro x c kl y yp w1 cnt1 hkx hlx hRc hat hrg1 hlt1 hg3 hs3 hen
      clear hrg
      obtain ⟨b, hb4, rfl⟩ := HRd.out.keys kl (I.out.has kl hlx)
      have hxb := bLaw.inj hkx (keyOf_bun hb4)
      subst hxb
      obtain ⟨c', hcc, hyy, hwc⟩ := plainElem_int_inv bInt64 hRc
      simp only [Value.int.injEq, true_and] at hcc
      subst hcc
      simp only [Prod.mk.injEq] at hyy
      obtain ⟨rfl, rfl⟩ := hyy
      have hMc : M b = some c := by
        have h1 := HRd.out.at_ b hb4 (.lit (.int .i64 (c + 1)))
        rw [hat] at h1
        unfold pick at h1
        cases hm : M b with
        | none => rw [hm] at h1; simp at h1; omega
        | some z => rw [hm] at h1; simp at h1; rw [h1]
      have I1 := Lib.hid (I.out.step HRd.out hb4 hlx hMc)
      have O1 := Lib.hid (show OwnS w1 w.heap.size u3 S from ⟨World.ownsRow.kept (row := some r) O.out.1 hg3 (.inr fun e => (own_ne_iter O.out.1 R.out).1 e.symm), O.out.2⟩)
      have B1 := Lib.hid (B.out.grown hg3 B.out.size (fun k hk => by injection hk with hk; omega))
      clear R O B I hg3 hs3 hRc hkx hlx hat hMc
      have hlen6 := hb4.len
      obtain ⟨x0, x1, x2, x3, x4, x5, rfl⟩ := six hlen6
      simp only [aggB_lit] at hen
      go_upto_region 5 with (fail)
      have k1 := Lib.hid (BB.new w1 24 x0 x1 x2 x3 x4 x5)
      have k2 := Lib.hid (below_new w1 (.cells #[.int .i64 x0, .int .i64 x1, .int .i64 x2, .int .i64 x3, .int .i64 x4, .int .i64 x5] 24))
      have O4 := Lib.hid (O1.out.keep k2.out)
      have B4 := Lib.hid (B1.out.trans (k2.out.mono B1.out.size))
      have R4 := Lib.hid (hrg1.alloc (.cells #[.int .i64 x0, .int .i64 x1, .int .i64 x2, .int .i64 x3, .int .i64 x4, .int .i64 x5] 24))
      generalize w1.alloc (.cells #[.int .i64 x0, .int .i64 x1, .int .i64 x2, .int .i64 x3, .int .i64 x4, .int .i64 x5] 24) = w5 at *
      generalize w1.heap.size = g8 at *
      obtain ⟨d0, d1, d2, d3, d4, d5⟩ := cells6 k1.out
      have hX := heap_new w5 (.cells #[.int .i64 x0, .int .i64 x1, .int .i64 x2, .int .i64 x3, .int .i64 x4, .int .i64 x5, .int .i64 c] 127)
      have hs5 : w.heap.size ≤ w5.heap.size := B4.out.size
      have O6 := Lib.hid (O4.out.keep (below_new w5 (.cells #[.int .i64 x0, .int .i64 x1, .int .i64 x2, .int .i64 x3, .int .i64 x4, .int .i64 x5, .int .i64 c] 127)))
      have B6 := Lib.hid (B4.out.alloc B4.out.size (.cells #[.int .i64 x0, .int .i64 x1, .int .i64 x2, .int .i64 x3, .int .i64 x4, .int .i64 x5, .int .i64 c] 127))
      have R6 := Lib.hid (R4.out.alloc (.cells #[.int .i64 x0, .int .i64 x1, .int .i64 x2, .int .i64 x3, .int .i64 x4, .int .i64 x5, .int .i64 c] 127))
      have HX2 := Lib.hid (show ∀ j u, (cellsS ([x0, x1, x2, x3, x4, x5], c))[j]? = some u → (w5.alloc (.cells #[.int .i64 x0, .int .i64 x1, .int .i64 x2, .int .i64 x3, .int .i64 x4, .int .i64 x5, .int .i64 c] 127)).cell? ((⟨w5.heap.size, 0, none⟩ : Addr).add j) = some u from fun j u hu => by
        rw [addr_add, Nat.zero_add, cell_of_row _ _ j _ _ _ hX]
        show (List.toArray [Value.int .i64 x0, .int .i64 x1, .int .i64 x2, .int .i64 x3, .int .i64 x4, .int .i64 x5, .int .i64 c])[j]? = some u
        rw [List.getElem?_toArray]
        exact hu)
      have hne := own_ne_iter O6.out.1 R6.out
      have HNE := Lib.hid hne
      clear hX hne k1 k2 O1 B1 O4 B4 R4 hen hrg1 hb4
      go_wp2_with (at_builtin; refine wpList_append_own _ rfl _ _ 113 rfl w.heap.size 127 i0 (.agg #[.int .i64 0, .int .i64 0, .int .i64 0, .int .i64 0, .int .i64 0, .int .i64 0, .int .i64 0]) 7 56 Try.underlying113 hi hz0 hz1 hz2 rfl (by decide) _ _ _ rfl O6.out.1 ⟨w5.heap.size, 0, none⟩ 1 1 (cellsS ([x0, x1, x2, x3, x4, x5], c)) rfl rfl ?c1 ?c2 ?c3 ?c4 ?c5 ?_)
      case c1 => exact HX2.out
      case c2 =>
        intro u hu
        rcases List.mem_append.1 hu with e | e
        · exact cellsR_one _ u e
        · rw [List.mem_singleton.1 e]; rfl
      case c3 => unfold maxLen; omega
      case c4 => omega
      case c5 => simp; omega
      intro v' w7 hown' hgrow _
      have RR := O6.out.app (p := ([x0, x1, x2, x3, x4, x5], c)) rfl B6.out B6.out.size hown' hgrow
      have O7 := Lib.hid RR.1
      have B7 := Lib.hid RR.2
      have R7 := Lib.hid (R6.out.kept hgrow HNE.out.2 HNE.out.1)
      clear RR hown' hgrow O6 B6 R6 HX2 HNE d0 d1 d2 d3 d4 d5
      go_wp2
      go_roundw
      case rel => exact ⟨_, cnt1, S ++ [([x0, x1, x2, x3, x4, x5], c)], R7.out, O7.out, B7.out, I1.out, by simp; omega⟩
      case measure => rw [R7.out.left_eq, hleft]; exact hlt1
end Go.Proofs.Ytjjpfpgjpmedmaa
namespace Go.Proofs.Ytjjpfpgjpmedmaa
open Go.RowKit
theorem strike_len (N : Nat) : ∀ l : List Nat, l.Pairwise (fun a b => a ≠ b) → l.length ≤ (l.filter fun x => decide (x ≠ N)).length + 1
  | [], _ => by simp
  | a :: r, h => by
    obtain ⟨h1, h2⟩ := List.pairwise_cons.1 h
    by_cases e : a = N
    · subst e
      have : r.filter (fun x => decide (x ≠ a)) = r := List.filter_eq_self.2 fun x hx => by simp [(h1 x hx).symm]
      rw [List.filter_cons_of_neg (by simp), this]
      simp
    · rw [List.filter_cons_of_pos (by simp [e])]
      have := strike_len N r h2
      simp only [List.length_cons]
      omega
theorem few_below : ∀ (N : Nat) (l : List Nat), l.Pairwise (fun a b => a ≠ b) → (∀ x ∈ l, x < N) → l.length ≤ N
  | 0, l, _, h => by
    cases l with
    | nil => simp
    | cons a r => exact absurd (h a List.mem_cons_self) (Nat.not_lt_zero _)
  | N + 1, l, hp, h => by
    have h1 := strike_len N l hp
    have h2 := few_below N (l.filter fun x => decide (x ≠ N)) (hp.filter _) fun x hx => by
      obtain ⟨a, b⟩ := List.mem_filter.1 hx
      have := h x a
      simp at b
      omega
    omega
open Classical in
noncomputable def unkb (kl : Lit) : List Int := if h : ∃ b, K4 b ∧ kl = kb b then h.choose else VV.Z
theorem unkb_eq {b : List Int} (hb : K4 b) : unkb (kb b) = b := by
  have h : ∃ c, K4 c ∧ kb b = kb c := ⟨b, hb, rfl⟩
  unfold unkb
  rw [dif_pos h]
  exact (kb_inj hb h.choose_spec.1 h.choose_spec.2).symm
theorem ReadsM.small {D : DV} {M : VV.Vm} (h : ReadsM D M) (ht : ∃ es, D = .map es ∧ es.Pairwise (fun p q => p.1 ≠ q.1) ∧ ∀ p ∈ es, WideAt.IsKeyLit p.1) {s : List Int} (hs : K4 s) (hM : ∀ b v, M b = some v → VV.Le b s) : Maps.size D ≤ 15625 := by
  obtain ⟨es, rfl, hp, hik⟩ := ht
  have key : ∀ p ∈ es, ∃ b, K4 b ∧ p.1 = kb b ∧ VV.Le b s := fun p hpm => by
    have hh : ∀ b, K4 b → p.1 = kb b → Maps.has (.map es : DV) (kb b) = true := fun b _ e => by
      rw [Maps.has_eq]
      exact List.any_eq_true.2 ⟨p, hpm, by rw [e]; exact WideAt.sameKey_self (kb_key b)⟩
    have hk : Maps.has (.map es : DV) p.1 = true := by
      rw [Maps.has_eq]
      exact List.any_eq_true.2 ⟨p, hpm, WideAt.sameKey_self (hik p hpm)⟩
    obtain ⟨b, hb, e⟩ := h.keys _ hk
    refine ⟨b, hb, e, ?_⟩
    cases hm : M b with
    | none =>
      have := Maps.has_false_of_atKey (D := (.map es : DV)) (k := kb b) fun z => by rw [h.at_ b hb, hm]; rfl
      rw [hh b hb e] at this
      cases this
    | some v => exact hM b v hm
  have hl : (es.map fun p => VV.rank s (unkb p.1)).length ≤ VV.cnt s := by
    refine few_below _ _ (List.pairwise_map.2 (hp.imp_of_mem fun {p q} hpm hqm hne e => ?_)) fun x hx => ?_
    · obtain ⟨b, hb, e1, l1⟩ := key p hpm
      obtain ⟨c, hc, e2, l2⟩ := key q hqm
      rw [e1, e2, unkb_eq hb, unkb_eq hc] at e
      apply hne
      rw [e1, e2, ← VV.at_rank hs.bu hb.bu l1, ← VV.at_rank hs.bu hc.bu l2, e]
    · obtain ⟨p, hpm, rfl⟩ := List.mem_map.1 hx
      obtain ⟨b, hb, e1, l1⟩ := key p hpm
      rw [e1, unkb_eq hb]
      exact VV.rank_lt hs.bu hb.bu l1
  rw [List.length_map] at hl
  rw [Maps.size_eq]
  exact Nat.le_trans hl (P_small hs.ok hs.len (Nat.le_refl 6))
theorem OwnV.small {w : World} {g n : Nat} {M : VV.Vm} (h : OwnV w g n M) {s : List Int} (hs : K4 s) (hM : ∀ b v, M b = some v → VV.Le b s) : OwnV w g 15625 M := by
  obtain ⟨D, hown, hrd⟩ := h
  have hsm := hrd.small (hown.entries bLaw) hs hM
  refine ⟨D, ?_, hrd⟩
  obtain ⟨es, clock, hb, F, _, rfl⟩ := hown
  refine ⟨es, clock, hb, F, ?_, rfl⟩
  have e : Maps.size (DataW.map ((es.toList.map (WideElems.rg Try.prog 24 (plainElem Try.prog 2))).foldr DataW.insert []) : DV) = es.size := by simp [Maps.size, length_sorted]
  rw [e] at hsm
  exact hsm
/-- The call's own things: the supply's box gs, the map g, the cell gm that points to it. -/
structure Fr (w : World) (base gs g gm : Nat) (s : List Int) (M : VV.Vm) (wr : World) : Prop where
  sup : BB wr gs 24 s
  cell : wr.cell? ⟨gm, 0, none⟩ = some (.map (some g))
  cellLt : gm < wr.heap.size
  own : OwnV wr g 15625 M
  low : base ≤ g
  nes : gs ≠ g
  nem : gm ≠ g
  below : Below base w wr
theorem Fr.keep {w wr w' : World} {base gs g gm : Nat} {s : List Int} {M : VV.Vm} (h : Fr w base gs g gm s M wr) (hb : Below wr.heap.size wr w') : Fr w base gs g gm s M w' where
  sup := h.sup.keep hb h.sup.lt
  cell := (hb.cell (p := ⟨gm, 0, none⟩) h.cellLt).trans h.cell
  cellLt := Nat.lt_of_lt_of_le h.cellLt hb.size
  own := h.own.kept (grown_of hb) (by simp)
  low := h.low
  nes := h.nes
  nem := h.nem
  below := h.below.trans (hb.mono (Nat.le_of_lt (Nat.lt_of_le_of_lt h.low h.own.lt)))
theorem Fr.raise {w wr w' : World} {base gs g gm : Nat} {s : List Int} {M M' : VV.Vm} {n : Nat} (h : Fr w base gs g gm s M wr) (hs : K4 s) (hM : ∀ b v, M' b = some v → VV.Le b s) (hO : OwnV w' g n M') (hg : wr.grownBy w' (some g)) : Fr w base gs g gm s M' w' where
  sup := ⟨(hg.block gs h.sup.lt (fun e => h.nes (by simpa using e))).trans h.sup.1, h.sup.2⟩
  cell := by
    rw [← h.cell]
    unfold World.cell?
    rw [hg.block gm h.cellLt (fun e => h.nem (by simpa using e))]
  cellLt := Nat.lt_of_lt_of_le h.cellLt hg.size
  own := hO.small hs hM
  low := h.low
  nes := h.nes
  nem := h.nem
  below := h.below.grown hg (Nat.le_of_lt (Nat.lt_of_le_of_lt h.low h.own.lt)) (fun k hk => by injection hk with hk; rw [← hk]; exact h.low)
end Go.Proofs.Ytjjpfpgjpmedmaa
