/- ItoaL, PTab, PTabs, joined: no claim of its own. -/
import Derived.Shelf.Strconv.Itoa4
import Derived.Shelf.LaysM
import Derived.Test.YtcokplikmjegcaaDoorJA
import Derived.Test.YtcokplikmjegcaaDoorMathXR
import Derived.Lib.ItoaNum
import Derived.Lib.AppendIntMem
import Derived.Test.YtcokplikmjegcaaDoorRows
import Derived.Lib.LaidTab
import Derived.ChangeSame
import Derived.OpenShut
namespace Go.Proofs.YtcokplikmjegcaaDoor
open Go.Shelf
def laysM173_ren : Go.Shelf.Ren := ⟨fun | 173 => 54 | 246 => 74 | 283 => 82 | 284 => 83 | 285 => 84 | 286 => 85 | 129 => 89 | 317 => 88 | 318 => 90 | 319 => 91 | 320 => 92 | 337 => 93 | 338 => 94 | n => n, fun | 2 => 2 | 3 => 3 | 9 => 9 | 4 => 4 | 171 => 119 | 0 => 0 | 53 => 120 | 37 => 44 | 5 => 5 | 173 => 123 | 212 => 129 | 51 => 126 | 20 => 20 | 213 => 130 | 46 => 132 | 232 => 135 | 233 => 136 | n => n, fun | 17 => 1 | 18 => 3 | 19 => 4 | n => n⟩
theorem laysM173 : Go.Proofs.LaysM.n173 Tryd.prog laysM173_ren := {
  mixed := by kernel_rfl
  f129 := Tryd.func89.trans (congrArg some (by kernel_rfl))
  f173 := Tryd.func54.trans (congrArg some (by kernel_rfl))
  f246 := Tryd.func74.trans (congrArg some (by kernel_rfl))
  f283 := Tryd.func82.trans (congrArg some (by kernel_rfl))
  f284 := Tryd.func83.trans (congrArg some (by kernel_rfl))
  f285 := Tryd.func84.trans (congrArg some (by kernel_rfl))
  f286 := Tryd.func85.trans (congrArg some (by kernel_rfl))
  f317 := Tryd.func88.trans (congrArg some (by kernel_rfl))
  f318 := Tryd.func90.trans (congrArg some (by kernel_rfl))
  f319 := Tryd.func91.trans (congrArg some (by kernel_rfl))
  f320 := Tryd.func92.trans (congrArg some (by kernel_rfl))
  f337 := Tryd.func93.trans (congrArg some (by kernel_rfl))
  f338 := Tryd.func94.trans (congrArg some (by kernel_rfl))
  t0 := Tryd.underlying0
  a0 := Tryd.isAgg0
  z0 := Tryd.sizeOf0
  v0 := Tryd.zeroValue0
  t2 := Tryd.underlying2
  a2 := Tryd.isAgg2
  z2 := Tryd.sizeOf2
  v2 := Tryd.zeroValue2
  t3 := Tryd.underlying3
  a3 := Tryd.isAgg3
  z3 := Tryd.sizeOf3
  v3 := Tryd.zeroValue3
  t4 := Tryd.underlying4
  a4 := Tryd.isAgg4
  z4 := Tryd.sizeOf4
  v4 := Tryd.zeroValue4
  t5 := Tryd.underlying5
  a5 := Tryd.isAgg5
  z5 := Tryd.sizeOf5
  v5 := Tryd.zeroValue5
  t9 := Tryd.underlying9
  a9 := Tryd.isAgg9
  z9 := Tryd.sizeOf9
  v9 := Tryd.zeroValue9
  t20 := Tryd.underlying20
  a20 := Tryd.isAgg20
  z20 := Tryd.sizeOf20
  v20 := Tryd.zeroValue20
  t37 := Tryd.underlying44
  a37 := Tryd.isAgg44
  z37 := Tryd.sizeOf44
  v37 := Tryd.zeroValue44
  t46 := Tryd.underlying132
  a46 := Tryd.isAgg132
  z46 := Tryd.sizeOf132
  v46 := Tryd.zeroValue132
  t51 := Tryd.underlying126
  a51 := Tryd.isAgg126
  z51 := Tryd.sizeOf126
  v51 := Tryd.zeroValue126
  t53 := Tryd.underlying120
  a53 := Tryd.isAgg120
  z53 := Tryd.sizeOf120
  v53 := Tryd.zeroValue120
  t171 := Tryd.underlying119
  a171 := Tryd.isAgg119
  z171 := Tryd.sizeOf119
  v171 := Tryd.zeroValue119
  t173 := Tryd.underlying123
  a173 := Tryd.isAgg123
  z173 := Tryd.sizeOf123
  v173 := Tryd.zeroValue123
  t212 := Tryd.underlying129
  a212 := Tryd.isAgg129
  z212 := Tryd.sizeOf129
  v212 := Tryd.zeroValue129
  t213 := Tryd.underlying130
  a213 := Tryd.isAgg130
  z213 := Tryd.sizeOf130
  t232 := Tryd.underlying135
  a232 := Tryd.isAgg135
  z232 := Tryd.sizeOf135
  v232 := Tryd.zeroValue135
  t233 := Tryd.underlying136
  a233 := Tryd.isAgg136
  z233 := Tryd.sizeOf136
  v233 := Tryd.zeroValue136
  g17 := by kernel_rfl
  g18 := by kernel_rfl
  g19 := by kernel_rfl
  i0 := by kernel_rfl
  i2 := by kernel_rfl
  i3 := by kernel_rfl
  i4 := by kernel_rfl
  i5 := by kernel_rfl
  i9 := by kernel_rfl
  i20 := by kernel_rfl
  i37 := by kernel_rfl
  i46 := by kernel_rfl
  i51 := by kernel_rfl
  i53 := by kernel_rfl
  i171 := by kernel_rfl
  i173 := by kernel_rfl
  i212 := by kernel_rfl
  i232 := by kernel_rfl
  i233 := by kernel_rfl
  m17 := by kernel_rfl
  m18 := by kernel_rfl
  m19 := by kernel_rfl }
end Go.Proofs.YtcokplikmjegcaaDoor
namespace Go.Proofs.YtcokplikmjegcaaDoor
open Go.RowKit Go.Shelf Go.Sort
/-- The table of powers of ten lies as the library's text lays it. -/
def Tab (w : World) : Prop := Lib.TabIs Tryd.prog w "internal/strconv.uint64pow10" .u64 Lib.pow10Tab
theorem Tab.below {w w' : World} {N : Nat} (h : Tab w) (hb : Below N w w') (hN : ∀ g, Tryd.prog.globalNamed "internal/strconv.uint64pow10" = some g → g < N) : Tab w' := by
  unfold Tab Lib.TabIs World.var? at *
  cases e : Tryd.prog.globalNamed "internal/strconv.uint64pow10" with
  | none => rw [e] at h; exact h
  | some g =>
    rw [e] at h
    simp only [Option.bind_some] at h ⊢
    rw [hb.block g (hN g e)]; exact h
theorem Tab.keep {w w' : World} (h : Tab w) (hb : Below w.heap.size w w') : Tab w' := by
  unfold Tab Lib.TabIs World.var? at *
  cases e : Tryd.prog.globalNamed "internal/strconv.uint64pow10" with
  | none => rw [e] at h; exact h
  | some g =>
    rw [e] at h
    simp only [Option.bind_some] at h ⊢
    by_cases hg : g < w.heap.size
    · rw [hb.block g hg]; exact h
    · rw [Array.getElem?_eq_none (by omega)] at h; cases h
theorem decD (n : Nat) : Lib.decDigits n = MU.dec n := by
  induction n using Nat.strongRecOn with
  | ind n ih =>
    by_cases h : n < 10
    · rw [MU.dec_small h, Lib.decDigits_one h]
    · rw [MU.dec_big h, ← ih (n / 10) (by omega), Lib.decDigits, dif_neg h]
theorem itoaN (v : Int) : Lib.itoa v = MU.num v := by
  unfold Lib.itoa MU.num
  by_cases h : v < 0
  · rw [if_pos h, if_pos h, decD]
    congr 2
    omega
  · rw [if_neg h, if_neg h, decD]
theorem fmtInt_any (v : Int) (h0 : -9223372036854775808 ≤ v) (h1 : v ≤ 9223372036854775807) (w : World) (ht : Tab w) :
    Calls Tryd.prog 54 #[.int .i64 v, .int .i64 10] w (Gives (.string (str (MU.num v))) w) := by
  refine (Any.strconv_FormatInt_10 laysM173 v h0 h1 w ht).mono ?_
  rintro e w1 ⟨rfl, k, os, rfl⟩
  rw [itoaN]
  exact ⟨rfl, Lib.below_grow w.heap.size w (Nat.le_refl _) k os⟩
/-- The words and layouts of the operations. -/
def opWd : Nat → ByteArray
  | 2 => ⟨#[120, 111, 114]⟩
  | 3 => ⟨#[111, 114]⟩
  | 4 => ⟨#[98, 111, 110, 117, 115]⟩
  | 5 => ⟨#[108, 105, 109, 105, 116]⟩
  | _ => ⟨#[]⟩
def opLy : Nat → ByteArray
  | 1 => ⟨#[98]⟩
  | 2 => ⟨#[40, 108, 41]⟩
  | 3 => ⟨#[40, 108, 41]⟩
  | 4 => ⟨#[40, 101, 44, 98, 41]⟩
  | 5 => ⟨#[40, 101, 44, 118, 41]⟩
  | _ => ⟨#[]⟩
/-- The table lies as its initialiser lays it. -/
structure Ops (w : World) : Prop where
  lt : 0 < w.heap.size
  wd : ∀ k, k < 6 → w.cell? ⟨0, k * 2, none⟩ = some (.string (opWd k))
  ly : ∀ k, k < 6 → w.cell? ⟨0, k * 2 + 1, none⟩ = some (.string (opLy k))
theorem Ops.same {w w' : World} (h : Ops w) (hb : w'.heap[0]? = w.heap[0]?) (hs : w.heap.size ≤ w'.heap.size) : Ops w' := by
  have e : ∀ j, w'.cell? ⟨0, j, none⟩ = w.cell? ⟨0, j, none⟩ := fun j => by unfold World.cell?; rw [hb]
  exact ⟨Nat.lt_of_lt_of_le h.lt hs, fun k hk => (e _).trans (h.wd k hk), fun k hk => (e _).trans (h.ly k hk)⟩
theorem Ops.keep {w w' : World} (h : Ops w) (hb : Below w.heap.size w w') : Ops w' := h.same (hb.block _ h.lt) hb.size
theorem Ops.below {w w' : World} {N : Nat} (h : Ops w) (hb : Below N w w') (hN : 0 < N) : Ops w' := h.same (hb.block _ hN) hb.size
end Go.Proofs.YtcokplikmjegcaaDoor
namespace Go.Proofs.YtcokplikmjegcaaDoor
open Go.RowKit
theorem laidMet_tail {P : Program} {x : String} {d : DataW Unit} {L : List (String × DataW Unit)} {w : World} (h : laidMet P ((x, d) :: L) w) : laidMet P L w := by
  obtain ⟨ps, ⟨g, t, cs, fuel, p, q, _, _, _, _, hr, rfl⟩, hn, hc⟩ := h
  exact ⟨q, hr, (List.nodup_append.1 hn).2.1, fun b off hm => hc b off (List.mem_append_right _ hm)⟩
def tab32 : List Int := [0, 1, 28, 2, 29, 14, 24, 3, 30, 22, 20, 15, 25, 17, 4, 8, 31, 27, 13, 23, 21, 19, 16, 7, 26, 12, 18, 6, 11, 5, 10, 9]
def tab64 : List Int := [0, 1, 56, 2, 57, 49, 28, 3, 61, 58, 42, 50, 38, 29, 17, 4, 62, 47, 59, 36, 45, 43, 51, 22, 53, 39, 33, 30, 24, 18, 12, 5, 63, 55, 48, 27, 60, 41, 37, 16, 46, 35, 44, 21, 52, 32, 23, 11, 54, 26, 40, 15, 34, 20, 31, 10, 25, 14, 19, 9, 13, 8, 7, 6]
theorem pow10G : Tryd.prog.globalNamed "internal/strconv.uint64pow10" = some 1 := by kernel_rfl
theorem pow10T : (Tryd.prog.globals[1]?).map (·.type) = some 129 := by kernel_rfl
theorem pow10_cells : Tryd.prog.cellsOf 129 = 20 := by kernel_rfl
theorem pow10_cell : Tryd.prog.cellsOf 120 = 1 := by kernel_rfl
theorem pow10E : (Rows.laid_internal_strconv_uint64pow10 : DataW Unit) = Lib.tabData .u64 Lib.pow10Tab := by kernel_rfl
theorem opsG : Tryd.prog.globalNamed "saleroom/exprtext.operations" = some 0 := by kernel_rfl
theorem opsT : (Tryd.prog.globals[0]?).map (·.type) = some 76 := by kernel_rfl
theorem ops_cells : Tryd.prog.cellsOf 76 = 12 := by kernel_rfl
theorem ops_cell : Tryd.prog.cellsOf 75 = 2 := by kernel_rfl
theorem ops_str : Tryd.prog.cellsOf 9 = 1 := by kernel_rfl
theorem str_of_data {s : ByteArray} {l : List UInt8} (h : s.data.toList = l) : s = ⟨l.toArray⟩ := by
  obtain ⟨d⟩ := s
  rw [← h]
set_option maxRecDepth 100000 in
/-- Two texts that read so lie so. -/
theorem pair_of {enc : TypeId × Value → Unit} {w : World} {b : Nat} {sp : Nat → Bool} {held : Bool} {m : Nat} {c0 c1 : Value} {wd ly : List UInt8} {p : List MemPlace}
    (h : DataW.trod enc Tryd.prog w b sp held m 75 [c0, c1] = some (.agg [.lit (.string wd), .lit (.string ly)], p)) : c0 = .string ⟨wd.toArray⟩ ∧ c1 = .string ⟨ly.toArray⟩ := by
  obtain ⟨y0, y1, n, hy, _, h0, h1⟩ := ChangeShapes.trod_struct2 Tryd.underlying75 h
  simp only [Prod.mk.injEq, DataW.agg.injEq, List.cons.injEq, and_true] at hy
  obtain ⟨⟨e0, e1⟩, _⟩ := hy
  have h0' : DataW.trod enc Tryd.prog w b sp held n 9 [c0] = some y0 := h0
  have h1' : DataW.trod enc Tryd.prog w b sp held n 9 [c1] = some y1 := h1
  obtain ⟨s0, k0, z0, _⟩ := DataW.trod_string Tryd.underlying9 h0'
  obtain ⟨s1, k1, z1, _⟩ := DataW.trod_string Tryd.underlying9 h1'
  rw [z0] at e0
  rw [z1] at e1
  simp only [DataW.lit.injEq, Lit.string.injEq] at e0 e1
  injection k0 with k0 _
  injection k1 with k1 _
  exact ⟨by rw [k0, str_of_data e0.symm], by rw [k1, str_of_data e1.symm]⟩
set_option maxRecDepth 100000 in
theorem ops_of {W : World} (hL : laidMet Tryd.prog [("saleroom/exprtext.operations", Rows.laid_saleroom_exprtext_operations)] W) : Ops W := by
  obtain ⟨ps, ⟨g', t', cs, fuel, p, q, hg', ht', hvar, hd, _, _⟩, _⟩ := hL
  obtain rfl := Option.some.inj (opsG.symm.trans hg')
  obtain rfl := Option.some.inj (opsT.symm.trans ht')
  obtain ⟨xs, m, _, hy, hcs, hl, hi⟩ := DataW.trod_array Tryd.underlying76 hd
  have hl6 : xs.length = 6 := hl
  have hsz : cs.toList.length = 12 := by rw [hcs]; exact ops_cells
  obtain ⟨x0, x1, x2, x3, x4, x5, rfl⟩ : ∃ x0 x1 x2 x3 x4 x5, xs = [x0, x1, x2, x3, x4, x5] := by
    match xs, hl6 with
    | [x0, x1, x2, x3, x4, x5], _ => exact ⟨x0, x1, x2, x3, x4, x5, rfl⟩
  obtain ⟨c0, c1, c2, c3, c4, c5, c6, c7, c8, c9, c10, c11, hc⟩ : ∃ c0 c1 c2 c3 c4 c5 c6 c7 c8 c9 c10 c11, cs.toList = [c0, c1, c2, c3, c4, c5, c6, c7, c8, c9, c10, c11] := by
    match cs.toList, hsz with
    | [c0, c1, c2, c3, c4, c5, c6, c7, c8, c9, c10, c11], _ => exact ⟨c0, c1, c2, c3, c4, c5, c6, c7, c8, c9, c10, c11, rfl⟩
  have hcell := ops_cell
  simp only [Prod.mk.injEq, Rows.laid_saleroom_exprtext_operations, DataW.agg.injEq, List.map_cons, List.map_nil, List.cons.injEq, and_true] at hy
  obtain ⟨⟨e0, e1, e2, e3, e4, e5⟩, _⟩ := hy
  rw [hc] at hi
  have u0 : DataW.trod (fun _ => ()) Tryd.prog W 0 (fun _ => true) false m 75 [c0, c1] = some x0 := by have := hi 0 (by decide); rw [hcell] at this; exact this
  obtain ⟨k0, k1⟩ := pair_of (wd := []) (ly := []) (p := x0.2) (u0.trans (congrArg some (Prod.ext e0.symm rfl)))
  have u1 : DataW.trod (fun _ => ()) Tryd.prog W 0 (fun _ => true) false m 75 [c2, c3] = some x1 := by have := hi 1 (by decide); rw [hcell] at this; exact this
  obtain ⟨k2, k3⟩ := pair_of (wd := []) (ly := [98]) (p := x1.2) (u1.trans (congrArg some (Prod.ext e1.symm rfl)))
  have u2 : DataW.trod (fun _ => ()) Tryd.prog W 0 (fun _ => true) false m 75 [c4, c5] = some x2 := by have := hi 2 (by decide); rw [hcell] at this; exact this
  obtain ⟨k4, k5⟩ := pair_of (wd := [120, 111, 114]) (ly := [40, 108, 41]) (p := x2.2) (u2.trans (congrArg some (Prod.ext e2.symm rfl)))
  have u3 : DataW.trod (fun _ => ()) Tryd.prog W 0 (fun _ => true) false m 75 [c6, c7] = some x3 := by have := hi 3 (by decide); rw [hcell] at this; exact this
  obtain ⟨k6, k7⟩ := pair_of (wd := [111, 114]) (ly := [40, 108, 41]) (p := x3.2) (u3.trans (congrArg some (Prod.ext e3.symm rfl)))
  have u4 : DataW.trod (fun _ => ()) Tryd.prog W 0 (fun _ => true) false m 75 [c8, c9] = some x4 := by have := hi 4 (by decide); rw [hcell] at this; exact this
  obtain ⟨k8, k9⟩ := pair_of (wd := [98, 111, 110, 117, 115]) (ly := [40, 101, 44, 98, 41]) (p := x4.2) (u4.trans (congrArg some (Prod.ext e4.symm rfl)))
  have u5 : DataW.trod (fun _ => ()) Tryd.prog W 0 (fun _ => true) false m 75 [c10, c11] = some x5 := by have := hi 5 (by decide); rw [hcell] at this; exact this
  obtain ⟨k10, k11⟩ := pair_of (wd := [108, 105, 109, 105, 116]) (ly := [40, 101, 44, 118, 41]) (p := x5.2) (u5.trans (congrArg some (Prod.ext e5.symm rfl)))
  have cell : ∀ j (v : Value), [c0, c1, c2, c3, c4, c5, c6, c7, c8, c9, c10, c11][j]? = some v → W.cell? ⟨0, j, none⟩ = some v := fun j v hj => by
    have := World.var?_cell opsG hvar j
    rw [this, ← Array.getElem?_toList, hc]
    exact hj
  subst k0 k1 k2 k3 k4 k5 k6 k7 k8 k9 k10 k11
  refine ⟨World.block_lt_of_cell? W _ (cell 0 _ rfl), fun k hk => ?_, fun k hk => ?_⟩
  all_goals
    have hk6 : k = 0 ∨ k = 1 ∨ k = 2 ∨ k = 3 ∨ k = 4 ∨ k = 5 := by omega
    rcases hk6 with rfl | rfl | rfl | rfl | rfl | rfl
    all_goals exact cell _ _ rfl
theorem tabs_of_laid {W : World} (hL : laidMet Tryd.prog [("math/bits.deBruijn32tab", Rows.laid_math_bits_deBruijn32tab), ("math/bits.deBruijn64tab", Rows.laid_math_bits_deBruijn64tab), ("internal/strconv.uint64pow10", Rows.laid_internal_strconv_uint64pow10), ("saleroom/exprtext.operations", Rows.laid_saleroom_exprtext_operations)] W) : Tab W ∧ Ops W := by
  have hL' := laidMet_tail (laidMet_tail hL)
  refine ⟨?_, ops_of (laidMet_tail hL')⟩
  rw [pow10E] at hL'
  exact Lib.tabIs_of_head pow10G pow10T Tryd.underlying129 Tryd.underlying120 pow10_cell pow10_cells hL'
def tabP : List Int := [1, 10, 100, 1000, 10000, 100000, 1000000, 10000000, 100000000, 1000000000, 10000000000, 100000000000, 1000000000000, 10000000000000, 100000000000000, 1000000000000000, 10000000000000000, 100000000000000000, 1000000000000000000, 10000000000000000000]
/-- A table's cells as its initialiser lays them. -/
def layAs (k : IntKind) (zs : List Int) : Obj → Obj
  | .cells _ t frozen => .cells (zs.map (Value.int k)).toArray t frozen
  | o => o
def layOps : Obj → Obj
  | .cells _ t frozen => .cells #[.string ⟨#[]⟩, .string ⟨#[]⟩, .string ⟨#[]⟩, .string ⟨#[98]⟩, .string ⟨#[120, 111, 114]⟩, .string ⟨#[40, 108, 41]⟩, .string ⟨#[111, 114]⟩, .string ⟨#[40, 108, 41]⟩, .string ⟨#[98, 111, 110, 117, 115]⟩, .string ⟨#[40, 101, 44, 98, 41]⟩, .string ⟨#[108, 105, 109, 105, 116]⟩, .string ⟨#[40, 101, 44, 118, 41]⟩] t frozen
  | o => o
/-- A world for the witness: the settled one, the four tables laid. -/
noncomputable def laidWorld (os : Os) : World :=
  { World.holding Tryd.prog os ⟨#[], #[], []⟩ with heap := ((((World.holding Tryd.prog os ⟨#[], #[], []⟩).heap.modify 3 (layAs .u8 tab32)).modify 4 (layAs .u8 tab64)).modify 1 (layAs .u64 tabP)).modify 0 layOps }
end Go.Proofs.YtcokplikmjegcaaDoor
