/- ItoaL, PTab, PTabs, joined: no claim of its own. -/
import Derived.Shelf.Strconv.Itoa4
import Derived.Shelf.LaysM
import Derived.Test.YtcokplikmjegcaaGreatDoorJA
import Derived.Test.YtcokplikmjegcaaGreatDoorMathXR
import Derived.Lib.ItoaNum
import Derived.Lib.AppendIntMem
import Derived.Test.YtcokplikmjegcaaGreatDoorRows
import Derived.Lib.LaidTab
import Derived.ChangeSame
import Derived.OpenShut
namespace Go.Proofs.YtcokplikmjegcaaGreatDoor
open Go.Shelf
def laysM173_ren : Go.Shelf.Ren := ⟨fun | 173 => 80 | 246 => 109 | 283 => 120 | 284 => 121 | 285 => 122 | 286 => 123 | 129 => 127 | 317 => 126 | 318 => 128 | 319 => 129 | 320 => 130 | 337 => 131 | 338 => 132 | n => n, fun | 2 => 2 | 3 => 3 | 9 => 9 | 4 => 4 | 171 => 143 | 0 => 0 | 53 => 144 | 37 => 45 | 5 => 5 | 173 => 147 | 212 => 153 | 51 => 150 | 20 => 20 | 213 => 154 | 46 => 156 | 232 => 159 | 233 => 160 | n => n, fun | 17 => 1 | 18 => 3 | 19 => 4 | n => n⟩
theorem laysM173 : Go.Proofs.LaysM.n173 Tryz.prog laysM173_ren := {
  mixed := by kernel_rfl
  f129 := Tryz.func127.trans (congrArg some (by kernel_rfl))
  f173 := Tryz.func80.trans (congrArg some (by kernel_rfl))
  f246 := Tryz.func109.trans (congrArg some (by kernel_rfl))
  f283 := Tryz.func120.trans (congrArg some (by kernel_rfl))
  f284 := Tryz.func121.trans (congrArg some (by kernel_rfl))
  f285 := Tryz.func122.trans (congrArg some (by kernel_rfl))
  f286 := Tryz.func123.trans (congrArg some (by kernel_rfl))
  f317 := Tryz.func126.trans (congrArg some (by kernel_rfl))
  f318 := Tryz.func128.trans (congrArg some (by kernel_rfl))
  f319 := Tryz.func129.trans (congrArg some (by kernel_rfl))
  f320 := Tryz.func130.trans (congrArg some (by kernel_rfl))
  f337 := Tryz.func131.trans (congrArg some (by kernel_rfl))
  f338 := Tryz.func132.trans (congrArg some (by kernel_rfl))
  t0 := Tryz.underlying0
  a0 := Tryz.isAgg0
  z0 := Tryz.sizeOf0
  v0 := Tryz.zeroValue0
  t2 := Tryz.underlying2
  a2 := Tryz.isAgg2
  z2 := Tryz.sizeOf2
  v2 := Tryz.zeroValue2
  t3 := Tryz.underlying3
  a3 := Tryz.isAgg3
  z3 := Tryz.sizeOf3
  v3 := Tryz.zeroValue3
  t4 := Tryz.underlying4
  a4 := Tryz.isAgg4
  z4 := Tryz.sizeOf4
  v4 := Tryz.zeroValue4
  t5 := Tryz.underlying5
  a5 := Tryz.isAgg5
  z5 := Tryz.sizeOf5
  v5 := Tryz.zeroValue5
  t9 := Tryz.underlying9
  a9 := Tryz.isAgg9
  z9 := Tryz.sizeOf9
  v9 := Tryz.zeroValue9
  t20 := Tryz.underlying20
  a20 := Tryz.isAgg20
  z20 := Tryz.sizeOf20
  v20 := Tryz.zeroValue20
  t37 := Tryz.underlying45
  a37 := Tryz.isAgg45
  z37 := Tryz.sizeOf45
  v37 := Tryz.zeroValue45
  t46 := Tryz.underlying156
  a46 := Tryz.isAgg156
  z46 := Tryz.sizeOf156
  v46 := Tryz.zeroValue156
  t51 := Tryz.underlying150
  a51 := Tryz.isAgg150
  z51 := Tryz.sizeOf150
  v51 := Tryz.zeroValue150
  t53 := Tryz.underlying144
  a53 := Tryz.isAgg144
  z53 := Tryz.sizeOf144
  v53 := Tryz.zeroValue144
  t171 := Tryz.underlying143
  a171 := Tryz.isAgg143
  z171 := Tryz.sizeOf143
  v171 := Tryz.zeroValue143
  t173 := Tryz.underlying147
  a173 := Tryz.isAgg147
  z173 := Tryz.sizeOf147
  v173 := Tryz.zeroValue147
  t212 := Tryz.underlying153
  a212 := Tryz.isAgg153
  z212 := Tryz.sizeOf153
  v212 := Tryz.zeroValue153
  t213 := Tryz.underlying154
  a213 := Tryz.isAgg154
  z213 := Tryz.sizeOf154
  t232 := Tryz.underlying159
  a232 := Tryz.isAgg159
  z232 := Tryz.sizeOf159
  v232 := Tryz.zeroValue159
  t233 := Tryz.underlying160
  a233 := Tryz.isAgg160
  z233 := Tryz.sizeOf160
  v233 := Tryz.zeroValue160
  g17 := by kernel_rfl
  g18 := by kernel_rfl
  g19 := by kernel_rfl
  i0 := by kernel_rfl
  i2 := by kernel_rfl
  i3 := by kernel_rfl
  i4 := by kernel_rfl
  i5 := by kernel_rfl
  i9 := by kernel_rfl
  i20 := by kernel_rfl
  i37 := by kernel_rfl
  i46 := by kernel_rfl
  i51 := by kernel_rfl
  i53 := by kernel_rfl
  i171 := by kernel_rfl
  i173 := by kernel_rfl
  i212 := by kernel_rfl
  i232 := by kernel_rfl
  i233 := by kernel_rfl
  m17 := by kernel_rfl
  m18 := by kernel_rfl
  m19 := by kernel_rfl }
end Go.Proofs.YtcokplikmjegcaaGreatDoor
namespace Go.Proofs.YtcokplikmjegcaaGreatDoor
open Go.RowKit Go.Shelf Go.Sort
/-- The table of powers of ten lies as the library's text lays it. -/
def Tab (w : World) : Prop := Lib.TabIs Tryz.prog w "internal/strconv.uint64pow10" .u64 Lib.pow10Tab
theorem Tab.below {w w' : World} {N : Nat} (h : Tab w) (hb : Below N w w') (hN : ∀ g, Tryz.prog.globalNamed "internal/strconv.uint64pow10" = some g → g < N) : Tab w' := by
  unfold Tab Lib.TabIs World.var? at *
  cases e : Tryz.prog.globalNamed "internal/strconv.uint64pow10" with
  | none => rw [e] at h; exact h
  | some g =>
    rw [e] at h
    simp only [Option.bind_some] at h ⊢
    rw [hb.block g (hN g e)]; exact h
theorem Tab.keep {w w' : World} (h : Tab w) (hb : Below w.heap.size w w') : Tab w' := by
  unfold Tab Lib.TabIs World.var? at *
  cases e : Tryz.prog.globalNamed "internal/strconv.uint64pow10" with
  | none => rw [e] at h; exact h
  | some g =>
    rw [e] at h
    simp only [Option.bind_some] at h ⊢
    by_cases hg : g < w.heap.size
    · rw [hb.block g hg]; exact h
    · rw [Array.getElem?_eq_none (by omega)] at h; cases h
theorem decD (n : Nat) : Lib.decDigits n = MU.dec n := by
  induction n using Nat.strongRecOn with
  | ind n ih =>
    by_cases h : n < 10
    · rw [MU.dec_small h, Lib.decDigits_one h]
    · rw [MU.dec_big h, ← ih (n / 10) (by omega), Lib.decDigits, dif_neg h]
theorem itoaN (v : Int) : Lib.itoa v = MU.num v := by
  unfold Lib.itoa MU.num
  by_cases h : v < 0
  · rw [if_pos h, if_pos h, decD]
    congr 2
    omega
  · rw [if_neg h, if_neg h, decD]
theorem fmtInt_any (v : Int) (h0 : -9223372036854775808 ≤ v) (h1 : v ≤ 9223372036854775807) (w : World) (ht : Tab w) :
    Calls Tryz.prog 80 #[.int .i64 v, .int .i64 10] w (Gives (.string (str (MU.num v))) w) := by
  refine (Any.strconv_FormatInt_10 laysM173 v h0 h1 w ht).mono ?_
  rintro e w1 ⟨rfl, k, os, rfl⟩
  rw [itoaN]
  exact ⟨rfl, Lib.below_grow w.heap.size w (Nat.le_refl _) k os⟩
/-- The words and layouts of the operations. -/
def opWd : Nat → ByteArray
  | 2 => ⟨#[120, 111, 114]⟩
  | 3 => ⟨#[111, 114]⟩
  | 4 => ⟨#[98, 111, 110, 117, 115]⟩
  | 5 => ⟨#[108, 105, 109, 105, 116]⟩
  | _ => ⟨#[]⟩
def opLy : Nat → ByteArray
  | 1 => ⟨#[98]⟩
  | 2 => ⟨#[40, 108, 41]⟩
  | 3 => ⟨#[40, 108, 41]⟩
  | 4 => ⟨#[40, 101, 44, 98, 41]⟩
  | 5 => ⟨#[40, 101, 44, 118, 41]⟩
  | _ => ⟨#[]⟩
/-- The table lies as its initialiser lays it. -/
structure Ops (w : World) : Prop where
  lt : 0 < w.heap.size
  wd : ∀ k, k < 6 → w.cell? ⟨0, k * 2, none⟩ = some (.string (opWd k))
  ly : ∀ k, k < 6 → w.cell? ⟨0, k * 2 + 1, none⟩ = some (.string (opLy k))
theorem Ops.same {w w' : World} (h : Ops w) (hb : w'.heap[0]? = w.heap[0]?) (hs : w.heap.size ≤ w'.heap.size) : Ops w' := by
  have e : ∀ j, w'.cell? ⟨0, j, none⟩ = w.cell? ⟨0, j, none⟩ := fun j => by unfold World.cell?; rw [hb]
  exact ⟨Nat.lt_of_lt_of_le h.lt hs, fun k hk => (e _).trans (h.wd k hk), fun k hk => (e _).trans (h.ly k hk)⟩
theorem Ops.keep {w w' : World} (h : Ops w) (hb : Below w.heap.size w w') : Ops w' := h.same (hb.block _ h.lt) hb.size
theorem Ops.below {w w' : World} {N : Nat} (h : Ops w) (hb : Below N w w') (hN : 0 < N) : Ops w' := h.same (hb.block _ hN) hb.size
end Go.Proofs.YtcokplikmjegcaaGreatDoor
namespace Go.Proofs.YtcokplikmjegcaaGreatDoor
open Go.RowKit
theorem laidMet_tail {P : Program} {x : String} {d : DataW Unit} {L : List (String × DataW Unit)} {w : World} (h : laidMet P ((x, d) :: L) w) : laidMet P L w := by
  obtain ⟨ps, ⟨g, t, cs, fuel, p, q, _, _, _, _, hr, rfl⟩, hn, hc⟩ := h
  exact ⟨q, hr, (List.nodup_append.1 hn).2.1, fun b off hm => hc b off (List.mem_append_right _ hm)⟩
def tab32 : List Int := [0, 1, 28, 2, 29, 14, 24, 3, 30, 22, 20, 15, 25, 17, 4, 8, 31, 27, 13, 23, 21, 19, 16, 7, 26, 12, 18, 6, 11, 5, 10, 9]
def tab64 : List Int := [0, 1, 56, 2, 57, 49, 28, 3, 61, 58, 42, 50, 38, 29, 17, 4, 62, 47, 59, 36, 45, 43, 51, 22, 53, 39, 33, 30, 24, 18, 12, 5, 63, 55, 48, 27, 60, 41, 37, 16, 46, 35, 44, 21, 52, 32, 23, 11, 54, 26, 40, 15, 34, 20, 31, 10, 25, 14, 19, 9, 13, 8, 7, 6]
theorem pow10G : Tryz.prog.globalNamed "internal/strconv.uint64pow10" = some 1 := by kernel_rfl
theorem pow10T : (Tryz.prog.globals[1]?).map (·.type) = some 153 := by kernel_rfl
theorem pow10_cells : Tryz.prog.cellsOf 153 = 20 := by kernel_rfl
theorem pow10_cell : Tryz.prog.cellsOf 144 = 1 := by kernel_rfl
theorem pow10E : (Rows.laid_internal_strconv_uint64pow10 : DataW Unit) = Lib.tabData .u64 Lib.pow10Tab := by kernel_rfl
theorem opsG : Tryz.prog.globalNamed "saleroom/exprtext.operations" = some 0 := by kernel_rfl
theorem opsT : (Tryz.prog.globals[0]?).map (·.type) = some 85 := by kernel_rfl
theorem ops_cells : Tryz.prog.cellsOf 85 = 12 := by kernel_rfl
theorem ops_cell : Tryz.prog.cellsOf 84 = 2 := by kernel_rfl
theorem str_of_data {s : ByteArray} {l : List UInt8} (h : s.data.toList = l) : s = ⟨l.toArray⟩ := by
  obtain ⟨d⟩ := s
  rw [← h]
set_option maxRecDepth 100000 in
/-- Two texts that read so lie so. -/
theorem pair_of {enc : TypeId × Value → Unit} {w : World} {b : Nat} {sp : Nat → Bool} {held : Bool} {m : Nat} {c0 c1 : Value} {wd ly : List UInt8} {p : List MemPlace}
    (h : DataW.trod enc Tryz.prog w b sp held m 84 [c0, c1] = some (.agg [.lit (.string wd), .lit (.string ly)], p)) : c0 = .string ⟨wd.toArray⟩ ∧ c1 = .string ⟨ly.toArray⟩ := by
  obtain ⟨y0, y1, n, hy, _, h0, h1⟩ := ChangeShapes.trod_struct2 Tryz.underlying84 h
  simp only [Prod.mk.injEq, DataW.agg.injEq, List.cons.injEq, and_true] at hy
  obtain ⟨⟨e0, e1⟩, _⟩ := hy
  have h0' : DataW.trod enc Tryz.prog w b sp held n 9 [c0] = some y0 := h0
  have h1' : DataW.trod enc Tryz.prog w b sp held n 9 [c1] = some y1 := h1
  obtain ⟨s0, k0, z0, _⟩ := DataW.trod_string Tryz.underlying9 h0'
  obtain ⟨s1, k1, z1, _⟩ := DataW.trod_string Tryz.underlying9 h1'
  rw [z0] at e0
  rw [z1] at e1
  simp only [DataW.lit.injEq, Lit.string.injEq] at e0 e1
  injection k0 with k0 _
  injection k1 with k1 _
  exact ⟨by rw [k0, str_of_data e0.symm], by rw [k1, str_of_data e1.symm]⟩
set_option maxRecDepth 100000 in
theorem ops_of {W : World} (hL : laidMet Tryz.prog [("saleroom/exprtext.operations", Rows.laid_saleroom_exprtext_operations)] W) : Ops W := by
  obtain ⟨ps, ⟨g', t', cs, fuel, p, q, hg', ht', hvar, hd, _, _⟩, _⟩ := hL
  obtain rfl := Option.some.inj (opsG.symm.trans hg')
  obtain rfl := Option.some.inj (opsT.symm.trans ht')
  obtain ⟨xs, m, _, hy, hcs, hl, hi⟩ := DataW.trod_array Tryz.underlying85 hd
  have hl6 : xs.length = 6 := hl
  have hsz : cs.toList.length = 12 := by rw [hcs]; exact ops_cells
  obtain ⟨x0, x1, x2, x3, x4, x5, rfl⟩ : ∃ x0 x1 x2 x3 x4 x5, xs = [x0, x1, x2, x3, x4, x5] := by
    match xs, hl6 with
    | [x0, x1, x2, x3, x4, x5], _ => exact ⟨x0, x1, x2, x3, x4, x5, rfl⟩
  obtain ⟨c0, c1, c2, c3, c4, c5, c6, c7, c8, c9, c10, c11, hc⟩ : ∃ c0 c1 c2 c3 c4 c5 c6 c7 c8 c9 c10 c11, cs.toList = [c0, c1, c2, c3, c4, c5, c6, c7, c8, c9, c10, c11] := by
    match cs.toList, hsz with
    | [c0, c1, c2, c3, c4, c5, c6, c7, c8, c9, c10, c11], _ => exact ⟨c0, c1, c2, c3, c4, c5, c6, c7, c8, c9, c10, c11, rfl⟩
  have hcell := ops_cell
  simp only [Prod.mk.injEq, Rows.laid_saleroom_exprtext_operations, DataW.agg.injEq, List.map_cons, List.map_nil, List.cons.injEq, and_true] at hy
  obtain ⟨⟨e0, e1, e2, e3, e4, e5⟩, _⟩ := hy
  rw [hc] at hi
  have u0 : DataW.trod (fun _ => ()) Tryz.prog W 0 (fun _ => true) false m 84 [c0, c1] = some x0 := by have := hi 0 (by decide); rw [hcell] at this; exact this
  obtain ⟨k0, k1⟩ := pair_of (wd := []) (ly := []) (p := x0.2) (u0.trans (congrArg some (Prod.ext e0.symm rfl)))
  have u1 : DataW.trod (fun _ => ()) Tryz.prog W 0 (fun _ => true) false m 84 [c2, c3] = some x1 := by have := hi 1 (by decide); rw [hcell] at this; exact this
  obtain ⟨k2, k3⟩ := pair_of (wd := []) (ly := [98]) (p := x1.2) (u1.trans (congrArg some (Prod.ext e1.symm rfl)))
  have u2 : DataW.trod (fun _ => ()) Tryz.prog W 0 (fun _ => true) false m 84 [c4, c5] = some x2 := by have := hi 2 (by decide); rw [hcell] at this; exact this
  obtain ⟨k4, k5⟩ := pair_of (wd := [120, 111, 114]) (ly := [40, 108, 41]) (p := x2.2) (u2.trans (congrArg some (Prod.ext e2.symm rfl)))
  have u3 : DataW.trod (fun _ => ()) Tryz.prog W 0 (fun _ => true) false m 84 [c6, c7] = some x3 := by have := hi 3 (by decide); rw [hcell] at this; exact this
  obtain ⟨k6, k7⟩ := pair_of (wd := [111, 114]) (ly := [40, 108, 41]) (p := x3.2) (u3.trans (congrArg some (Prod.ext e3.symm rfl)))
  have u4 : DataW.trod (fun _ => ()) Tryz.prog W 0 (fun _ => true) false m 84 [c8, c9] = some x4 := by have := hi 4 (by decide); rw [hcell] at this; exact this
  obtain ⟨k8, k9⟩ := pair_of (wd := [98, 111, 110, 117, 115]) (ly := [40, 101, 44, 98, 41]) (p := x4.2) (u4.trans (congrArg some (Prod.ext e4.symm rfl)))
  have u5 : DataW.trod (fun _ => ()) Tryz.prog W 0 (fun _ => true) false m 84 [c10, c11] = some x5 := by have := hi 5 (by decide); rw [hcell] at this; exact this
  obtain ⟨k10, k11⟩ := pair_of (wd := [108, 105, 109, 105, 116]) (ly := [40, 101, 44, 118, 41]) (p := x5.2) (u5.trans (congrArg some (Prod.ext e5.symm rfl)))
  have cell : ∀ j (v : Value), [c0, c1, c2, c3, c4, c5, c6, c7, c8, c9, c10, c11][j]? = some v → W.cell? ⟨0, j, none⟩ = some v := fun j v hj => by
    have := World.var?_cell opsG hvar j
    rw [this, ← Array.getElem?_toList, hc]
    exact hj
  subst k0 k1 k2 k3 k4 k5 k6 k7 k8 k9 k10 k11
  refine ⟨World.block_lt_of_cell? W _ (cell 0 _ rfl), fun k hk => ?_, fun k hk => ?_⟩
  all_goals
    have hk6 : k = 0 ∨ k = 1 ∨ k = 2 ∨ k = 3 ∨ k = 4 ∨ k = 5 := by omega
    rcases hk6 with rfl | rfl | rfl | rfl | rfl | rfl
    all_goals exact cell _ _ rfl
theorem tabs_of_laid {W : World} (hL : laidMet Tryz.prog [("math/bits.deBruijn32tab", Rows.laid_math_bits_deBruijn32tab), ("math/bits.deBruijn64tab", Rows.laid_math_bits_deBruijn64tab), ("internal/strconv.uint64pow10", Rows.laid_internal_strconv_uint64pow10), ("saleroom/exprtext.operations", Rows.laid_saleroom_exprtext_operations)] W) : Tab W ∧ Ops W := by
  have hL' := laidMet_tail (laidMet_tail hL)
  refine ⟨?_, ops_of (laidMet_tail hL')⟩
  rw [pow10E] at hL'
  exact Lib.tabIs_of_head pow10G pow10T Tryz.underlying153 Tryz.underlying144 pow10_cell pow10_cells hL'
def tabP : List Int := [1, 10, 100, 1000, 10000, 100000, 1000000, 10000000, 100000000, 1000000000, 10000000000, 100000000000, 1000000000000, 10000000000000, 100000000000000, 1000000000000000, 10000000000000000, 100000000000000000, 1000000000000000000, 10000000000000000000]
/-- A table's cells as its initialiser lays them. -/
def layAs (k : IntKind) (zs : List Int) : Obj → Obj
  | .cells _ t frozen => .cells (zs.map (Value.int k)).toArray t frozen
  | o => o
def layOps : Obj → Obj
  | .cells _ t frozen => .cells #[.string ⟨#[]⟩, .string ⟨#[]⟩, .string ⟨#[]⟩, .string ⟨#[98]⟩, .string ⟨#[120, 111, 114]⟩, .string ⟨#[40, 108, 41]⟩, .string ⟨#[111, 114]⟩, .string ⟨#[40, 108, 41]⟩, .string ⟨#[98, 111, 110, 117, 115]⟩, .string ⟨#[40, 101, 44, 98, 41]⟩, .string ⟨#[108, 105, 109, 105, 116]⟩, .string ⟨#[40, 101, 44, 118, 41]⟩] t frozen
  | o => o
/-- A world for the witness: the settled one, the four tables laid. -/
noncomputable def laidWorld (os : Os) : World :=
  { World.holding Tryz.prog os ⟨#[], #[], []⟩ with heap := ((((World.holding Tryz.prog os ⟨#[], #[], []⟩).heap.modify 3 (layAs .u8 tab32)).modify 4 (layAs .u8 tab64)).modify 1 (layAs .u64 tabP)).modify 0 layOps }
end Go.Proofs.YtcokplikmjegcaaGreatDoor
