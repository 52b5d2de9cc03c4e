/- FAwk0, FAwake, joined: no claim of its own. -/
import Derived.Test.YtjjpfpgjpmedmaaJFF
import Derived.Test.YtjjpfpgjpmedmaaJFD
import Derived.Test.YtjjpfpgjpmedmaaJFC
import Derived.Test.YtjjpfpgjpmedmaaJFA
import Derived.Deep.DeepCutAuto
namespace Go.Proofs.Ytjjpfpgjpmedmaa
open Go.RowKit
def oA : MF.Of := ⟨0, 1, 0, 0, 0, 0, 0, 5⟩
def oB : MF.Of := ⟨0, 0, 1, 0, 0, 0, 0, 7⟩
def oC : MF.Of := ⟨0, 1, 1, 0, 0, 0, 0, 12⟩
def o5 : MF.Of := ⟨0, 1, 1, 0, 0, 0, 0, 5⟩
def exN : ME.Nd := ⟨3, [0, 0, 0, 0, 0, 0], 0, .cons 1 [1, 0, 0, 0, 0, 0] 5 .nil (.cons 1 [0, 1, 0, 0, 0, 0] 7 .nil .nil)⟩
def tk : List MF.Of := [⟨0, 0, 1, 0, 0, 0, 0, 5⟩, ⟨0, 1, 0, 0, 0, 0, 0, 5⟩, ⟨0, 1, 1, 0, 0, 0, 0, 6⟩]
theorem ev1 : offersE exN [1, 1, 0, 0, 0, 0] = ([oB, oA, oC], 0) := by kernel_rfl
theorem ev2 : fromE [0, 5, 5, 6] [1, 1, 0, 0, 0, 0] = (tk, 0) := by kernel_rfl
theorem ev3 : fromE [0, 5] [1, 1, 0, 0, 0, 0] = ([], 1) := by kernel_rfl
theorem ev4 : toE [oA, oB] = (⟨2, [0, 0, 0, 0, 0, 0], 0, .cons 1 [1, 0, 0, 0, 0, 0] 5 .nil (.cons 1 [0, 1, 0, 0, 0, 0] 7 .nil .nil)⟩, 0) := by kernel_rfl
theorem ev5 : VV.worth (MF.stp [oA, oB]) [1, 1, 0, 0, 0, 0] = 7 := by kernel_rfl
theorem ev6 : MF.cleanL [o5, oA, oB] = [oA, oB] := by kernel_rfl
theorem intE_fine {L : List Int} (h : (L.all fun x => decide (-9223372036854775808 ≤ x) && decide (x ≤ 9223372036854775807)) = true) : intE.Fine L := fun x hx => by
  have := List.all_eq_true.1 h x hx
  rw [Bool.and_eq_true, decide_eq_true_eq, decide_eq_true_eq] at this
  exact this
def fineB (p : MF.Of) : Bool := [p.bidder, p.b0, p.b1, p.b2, p.b3, p.b4, p.b5, p.value].all fun x => decide (-9223372036854775808 ≤ x) && decide (x ≤ 9223372036854775807)
theorem ofE_fine {L : List MF.Of} (h : L.all fineB = true) : ofE.Fine L := fun x hx => by
  have := List.all_eq_true.1 h x hx
  simp only [fineB, List.all_cons, List.all_nil, Bool.and_true, Bool.and_eq_true, decide_eq_true_eq] at this
  obtain ⟨h0, h1, h2, h3, h4, h5, h6, h7⟩ := this
  exact ⟨h0, h1, h2, h3, h4, h5, h6, h7⟩
end Go.Proofs.Ytjjpfpgjpmedmaa
namespace Go.Proofs.Ytjjpfpgjpmedmaa
open Go.RowKit
attribute [local go_sem] Oper.semAt_some
/-- The examples' variables. -/
structure AW (w : World) (X : World) : Prop where
  below : Below w.heap.size w X
  a : X.heap[w.heap.size]? = some (.cells #[.int .i64 0, .int .i64 1, .int .i64 0, .int .i64 0, .int .i64 0, .int .i64 0, .int .i64 0, .int .i64 5] 60 (0, 0))
  b : X.heap[w.heap.size + 1]? = some (.cells #[.int .i64 0, .int .i64 0, .int .i64 1, .int .i64 0, .int .i64 0, .int .i64 0, .int .i64 0, .int .i64 7] 60 (0, 0))
  both : BB X (w.heap.size + 2) 24 [1, 1, 0, 0, 0, 0]
theorem AW.keep {w X Y : World} (h : AW w X) (hb : Below X.heap.size X Y) : AW w Y :=
  ⟨h.below.trans (hb.mono h.below.size), (hb.block _ (Array.getElem?_eq_some_iff.1 h.a).1).trans h.a, (hb.block _ (Array.getElem?_eq_some_iff.1 h.b).1).trans h.b, h.both.keep hb h.both.lt⟩
/-- And the example's expression, and the third offer's value. -/
structure AX (w : World) (B : Nat) (ad : Addr) (x : Array Value) (X : World) : Prop where
  s : AW w X
  x : X.heap[B]? = some (.cells x 28 (0, 0))
  k : X.cell? ⟨ad.block, ad.off + 16 + 7, none⟩ = some (.int .i64 6)
theorem AX.keep {w X Y : World} {B : Nat} {ad : Addr} {x : Array Value} (h : AX w B ad x X) (hb : Below X.heap.size X Y) : AX w B ad x Y :=
  ⟨h.s.keep hb, (hb.block _ (Array.getElem?_eq_some_iff.1 h.x).1).trans h.x, cell_below hb h.k⟩
def exX (g : Nat) : NT := ⟨3, [0, 0, 0, 0, 0, 0], 0, some ⟨g, 0, none⟩, 2, FT.of [atX oA, atX oB]⟩
theorem exX_ok {X : World} {g : Nat} (h : X.heap[g]? = some (.cells #[.int .i64 1, .int .i64 1, .int .i64 0, .int .i64 0, .int .i64 0, .int .i64 0, .int .i64 0, .int .i64 5, .slice none 0 0, .int .i64 1, .int .i64 0, .int .i64 1, .int .i64 0, .int .i64 0, .int .i64 0, .int .i64 0, .int .i64 7, .slice none 0 0] 28 (0, 0))) : (exX g).Ok X (fun _ => True) := by
  refine ⟨rfl, show In64 (3 : Int) from ⟨by decide, by decide⟩, show In64 (0 : Int) from ⟨by decide, by decide⟩, fun z hz => ?_, ?_⟩
  · have : z = 0 := by simpa [exX] using hz
    rw [this]; exact ⟨by decide, by decide⟩
  · have ha : Arg X g 2 [atX oA, atX oB] := ⟨by decide, fun y hy => by simp at hy; rcases hy with rfl | rfl <;> rfl, _, h, rfl, fun j u hu => by rw [← List.getElem?_toArray] at hu; exact hu⟩
    exact kids_of_row ha (by decide) trivial fun y hy => by
      have hf := ofE_fine (L := [oA, oB]) (by decide)
      simp at hy
      rcases hy with rfl | rfl
      · exact atX_ok (hf oA (by simp)) _ _
      · exact atX_ok (hf oB (by simp)) _ _
theorem tri_new (w : World) (o0 o1 o2 : Obj) : Below w.heap.size w (((w.alloc o0).alloc o1).alloc o2) ∧ (((w.alloc o0).alloc o1).alloc o2).heap[w.heap.size]? = some o0 ∧ (((w.alloc o0).alloc o1).alloc o2).heap[w.heap.size + 1]? = some o1 ∧ (((w.alloc o0).alloc o1).alloc o2).heap[w.heap.size + 2]? = some o2 := by
  have n3 := below_new ((w.alloc o0).alloc o1) o2
  refine ⟨(below_two w o0 o1).trans (n3.mono (by simp; omega)), ?_, ?_, ?_⟩
  · exact (n3.block w.heap.size (by simp; omega)).trans (((below_new (w.alloc o0) o1).block w.heap.size (by simp)).trans (heap_new w o0))
  · refine (n3.block (w.heap.size + 1) (by simp)).trans ?_
    have := heap_new (w.alloc o0) o1
    rwa [World.size_alloc] at this
  · have := heap_new ((w.alloc o0).alloc o1) o2
    rwa [World.size_alloc, World.size_alloc] at this
set_option maxRecDepth 100000 in
set_option maxHeartbeats 8000000 in
theorem awake14_any (w : World) : Calls Try.prog 9 #[] w (Gives (.bool true) w) := by
  obtain ⟨h1, h2, h3, h4⟩ := tri_new w (.cells #[.int .i64 0, .int .i64 1, .int .i64 0, .int .i64 0, .int .i64 0, .int .i64 0, .int .i64 0, .int .i64 5] 60) (.cells #[.int .i64 0, .int .i64 0, .int .i64 1, .int .i64 0, .int .i64 0, .int .i64 0, .int .i64 0, .int .i64 7] 60) (.cells #[.int .i64 1, .int .i64 1, .int .i64 0, .int .i64 0, .int .i64 0, .int .i64 0] 24)
  have S3 := Lib.hid (show AW w (((w.alloc (.cells #[.int .i64 0, .int .i64 1, .int .i64 0, .int .i64 0, .int .i64 0, .int .i64 0, .int .i64 0, .int .i64 5] 60)).alloc (.cells #[.int .i64 0, .int .i64 0, .int .i64 1, .int .i64 0, .int .i64 0, .int .i64 0, .int .i64 0, .int .i64 7] 60)).alloc (.cells #[.int .i64 1, .int .i64 1, .int .i64 0, .int .i64 0, .int .i64 0, .int .i64 0] 24)) from ⟨h1, h2, h3, h4, rfl⟩)
  have hs3 : (((w.alloc (.cells #[.int .i64 0, .int .i64 1, .int .i64 0, .int .i64 0, .int .i64 0, .int .i64 0, .int .i64 0, .int .i64 5] 60)).alloc (.cells #[.int .i64 0, .int .i64 0, .int .i64 1, .int .i64 0, .int .i64 0, .int .i64 0, .int .i64 0, .int .i64 7] 60)).alloc (.cells #[.int .i64 1, .int .i64 1, .int .i64 0, .int .i64 0, .int .i64 0, .int .i64 0] 24)).heap.size = w.heap.size + 3 := by simp
  clear h1 h2 h3 h4
  go_enter Try.func9, Try.ntmps9
  go_upto_region 3 with (fail)
  generalize ((w.alloc (.cells #[.int .i64 0, .int .i64 1, .int .i64 0, .int .i64 0, .int .i64 0, .int .i64 0, .int .i64 0, .int .i64 5] 60)).alloc (.cells #[.int .i64 0, .int .i64 0, .int .i64 1, .int .i64 0, .int .i64 0, .int .i64 0, .int .i64 0, .int .i64 7] 60)).alloc (.cells #[.int .i64 1, .int .i64 1, .int .i64 0, .int .i64 0, .int .i64 0, .int .i64 0] 24) = w3 at *
  have pa := S3.out.a
  have pb := S3.out.b
  have a0 := (cell_of_row _ _ 0 _ _ _ pa).trans rfl
  have a1 := (cell_of_row _ _ 1 _ _ _ pa).trans rfl
  have a2 := (cell_of_row _ _ 2 _ _ _ pa).trans rfl
  have a3 := (cell_of_row _ _ 3 _ _ _ pa).trans rfl
  have a4 := (cell_of_row _ _ 4 _ _ _ pa).trans rfl
  have a5 := (cell_of_row _ _ 5 _ _ _ pa).trans rfl
  have a6 := (cell_of_row _ _ 6 _ _ _ pa).trans rfl
  have a7 := (cell_of_row _ _ 7 _ _ _ pa).trans rfl
  have b0 := (cell_of_row _ _ 0 _ _ _ pb).trans rfl
  have b1 := (cell_of_row _ _ 1 _ _ _ pb).trans rfl
  have b2 := (cell_of_row _ _ 2 _ _ _ pb).trans rfl
  have b3 := (cell_of_row _ _ 3 _ _ _ pb).trans rfl
  have b4 := (cell_of_row _ _ 4 _ _ _ pb).trans rfl
  have b5 := (cell_of_row _ _ 5 _ _ _ pb).trans rfl
  have b6 := (cell_of_row _ _ 6 _ _ _ pb).trans rfl
  have b7 := (cell_of_row _ _ 7 _ _ _ pb).trans rfl
  go_upto_region 4 with (fail)
  have nb5 := below_two w3 (.cells #[.int .i64 1, .int .i64 1, .int .i64 0, .int .i64 0, .int .i64 0, .int .i64 0, .int .i64 0, .int .i64 5, .slice none 0 0, .int .i64 1, .int .i64 0, .int .i64 1, .int .i64 0, .int .i64 0, .int .i64 0, .int .i64 0, .int .i64 7, .slice none 0 0] 28) (.cells #[.int .i64 3, .int .i64 0, .int .i64 0, .int .i64 0, .int .i64 0, .int .i64 0, .int .i64 0, .int .i64 0, .slice (some ⟨w.heap.size + 3, 0, none⟩) 2 2] 28)
  have hn5 := (tri_new w3 (.cells #[.int .i64 1, .int .i64 1, .int .i64 0, .int .i64 0, .int .i64 0, .int .i64 0, .int .i64 0, .int .i64 5, .slice none 0 0, .int .i64 1, .int .i64 0, .int .i64 1, .int .i64 0, .int .i64 0, .int .i64 0, .int .i64 0, .int .i64 7, .slice none 0 0] 28) (.cells #[.int .i64 3, .int .i64 0, .int .i64 0, .int .i64 0, .int .i64 0, .int .i64 0, .int .i64 0, .int .i64 0, .slice (some ⟨w.heap.size + 3, 0, none⟩) 2 2] 28) (.cells #[.int .i64 1, .int .i64 1, .int .i64 0, .int .i64 0, .int .i64 0, .int .i64 0] 24)).2
  have X5 := (below_new (w3.alloc (.cells #[.int .i64 1, .int .i64 1, .int .i64 0, .int .i64 0, .int .i64 0, .int .i64 0, .int .i64 0, .int .i64 5, .slice none 0 0, .int .i64 1, .int .i64 0, .int .i64 1, .int .i64 0, .int .i64 0, .int .i64 0, .int .i64 0, .int .i64 7, .slice none 0 0] 28)) (.cells #[.int .i64 3, .int .i64 0, .int .i64 0, .int .i64 0, .int .i64 0, .int .i64 0, .int .i64 0, .int .i64 0, .slice (some ⟨w.heap.size + 3, 0, none⟩) 2 2] 28)).block w3.heap.size (by simp)
  have X5' := X5.trans (heap_new w3 (.cells #[.int .i64 1, .int .i64 1, .int .i64 0, .int .i64 0, .int .i64 0, .int .i64 0, .int .i64 0, .int .i64 5, .slice none 0 0, .int .i64 1, .int .i64 0, .int .i64 1, .int .i64 0, .int .i64 0, .int .i64 0, .int .i64 0, .int .i64 7, .slice none 0 0] 28))
  have Y5 := heap_new (w3.alloc (.cells #[.int .i64 1, .int .i64 1, .int .i64 0, .int .i64 0, .int .i64 0, .int .i64 0, .int .i64 0, .int .i64 5, .slice none 0 0, .int .i64 1, .int .i64 0, .int .i64 1, .int .i64 0, .int .i64 0, .int .i64 0, .int .i64 0, .int .i64 7, .slice none 0 0] 28)) (.cells #[.int .i64 3, .int .i64 0, .int .i64 0, .int .i64 0, .int .i64 0, .int .i64 0, .int .i64 0, .int .i64 0, .slice (some ⟨w.heap.size + 3, 0, none⟩) 2 2] 28)
  rw [World.size_alloc, hs3] at Y5
  rw [hs3] at X5'
  have S5 := Lib.hid (S3.out.keep nb5)
  have XO := Lib.hid (exX_ok X5')
  have Z5 := Lib.hid Y5
  clear nb5 hn5 X5 X5' Y5 S3 pa pb a0 a1 a2 a3 a4 a5 a6 a7 b0 b1 b2 b3 b4 b5 b6 b7
  generalize (w3.alloc (.cells #[.int .i64 1, .int .i64 1, .int .i64 0, .int .i64 0, .int .i64 0, .int .i64 0, .int .i64 0, .int .i64 5, .slice none 0 0, .int .i64 1, .int .i64 0, .int .i64 1, .int .i64 0, .int .i64 0, .int .i64 0, .int .i64 0, .int .i64 7, .slice none 0 0] 28)).alloc (.cells #[.int .i64 3, .int .i64 0, .int .i64 0, .int .i64 0, .int .i64 0, .int .i64 0, .int .i64 0, .int .i64 0, .slice (some ⟨w.heap.size + 3, 0, none⟩) 2 2] 28) = w5 at *
  have CO := Lib.hid (foffers_any (exX (w.heap.size + 3)) (by show 3 ≤ 2000000; decide) 1 1 0 0 0 0 w5 _ XO.out)
  rw [show (exX (w.heap.size + 3)).n = exN from rfl, ev1, show (exX (w.heap.size + 3)).val = .agg #[.int .i64 3, .int .i64 0, .int .i64 0, .int .i64 0, .int .i64 0, .int .i64 0, .int .i64 0, .int .i64 0, .slice (some ⟨w.heap.size + 3, 0, none⟩) 2 2] from rfl] at CO
  obtain ⟨e0, e1, e2, e3, e4, e5, e6, e7, e8⟩ := B9.cells (show B9 w5 (w.heap.size + 3 + 1) (.int .i64 3) (.int .i64 0) (.int .i64 0) (.int .i64 0) (.int .i64 0) (.int .i64 0) (.int .i64 0) (.int .i64 0) (.slice (some ⟨w.heap.size + 3, 0, none⟩) 2 2) from Z5.out)
  obtain ⟨r0, r1, r2, r3, r4, r5⟩ := cells6 S5.out.both
  go_wp2_with fail
  refine CO.out.mono ?_
  rintro ev w6 ⟨A6, n6, c6, rfl, hl6, nb⟩
  obtain rfl : 3 = n6 := hl6.len
  have S6 := Lib.hid (S5.out.keep nb)
  have L6 := Lib.hid hl6
  clear nb hl6 CO e0 e1 e2 e3 e4 e5 e6 e7 e8 r0 r1 r2 r3 r4 r5 S5 XO Z5
  dsimp only
  have CF := Lib.hid (ffrom_any (some ⟨w6.heap.size, 0, none⟩) 4 4 [0, 5, 5, 6] 1 1 0 0 0 0 (w6.alloc (.cells #[.int .i64 0, .int .i64 5, .int .i64 5, .int .i64 6] 2)) (Lst.lit [0, 5, 5, 6] 4 (heap_new w6 (.cells #[.int .i64 0, .int .i64 5, .int .i64 5, .int .i64 6] 2)) rfl rfl (by decide) (intE_fine (by decide))))
  rw [ev2] at CF
  have T6 := Lib.hid (S6.out.keep (below_new w6 (.cells #[.int .i64 0, .int .i64 5, .int .i64 5, .int .i64 6] 2)))
  obtain ⟨r0, r1, r2, r3, r4, r5⟩ := cells6 T6.out.both
  go_wp2_with fail
  refine CF.out.mono ?_
  rintro ev w8 ⟨A8, n8, c8, rfl, hl8, nb⟩
  have nbb := (below_new w6 (.cells #[.int .i64 0, .int .i64 5, .int .i64 5, .int .i64 6] 2)).trans (nb.mono (by simp))
  have S8 := Lib.hid (T6.out.keep nb)
  clear T6 S6 CF r0 r1 r2 r3 r4 r5 nb
  obtain rfl : 3 = n8 := hl8.len
  have L8 := Lib.hid hl8
  have M8 := Lib.hid (L6.out.keep nbb)
  clear hl8 nbb L6
  dsimp only
  have CF := Lib.hid (ffrom_any (some ⟨w8.heap.size, 0, none⟩) 2 2 [0, 5] 1 1 0 0 0 0 (w8.alloc (.cells #[.int .i64 0, .int .i64 5] 2)) (Lst.lit [0, 5] 2 (heap_new w8 (.cells #[.int .i64 0, .int .i64 5] 2)) rfl rfl (by decide) (intE_fine (by decide))))
  rw [ev3] at CF
  have T8 := Lib.hid (S8.out.keep (below_new w8 (.cells #[.int .i64 0, .int .i64 5] 2)))
  obtain ⟨r0, r1, r2, r3, r4, r5⟩ := cells6 T8.out.both
  go_wp2_with fail
  refine CF.out.mono ?_
  rintro ev w10 ⟨A10, n10, c10, rfl, hl10, nb⟩
  have nbb := (below_new w8 (.cells #[.int .i64 0, .int .i64 5] 2)).trans (nb.mono (by simp))
  have S10 := Lib.hid (T8.out.keep nb)
  clear T8 S8 CF r0 r1 r2 r3 r4 r5 nb
  have L10 := Lib.hid (L8.out.keep nbb)
  have M10 := Lib.hid (M8.out.keep nbb)
  clear hl10 nbb L8 M8
  dsimp only
  have pa := S10.out.a
  have pb := S10.out.b
  have a0 := (cell_of_row _ _ 0 _ _ _ pa).trans rfl
  have a1 := (cell_of_row _ _ 1 _ _ _ pa).trans rfl
  have a2 := (cell_of_row _ _ 2 _ _ _ pa).trans rfl
  have a3 := (cell_of_row _ _ 3 _ _ _ pa).trans rfl
  have a4 := (cell_of_row _ _ 4 _ _ _ pa).trans rfl
  have a5 := (cell_of_row _ _ 5 _ _ _ pa).trans rfl
  have a6 := (cell_of_row _ _ 6 _ _ _ pa).trans rfl
  have a7 := (cell_of_row _ _ 7 _ _ _ pa).trans rfl
  have b0 := (cell_of_row _ _ 0 _ _ _ pb).trans rfl
  have b1 := (cell_of_row _ _ 1 _ _ _ pb).trans rfl
  have b2 := (cell_of_row _ _ 2 _ _ _ pb).trans rfl
  have b3 := (cell_of_row _ _ 3 _ _ _ pb).trans rfl
  have b4 := (cell_of_row _ _ 4 _ _ _ pb).trans rfl
  have b5 := (cell_of_row _ _ 5 _ _ _ pb).trans rfl
  have b6 := (cell_of_row _ _ 6 _ _ _ pb).trans rfl
  have b7 := (cell_of_row _ _ 7 _ _ _ pb).trans rfl
  have AB := Lib.hid (Lst.lit (E := ofE) [oA, oB] 2 (heap_new w10 (.cells #[.int .i64 0, .int .i64 1, .int .i64 0, .int .i64 0, .int .i64 0, .int .i64 0, .int .i64 0, .int .i64 5, .int .i64 0, .int .i64 0, .int .i64 1, .int .i64 0, .int .i64 0, .int .i64 0, .int .i64 0, .int .i64 7] 60)) rfl rfl (by decide) (ofE_fine (by decide)))
  have CT := Lib.hid (ftoexpr_any _ 2 2 [oA, oB] (by decide) _ AB.out)
  rw [ev4] at CT
  have T10 := Lib.hid (S10.out.keep (below_new w10 (.cells #[.int .i64 0, .int .i64 1, .int .i64 0, .int .i64 0, .int .i64 0, .int .i64 0, .int .i64 0, .int .i64 5, .int .i64 0, .int .i64 0, .int .i64 1, .int .i64 0, .int .i64 0, .int .i64 0, .int .i64 0, .int .i64 7] 60)))
  have nbb := below_new w10 (.cells #[.int .i64 0, .int .i64 1, .int .i64 0, .int .i64 0, .int .i64 0, .int .i64 0, .int .i64 0, .int .i64 5, .int .i64 0, .int .i64 0, .int .i64 1, .int .i64 0, .int .i64 0, .int .i64 0, .int .i64 0, .int .i64 7] 60)
  have K10 := Lib.hid (L10.out.keep nbb)
  have N10 := Lib.hid (M10.out.keep nbb)
  clear nbb pa pb L10 M10 S10
  go_wp2_with fail
  refine CT.out.mono ?_
  rintro ev w11 ⟨x, rfl, hxn, hxo, nb⟩
  have S11 := Lib.hid (T10.out.keep nb)
  have K11 := Lib.hid (K10.out.keep nb)
  have N11 := Lib.hid (N10.out.keep nb)
  clear nb CT AB T10 K10 N10 a0 a1 a2 a3 a4 a5 a6 a7 b0 b1 b2 b3 b4 b5 b6 b7
  dsimp only at hxn ⊢
  have hsx := hxo.six
  obtain ⟨ox, byx, vx, Ax, cx, kx⟩ := x
  obtain ⟨q0, q1, q2, q3, q4, q5, rfl⟩ := six hsx
  unfold NT.n at hxn
  injection hxn with z1 z2 z3 z4
  have hkx : kx.len = 2 := by rw [← FT.len_f]; dsimp only at z4; rw [z4]; rfl
  dsimp only at z1
  rw [NT.val_lit, hkx, z1]
  clear hxo hsx z1 z2 z3 z4 hkx
  have pa := S11.out.a
  have pb := S11.out.b
  have a0 := (cell_of_row _ _ 0 _ _ _ pa).trans rfl
  have a1 := (cell_of_row _ _ 1 _ _ _ pa).trans rfl
  have a2 := (cell_of_row _ _ 2 _ _ _ pa).trans rfl
  have a3 := (cell_of_row _ _ 3 _ _ _ pa).trans rfl
  have a4 := (cell_of_row _ _ 4 _ _ _ pa).trans rfl
  have a5 := (cell_of_row _ _ 5 _ _ _ pa).trans rfl
  have a6 := (cell_of_row _ _ 6 _ _ _ pa).trans rfl
  have a7 := (cell_of_row _ _ 7 _ _ _ pa).trans rfl
  have b0 := (cell_of_row _ _ 0 _ _ _ pb).trans rfl
  have b1 := (cell_of_row _ _ 1 _ _ _ pb).trans rfl
  have b2 := (cell_of_row _ _ 2 _ _ _ pb).trans rfl
  have b3 := (cell_of_row _ _ 3 _ _ _ pb).trans rfl
  have b4 := (cell_of_row _ _ 4 _ _ _ pb).trans rfl
  have b5 := (cell_of_row _ _ 5 _ _ _ pb).trans rfl
  have b6 := (cell_of_row _ _ 6 _ _ _ pb).trans rfl
  have b7 := (cell_of_row _ _ 7 _ _ _ pb).trans rfl
  obtain ⟨r0, r1, r2, r3, r4, r5⟩ := cells6 S11.out.both
  have nb11 := below_new w11 (.cells #[.int .i64 2, .int .i64 q0, .int .i64 q1, .int .i64 q2, .int .i64 q3, .int .i64 q4, .int .i64 q5, .int .i64 vx, .slice Ax 2 cx] 28)
  have S12 := Lib.hid (S11.out.keep nb11)
  have K12 := Lib.hid (K11.out.keep nb11)
  have N12 := Lib.hid (N11.out.keep nb11)
  have XB := Lib.hid (heap_new w11 (.cells #[.int .i64 2, .int .i64 q0, .int .i64 q1, .int .i64 q2, .int .i64 q3, .int .i64 q4, .int .i64 q5, .int .i64 vx, .slice Ax 2 cx] 28))
  have hsz11 : (w11.alloc (.cells #[.int .i64 2, .int .i64 q0, .int .i64 q1, .int .i64 q2, .int .i64 q3, .int .i64 q4, .int .i64 q5, .int .i64 vx, .slice Ax 2 cx] 28)).heap.size = w11.heap.size + 1 := by simp
  clear nb11 S11 K11 N11
  obtain ⟨w12, hw12⟩ : ∃ w12, w12 = w11.alloc (.cells #[.int .i64 2, .int .i64 q0, .int .i64 q1, .int .i64 q2, .int .i64 q3, .int .i64 q4, .int .i64 q5, .int .i64 vx, .slice Ax 2 cx] 28) := ⟨_, rfl⟩
  rw [← hw12] at S12 K12 N12 XB hsz11
  obtain ⟨ad8, p8, rfl, hp8, t8, had8, t0, t1, t2, t3, t4, t5, t6, k8⟩ := of_at K12.out (show 2 < 3 by decide)
  have hp8' : p8.value = 6 := by
    have : tk[2]? = some ⟨0, 1, 1, 0, 0, 0, 0, 6⟩ := rfl
    rw [this] at hp8
    injection hp8 with hp8
    rw [← hp8]
  rw [hp8'] at k8
  have k8 : w12.cell? ⟨ad8.block, ad8.off + 16 + 7, none⟩ = some (.int .i64 6) := by
    have e : (⟨(ad8.add (2 * 8)).block, (ad8.add (2 * 8)).off + 7, none⟩ : Addr) = ⟨ad8.block, ad8.off + 16 + 7, none⟩ := by unfold Addr.add; split <;> simp_all
    rw [← e]; exact k8
  have HX := Lib.hid (show AX w w11.heap.size ad8 #[.int .i64 2, .int .i64 q0, .int .i64 q1, .int .i64 q2, .int .i64 q3, .int .i64 q4, .int .i64 q5, .int .i64 vx, .slice Ax 2 cx] w12 from ⟨S12.out, XB.out, k8⟩)
  clear k8 hp8' t8 t0 t1 t2 t3 t4 t5 t6 hp8 had8 K12 S12 XB p8
  have hmo : Try.prog.follows .mixedOrders = true := by kernel_rfl
  have hw11 : w11.heap.size < w12.heap.size := by omega
  go_upto_region 8 with (fail)
  rw [← hw12]
  have HL := N12
  clear N12 pa pb a0 a1 a2 a3 a4 a5 a6 a7 b0 b1 b2 b3 b4 b5 b6 b7 r0 r1 r2 r3 r4 r5
  replace HX := Lib.hid (HX.out.keep (below_drawn w12))
  replace HL := Lib.hid (HL.out.keep (below_drawn w12))
  refine wp_region_held_drew (S := fun w' => AX w w11.heap.size ad8 #[.int .i64 2, .int .i64 q0, .int .i64 q1, .int .i64 q2, .int .i64 q3, .int .i64 q4, .int .i64 q5, .int .i64 vx, .slice Ax 2 cx] w') hmo HX.out (fun hHeld => ?_)
  generalize w12.drew = Y at *
  refine wpAnyH_take (i := 0) (oi := { dst := some 51, op := Op.move (Operand.tmp 6), type := 29, pos := "law.go:23", after := #[], guard := none }) (v := ?_) rfl (by kernel_rfl) (by kernel_rfl) (by kernel_rfl) (fun _ _ _ h => h) (Or.inl ⟨by rfl, ?_⟩) (by assumption) ?_
  rotate_left
  · intro w hSw; (try dsimp only at hSw); go_simp; try with_reducible rfl
  (try simp only [Act.put, List.setIfInBounds_toArray, List.set_cons_zero, List.set_cons_succ])
  refine wpAnyH_take (i := 1) (oi := { dst := some 52, op := Op.binOp BinOp.eql 29 (Operand.tmp 51) (Operand.const (Value.int IntKind.i64 0)) 29, type := 4, pos := "law.go:23", after := #[{ on := 0, ground := Ground.data }], guard := none }) (v := ?_) rfl (by kernel_rfl) (by kernel_rfl) (by kernel_rfl) (fun _ _ _ h => h) (Or.inl ⟨by rfl, ?_⟩) (by assumption) ?_
  rotate_left
  · intro w hSw; (try dsimp only at hSw); go_simp; try with_reducible rfl
  (try simp only [Act.put, List.setIfInBounds_toArray, List.set_cons_zero, List.set_cons_succ])
  refine wpAnyH_take (i := 2) (oi := { dst := some 53, op := Op.move (Operand.tmp 52), type := 4, pos := "law.go:23", after := #[{ on := 1, ground := Ground.data }], guard := none }) (v := ?_) rfl (by kernel_rfl) (by kernel_rfl) (by kernel_rfl) (fun _ _ _ h => h) (Or.inl ⟨by rfl, ?_⟩) (by assumption) ?_
  rotate_left
  · intro w hSw; (try dsimp only at hSw); go_simp; try with_reducible rfl
  (try simp only [Act.put, List.setIfInBounds_toArray, List.set_cons_zero, List.set_cons_succ])
  refine wpAnyH_take (i := 3) (oi := { dst := some 54, op := Op.move (Operand.tmp 5), type := 22, pos := "law.go:23", after := #[{ on := 2, ground := Ground.guard }], guard := some (2, true) }) (v := ?_) rfl (by kernel_rfl) (by kernel_rfl) (by kernel_rfl) (fun _ _ _ h => h) (Or.inl ⟨by rfl, ?_⟩) (by assumption) ?_
  rotate_left
  · intro w hSw; (try dsimp only at hSw); go_simp; try with_reducible rfl
  (try simp only [Act.put, List.setIfInBounds_toArray, List.set_cons_zero, List.set_cons_succ])
  refine wpAnyH_take (i := 4) (oi := { dst := some 55, op := Op.load 60 (Operand.tmp 2), type := 60, pos := "law.go:23", after := #[{ on := 2, ground := Ground.guard }], guard := some (2, true) }) (v := ?_) rfl (by kernel_rfl) (by kernel_rfl) (by kernel_rfl) (fun _ _ _ h => h) (Or.inl ⟨by rfl, ?_⟩) (by assumption) ?_
  rotate_left
  · intro w hSw; (try dsimp only at hSw); have pb := hSw.s.b; have b0 := (cell_of_row _ _ 0 _ _ _ pb).trans rfl; have b1 := (cell_of_row _ _ 1 _ _ _ pb).trans rfl; have b2 := (cell_of_row _ _ 2 _ _ _ pb).trans rfl; have b3 := (cell_of_row _ _ 3 _ _ _ pb).trans rfl; have b4 := (cell_of_row _ _ 4 _ _ _ pb).trans rfl; have b5 := (cell_of_row _ _ 5 _ _ _ pb).trans rfl; have b6 := (cell_of_row _ _ 6 _ _ _ pb).trans rfl; have b7 := (cell_of_row _ _ 7 _ _ _ pb).trans rfl; go_simp; try with_reducible rfl
  (try simp only [Act.put, List.setIfInBounds_toArray, List.set_cons_zero, List.set_cons_succ])
  refine wpAnyH_take (i := 5) (oi := { dst := some 56, op := Op.load 60 (Operand.tmp 1), type := 60, pos := "law.go:23", after := #[{ on := 2, ground := Ground.guard }], guard := some (2, true) }) (v := ?_) rfl (by kernel_rfl) (by kernel_rfl) (by kernel_rfl) (fun _ _ _ h => h) (Or.inl ⟨by rfl, ?_⟩) (by assumption) ?_
  rotate_left
  · intro w hSw; (try dsimp only at hSw); have pa := hSw.s.a; have a0 := (cell_of_row _ _ 0 _ _ _ pa).trans rfl; have a1 := (cell_of_row _ _ 1 _ _ _ pa).trans rfl; have a2 := (cell_of_row _ _ 2 _ _ _ pa).trans rfl; have a3 := (cell_of_row _ _ 3 _ _ _ pa).trans rfl; have a4 := (cell_of_row _ _ 4 _ _ _ pa).trans rfl; have a5 := (cell_of_row _ _ 5 _ _ _ pa).trans rfl; have a6 := (cell_of_row _ _ 6 _ _ _ pa).trans rfl; have a7 := (cell_of_row _ _ 7 _ _ _ pa).trans rfl; go_simp; try with_reducible rfl
  (try simp only [Act.put, List.setIfInBounds_toArray, List.set_cons_zero, List.set_cons_succ])
  refine wpAnyH_take (i := 6) (oi := { dst := some 57, op := Op.load 24 (Operand.tmp 3), type := 24, pos := "law.go:23", after := #[{ on := 2, ground := Ground.guard }], guard := some (2, true) }) (v := ?_) rfl (by kernel_rfl) (by kernel_rfl) (by kernel_rfl) (fun _ _ _ h => h) (Or.inl ⟨by rfl, ?_⟩) (by assumption) ?_
  rotate_left
  · intro w hSw; (try dsimp only at hSw); obtain ⟨r0, r1, r2, r3, r4, r5⟩ := cells6 hSw.s.both; go_simp; try with_reducible rfl
  (try simp only [Act.put, List.setIfInBounds_toArray, List.set_cons_zero, List.set_cons_succ])
  refine wpAnyH_take (i := 7) (oi := { dst := some 58, op := Op.build 60 #[(1, Operand.tmp 57), (2, Operand.const (Value.int IntKind.i64 12))], type := 60, pos := "law.go:23", after := #[{ on := 6, ground := Ground.data }, { on := 2, ground := Ground.guard }], guard := some (2, true) }) (v := ?_) rfl (by kernel_rfl) (by kernel_rfl) (by kernel_rfl) (fun _ _ _ h => h) (Or.inl ⟨by rfl, ?_⟩) (by assumption) ?_
  rotate_left
  · intro w hSw; (try dsimp only at hSw); go_simp; try with_reducible rfl
  (try simp only [Act.put, List.setIfInBounds_toArray, List.set_cons_zero, List.set_cons_succ])
  refine wpAnyH_ready (rs := [8]) (by kernel_rfl) (by simp) ?_
  refine AllReadyH.cons (o := { dst := some 59, op := Op.buildSlice 22 3 #[(0, Operand.tmp 55), (1, Operand.tmp 56), (2, Operand.tmp 58)], type := 22, pos := "law.go:23", after := #[{ on := 4, ground := Ground.data }, { on := 5, ground := Ground.data }, { on := 7, ground := Ground.data }, { on := 2, ground := Ground.guard }], guard := some (2, true) }) rfl (fun K hK => ?_) AllReadyH.nil
  go_simp
  have nb := below_new Y (.cells #[.int .i64 0, .int .i64 0, .int .i64 1, .int .i64 0, .int .i64 0, .int .i64 0, .int .i64 0, .int .i64 7, .int .i64 0, .int .i64 1, .int .i64 0, .int .i64 0, .int .i64 0, .int .i64 0, .int .i64 0, .int .i64 5, .int .i64 0, .int .i64 1, .int .i64 1, .int .i64 0, .int .i64 0, .int .i64 0, .int .i64 0, .int .i64 12] 60)
  have Z1 := Lib.hid (Lst.lit (E := ofE) [oB, oA, oC] 3 (heap_new Y (.cells #[.int .i64 0, .int .i64 0, .int .i64 1, .int .i64 0, .int .i64 0, .int .i64 0, .int .i64 0, .int .i64 7, .int .i64 0, .int .i64 1, .int .i64 0, .int .i64 0, .int .i64 0, .int .i64 0, .int .i64 0, .int .i64 5, .int .i64 0, .int .i64 1, .int .i64 1, .int .i64 0, .int .i64 0, .int .i64 0, .int .i64 0, .int .i64 12] 60)) rfl rfl (by decide) (ofE_fine (by decide)))
  replace HX := Lib.hid (HX.out.keep nb)
  replace HL := Lib.hid (HL.out.keep nb)
  clear nb
  obtain ⟨v1, hv1⟩ : ∃ v1, v1 = Y.alloc (.cells #[.int .i64 0, .int .i64 0, .int .i64 1, .int .i64 0, .int .i64 0, .int .i64 0, .int .i64 0, .int .i64 7, .int .i64 0, .int .i64 1, .int .i64 0, .int .i64 0, .int .i64 0, .int .i64 0, .int .i64 0, .int .i64 5, .int .i64 0, .int .i64 1, .int .i64 1, .int .i64 0, .int .i64 0, .int .i64 0, .int .i64 0, .int .i64 12] 60) := ⟨_, rfl⟩
  rw [← hv1] at HX HL Z1 ⊢
  clear hv1
  obtain ⟨gZ1, hgZ1⟩ : ∃ g, g = Y.heap.size := ⟨_, rfl⟩
  rw [← hgZ1] at Z1 ⊢
  clear hgZ1
  refine hK.out _ _ ?_ (fun hHeld => ?_)
  · exact HX.out
  clear hK K
  (try simp only [Act.put, List.setIfInBounds_toArray, List.set_cons_zero, List.set_cons_succ])
  refine wpAnyH_ready (rs := [9]) (by kernel_rfl) (by simp) ?_
  refine AllReadyH.cons (o := { dst := some 60, op := Op.call { callee := Callee.value (Operand.func 32), args := #[Operand.tmp 54, Operand.tmp 59], argTypes := #[22, 22] }, type := 4, pos := "law.go:23", after := #[{ on := 3, ground := Ground.data }, { on := 8, ground := Ground.data }, { on := 2, ground := Ground.chain }, { on := 2, ground := Ground.guard }], guard := some (2, true) }) rfl (fun K hK => ?_) AllReadyH.nil
  go_simp
  refine (rsame14_any A6 (some ⟨gZ1, 0, none⟩) 3 c6 3 3 [oB, oA, oC] v1 HL.out Z1.out).mono ?_
  rintro ev v2 ⟨rfl, nb⟩
  clear HL Z1
  replace HX := Lib.hid (HX.out.keep nb)
  clear nb
  refine hK.out _ _ ?_ (fun hHeld => ?_)
  · exact HX.out
  clear hK K
  (try simp only [Act.put, List.setIfInBounds_toArray, List.set_cons_zero, List.set_cons_succ])
  refine wpAnyH_take (i := 10) (oi := { dst := some 61, op := Op.pick (Operand.tmp 53) (Operand.tmp 60) (Operand.const (Value.bool false)), type := 4, pos := "law.go:23", after := #[{ on := 2, ground := Ground.data }, { on := 9, ground := Ground.data }], guard := none }) (v := ?_) rfl (by kernel_rfl) (by kernel_rfl) (by kernel_rfl) (fun _ _ _ h => h) (Or.inl ⟨by rfl, ?_⟩) (by assumption) ?_
  rotate_left
  · intro w hSw; (try dsimp only at hSw); go_simp; try with_reducible rfl
  (try simp only [Act.put, List.setIfInBounds_toArray, List.set_cons_zero, List.set_cons_succ])
  refine wpAnyH_take (i := 11) (oi := { dst := some 62, op := Op.move (Operand.tmp 61), type := 4, pos := "law.go:23", after := #[{ on := 10, ground := Ground.data }, { on := 9, ground := Ground.chain }], guard := none }) (v := ?_) rfl (by kernel_rfl) (by kernel_rfl) (by kernel_rfl) (fun _ _ _ h => h) (Or.inl ⟨by rfl, ?_⟩) (by assumption) ?_
  rotate_left
  · intro w hSw; (try dsimp only at hSw); go_simp; try with_reducible rfl
  (try simp only [Act.put, List.setIfInBounds_toArray, List.set_cons_zero, List.set_cons_succ])
  refine wpAnyH_take (i := 12) (oi := { dst := some 63, op := Op.move (Operand.tmp 8), type := 29, pos := "law.go:23", after := #[{ on := 11, ground := Ground.guard }], guard := some (11, true) }) (v := ?_) rfl (by kernel_rfl) (by kernel_rfl) (by kernel_rfl) (fun _ _ _ h => h) (Or.inl ⟨by rfl, ?_⟩) (by assumption) ?_
  rotate_left
  · intro w hSw; (try dsimp only at hSw); go_simp; try with_reducible rfl
  (try simp only [Act.put, List.setIfInBounds_toArray, List.set_cons_zero, List.set_cons_succ])
  refine wpAnyH_take (i := 13) (oi := { dst := some 64, op := Op.binOp BinOp.eql 29 (Operand.tmp 63) (Operand.const (Value.int IntKind.i64 0)) 29, type := 4, pos := "law.go:23", after := #[{ on := 12, ground := Ground.data }, { on := 11, ground := Ground.guard }], guard := some (11, true) }) (v := ?_) rfl (by kernel_rfl) (by kernel_rfl) (by kernel_rfl) (fun _ _ _ h => h) (Or.inl ⟨by rfl, ?_⟩) (by assumption) ?_
  rotate_left
  · intro w hSw; (try dsimp only at hSw); go_simp; try with_reducible rfl
  (try simp only [Act.put, List.setIfInBounds_toArray, List.set_cons_zero, List.set_cons_succ])
  refine wpAnyH_take (i := 14) (oi := { dst := some 65, op := Op.pick (Operand.tmp 62) (Operand.tmp 64) (Operand.const (Value.bool false)), type := 4, pos := "law.go:23", after := #[{ on := 11, ground := Ground.data }, { on := 13, ground := Ground.data }], guard := none }) (v := ?_) rfl (by kernel_rfl) (by kernel_rfl) (by kernel_rfl) (fun _ _ _ h => h) (Or.inl ⟨by rfl, ?_⟩) (by assumption) ?_
  rotate_left
  · intro w hSw; (try dsimp only at hSw); go_simp; try with_reducible rfl
  (try simp only [Act.put, List.setIfInBounds_toArray, List.set_cons_zero, List.set_cons_succ])
  refine wpAnyH_take (i := 15) (oi := { dst := some 66, op := Op.move (Operand.tmp 65), type := 4, pos := "law.go:23", after := #[{ on := 14, ground := Ground.data }, { on := 11, ground := Ground.chain }], guard := none }) (v := ?_) rfl (by kernel_rfl) (by kernel_rfl) (by kernel_rfl) (fun _ _ _ h => h) (Or.inl ⟨by rfl, ?_⟩) (by assumption) ?_
  rotate_left
  · intro w hSw; (try dsimp only at hSw); go_simp; try with_reducible rfl
  (try simp only [Act.put, List.setIfInBounds_toArray, List.set_cons_zero, List.set_cons_succ])
  refine wpAnyH_take (i := 16) (oi := { dst := some 67, op := Op.move (Operand.tmp 7), type := 22, pos := "law.go:23", after := #[{ on := 15, ground := Ground.guard }], guard := some (15, true) }) (v := ?_) rfl (by kernel_rfl) (by kernel_rfl) (by kernel_rfl) (fun _ _ _ h => h) (Or.inl ⟨by rfl, ?_⟩) (by assumption) ?_
  rotate_left
  · intro w hSw; (try dsimp only at hSw); go_simp; try with_reducible rfl
  (try simp only [Act.put, List.setIfInBounds_toArray, List.set_cons_zero, List.set_cons_succ])
  refine wpAnyH_take (i := 17) (oi := { dst := some 68, op := Op.call { callee := Callee.builtin Builtin.len, args := #[Operand.tmp 67], argTypes := #[22] }, type := 3, pos := "law.go:23", after := #[{ on := 16, ground := Ground.data }, { on := 15, ground := Ground.guard }], guard := some (15, true) }) (v := ?_) rfl (by kernel_rfl) (by kernel_rfl) (by kernel_rfl) (fun _ _ _ h => h) (Or.inl ⟨by rfl, ?_⟩) (by assumption) ?_
  rotate_left
  · intro w hSw; (try dsimp only at hSw); go_simp; try with_reducible rfl
  (try simp only [Act.put, List.setIfInBounds_toArray, List.set_cons_zero, List.set_cons_succ])
  refine wpAnyH_take (i := 18) (oi := { dst := some 69, op := Op.binOp BinOp.eql 3 (Operand.tmp 68) (Operand.const (Value.int IntKind.i64 3)) 3, type := 4, pos := "law.go:23", after := #[{ on := 17, ground := Ground.data }, { on := 15, ground := Ground.guard }], guard := some (15, true) }) (v := ?_) rfl (by kernel_rfl) (by kernel_rfl) (by kernel_rfl) (fun _ _ _ h => h) (Or.inl ⟨by rfl, ?_⟩) (by assumption) ?_
  rotate_left
  · intro w hSw; (try dsimp only at hSw); go_simp; try with_reducible rfl
  (try simp only [Act.put, List.setIfInBounds_toArray, List.set_cons_zero, List.set_cons_succ])
  refine wpAnyH_take (i := 19) (oi := { dst := some 70, op := Op.pick (Operand.tmp 66) (Operand.tmp 69) (Operand.const (Value.bool false)), type := 4, pos := "law.go:23", after := #[{ on := 15, ground := Ground.data }, { on := 18, ground := Ground.data }], guard := none }) (v := ?_) rfl (by kernel_rfl) (by kernel_rfl) (by kernel_rfl) (fun _ _ _ h => h) (Or.inl ⟨by rfl, ?_⟩) (by assumption) ?_
  rotate_left
  · intro w hSw; (try dsimp only at hSw); go_simp; try with_reducible rfl
  (try simp only [Act.put, List.setIfInBounds_toArray, List.set_cons_zero, List.set_cons_succ])
  refine wpAnyH_take (i := 20) (oi := { dst := some 71, op := Op.move (Operand.tmp 70), type := 4, pos := "law.go:23", after := #[{ on := 19, ground := Ground.data }, { on := 15, ground := Ground.chain }], guard := none }) (v := ?_) rfl (by kernel_rfl) (by kernel_rfl) (by kernel_rfl) (fun _ _ _ h => h) (Or.inl ⟨by rfl, ?_⟩) (by assumption) ?_
  rotate_left
  · intro w hSw; (try dsimp only at hSw); go_simp; try with_reducible rfl
  (try simp only [Act.put, List.setIfInBounds_toArray, List.set_cons_zero, List.set_cons_succ])
  refine wpAnyH_take (i := 21) (oi := { dst := some 72, op := Op.move (Operand.tmp 7), type := 22, pos := "law.go:23", after := #[{ on := 20, ground := Ground.guard }], guard := some (20, true) }) (v := ?_) rfl (by kernel_rfl) (by kernel_rfl) (by kernel_rfl) (fun _ _ _ h => h) (Or.inl ⟨by rfl, ?_⟩) (by assumption) ?_
  rotate_left
  · intro w hSw; (try dsimp only at hSw); go_simp; try with_reducible rfl
  (try simp only [Act.put, List.setIfInBounds_toArray, List.set_cons_zero, List.set_cons_succ])
  refine wpAnyH_take (i := 22) (oi := { dst := some 73, op := Op.indexAddr 22 (Operand.tmp 72) (Operand.const (Value.int IntKind.i64 2)), type := 0, pos := "law.go:23", after := #[{ on := 21, ground := Ground.data }, { on := 20, ground := Ground.guard }], guard := some (20, true) }) (v := ?_) rfl (by kernel_rfl) (by kernel_rfl) (by kernel_rfl) (fun _ _ _ h => h) (Or.inl ⟨by rfl, ?_⟩) (by assumption) ?_
  rotate_left
  · intro w hSw; (try dsimp only at hSw); have k8 := hSw.k; go_simp; try with_reducible rfl
  (try simp only [Act.put, List.setIfInBounds_toArray, List.set_cons_zero, List.set_cons_succ])
  refine wpAnyH_take (i := 23) (oi := { dst := some 74, op := Op.fieldAddr 60 (Operand.tmp 73) 2, type := 0, pos := "law.go:23", after := #[{ on := 22, ground := Ground.data }, { on := 20, ground := Ground.guard }], guard := some (20, true) }) (v := ?_) rfl (by kernel_rfl) (by kernel_rfl) (by kernel_rfl) (fun _ _ _ h => h) (Or.inl ⟨by rfl, ?_⟩) (by assumption) ?_
  rotate_left
  · intro w hSw; (try dsimp only at hSw); have k8 := hSw.k; go_simp; try with_reducible rfl
  (try simp only [Act.put, List.setIfInBounds_toArray, List.set_cons_zero, List.set_cons_succ])
  refine wpAnyH_take (i := 24) (oi := { dst := some 75, op := Op.load 2 (Operand.tmp 74), type := 2, pos := "law.go:23", after := #[{ on := 23, ground := Ground.data }, { on := 20, ground := Ground.guard }], guard := some (20, true) }) (v := ?_) rfl (by kernel_rfl) (by kernel_rfl) (by kernel_rfl) (fun _ _ _ h => h) (Or.inl ⟨by rfl, ?_⟩) (by assumption) ?_
  rotate_left
  · intro w hSw; (try dsimp only at hSw); have k8 := hSw.k; go_simp; try with_reducible rfl
  (try simp only [Act.put, List.setIfInBounds_toArray, List.set_cons_zero, List.set_cons_succ])
  refine wpAnyH_take (i := 25) (oi := { dst := some 76, op := Op.binOp BinOp.eql 2 (Operand.tmp 75) (Operand.const (Value.int IntKind.i64 6)) 2, type := 4, pos := "law.go:23", after := #[{ on := 24, ground := Ground.data }, { on := 20, ground := Ground.guard }], guard := some (20, true) }) (v := ?_) rfl (by kernel_rfl) (by kernel_rfl) (by kernel_rfl) (fun _ _ _ h => h) (Or.inl ⟨by rfl, ?_⟩) (by assumption) ?_
  rotate_left
  · intro w hSw; (try dsimp only at hSw); go_simp; try with_reducible rfl
  (try simp only [Act.put, List.setIfInBounds_toArray, List.set_cons_zero, List.set_cons_succ])
  refine wpAnyH_take (i := 26) (oi := { dst := some 77, op := Op.pick (Operand.tmp 71) (Operand.tmp 76) (Operand.const (Value.bool false)), type := 4, pos := "law.go:23", after := #[{ on := 20, ground := Ground.data }, { on := 25, ground := Ground.data }], guard := none }) (v := ?_) rfl (by kernel_rfl) (by kernel_rfl) (by kernel_rfl) (fun _ _ _ h => h) (Or.inl ⟨by rfl, ?_⟩) (by assumption) ?_
  rotate_left
  · intro w hSw; (try dsimp only at hSw); go_simp; try with_reducible rfl
  (try simp only [Act.put, List.setIfInBounds_toArray, List.set_cons_zero, List.set_cons_succ])
  refine wpAnyH_take (i := 27) (oi := { dst := some 78, op := Op.move (Operand.tmp 77), type := 4, pos := "law.go:23", after := #[{ on := 26, ground := Ground.data }, { on := 20, ground := Ground.chain }], guard := none }) (v := ?_) rfl (by kernel_rfl) (by kernel_rfl) (by kernel_rfl) (fun _ _ _ h => h) (Or.inl ⟨by rfl, ?_⟩) (by assumption) ?_
  rotate_left
  · intro w hSw; (try dsimp only at hSw); go_simp; try with_reducible rfl
  (try simp only [Act.put, List.setIfInBounds_toArray, List.set_cons_zero, List.set_cons_succ])
  refine wpAnyH_take (i := 28) (oi := { dst := some 79, op := Op.move (Operand.tmp 10), type := 29, pos := "law.go:23", after := #[{ on := 27, ground := Ground.guard }], guard := some (27, true) }) (v := ?_) rfl (by kernel_rfl) (by kernel_rfl) (by kernel_rfl) (fun _ _ _ h => h) (Or.inl ⟨by rfl, ?_⟩) (by assumption) ?_
  rotate_left
  · intro w hSw; (try dsimp only at hSw); go_simp; try with_reducible rfl
  (try simp only [Act.put, List.setIfInBounds_toArray, List.set_cons_zero, List.set_cons_succ])
  refine wpAnyH_take (i := 29) (oi := { dst := some 80, op := Op.binOp BinOp.eql 29 (Operand.tmp 79) (Operand.const (Value.int IntKind.i64 1)) 29, type := 4, pos := "law.go:23", after := #[{ on := 28, ground := Ground.data }, { on := 27, ground := Ground.guard }], guard := some (27, true) }) (v := ?_) rfl (by kernel_rfl) (by kernel_rfl) (by kernel_rfl) (fun _ _ _ h => h) (Or.inl ⟨by rfl, ?_⟩) (by assumption) ?_
  rotate_left
  · intro w hSw; (try dsimp only at hSw); go_simp; try with_reducible rfl
  (try simp only [Act.put, List.setIfInBounds_toArray, List.set_cons_zero, List.set_cons_succ])
  refine wpAnyH_take (i := 30) (oi := { dst := some 81, op := Op.pick (Operand.tmp 78) (Operand.tmp 80) (Operand.const (Value.bool false)), type := 4, pos := "law.go:23", after := #[{ on := 27, ground := Ground.data }, { on := 29, ground := Ground.data }], guard := none }) (v := ?_) rfl (by kernel_rfl) (by kernel_rfl) (by kernel_rfl) (fun _ _ _ h => h) (Or.inl ⟨by rfl, ?_⟩) (by assumption) ?_
  rotate_left
  · intro w hSw; (try dsimp only at hSw); go_simp; try with_reducible rfl
  (try simp only [Act.put, List.setIfInBounds_toArray, List.set_cons_zero, List.set_cons_succ])
  refine wpAnyH_take (i := 31) (oi := { dst := some 82, op := Op.move (Operand.tmp 81), type := 4, pos := "law.go:23", after := #[{ on := 30, ground := Ground.data }, { on := 27, ground := Ground.chain }], guard := none }) (v := ?_) rfl (by kernel_rfl) (by kernel_rfl) (by kernel_rfl) (fun _ _ _ h => h) (Or.inl ⟨by rfl, ?_⟩) (by assumption) ?_
  rotate_left
  · intro w hSw; (try dsimp only at hSw); go_simp; try with_reducible rfl
  (try simp only [Act.put, List.setIfInBounds_toArray, List.set_cons_zero, List.set_cons_succ])
  refine wpAnyH_take (i := 32) (oi := { dst := some 83, op := Op.move (Operand.tmp 12), type := 29, pos := "law.go:23", after := #[{ on := 31, ground := Ground.guard }], guard := some (31, true) }) (v := ?_) rfl (by kernel_rfl) (by kernel_rfl) (by kernel_rfl) (fun _ _ _ h => h) (Or.inl ⟨by rfl, ?_⟩) (by assumption) ?_
  rotate_left
  · intro w hSw; (try dsimp only at hSw); go_simp; try with_reducible rfl
  (try simp only [Act.put, List.setIfInBounds_toArray, List.set_cons_zero, List.set_cons_succ])
  refine wpAnyH_take (i := 33) (oi := { dst := some 84, op := Op.binOp BinOp.eql 29 (Operand.tmp 83) (Operand.const (Value.int IntKind.i64 0)) 29, type := 4, pos := "law.go:23", after := #[{ on := 32, ground := Ground.data }, { on := 31, ground := Ground.guard }], guard := some (31, true) }) (v := ?_) rfl (by kernel_rfl) (by kernel_rfl) (by kernel_rfl) (fun _ _ _ h => h) (Or.inl ⟨by rfl, ?_⟩) (by assumption) ?_
  rotate_left
  · intro w hSw; (try dsimp only at hSw); go_simp; try with_reducible rfl
  (try simp only [Act.put, List.setIfInBounds_toArray, List.set_cons_zero, List.set_cons_succ])
  refine wpAnyH_take (i := 34) (oi := { dst := some 85, op := Op.pick (Operand.tmp 82) (Operand.tmp 84) (Operand.const (Value.bool false)), type := 4, pos := "law.go:23", after := #[{ on := 31, ground := Ground.data }, { on := 33, ground := Ground.data }], guard := none }) (v := ?_) rfl (by kernel_rfl) (by kernel_rfl) (by kernel_rfl) (fun _ _ _ h => h) (Or.inl ⟨by rfl, ?_⟩) (by assumption) ?_
  rotate_left
  · intro w hSw; (try dsimp only at hSw); go_simp; try with_reducible rfl
  (try simp only [Act.put, List.setIfInBounds_toArray, List.set_cons_zero, List.set_cons_succ])
  refine wpAnyH_take (i := 35) (oi := { dst := some 86, op := Op.move (Operand.tmp 85), type := 4, pos := "law.go:23", after := #[{ on := 34, ground := Ground.data }, { on := 31, ground := Ground.chain }], guard := none }) (v := ?_) rfl (by kernel_rfl) (by kernel_rfl) (by kernel_rfl) (fun _ _ _ h => h) (Or.inl ⟨by rfl, ?_⟩) (by assumption) ?_
  rotate_left
  · intro w hSw; (try dsimp only at hSw); go_simp; try with_reducible rfl
  (try simp only [Act.put, List.setIfInBounds_toArray, List.set_cons_zero, List.set_cons_succ])
  refine wpAnyH_take (i := 36) (oi := { dst := some 87, op := Op.fieldAddr 28 (Operand.tmp 11) 0, type := 0, pos := "law.go:23", after := #[{ on := 35, ground := Ground.guard }], guard := some (35, true) }) (v := ?_) rfl (by kernel_rfl) (by kernel_rfl) (by kernel_rfl) (fun _ _ _ h => h) (Or.inl ⟨by rfl, ?_⟩) (by assumption) ?_
  rotate_left
  · intro w hSw; (try dsimp only at hSw); go_simp; try with_reducible rfl
  (try simp only [Act.put, List.setIfInBounds_toArray, List.set_cons_zero, List.set_cons_succ])
  refine wpAnyH_take (i := 37) (oi := { dst := some 88, op := Op.load 3 (Operand.tmp 87), type := 3, pos := "law.go:23", after := #[{ on := 36, ground := Ground.data }, { on := 35, ground := Ground.guard }], guard := some (35, true) }) (v := ?_) rfl (by kernel_rfl) (by kernel_rfl) (by kernel_rfl) (fun _ _ _ h => h) (Or.inl ⟨by rfl, ?_⟩) (by assumption) ?_
  rotate_left
  · intro w hSw; (try dsimp only at hSw); obtain ⟨e0, e1, e2, e3, e4, e5, e6, e7, e8⟩ := B9.cells (show B9 _ _ _ _ _ _ _ _ _ _ _ from hSw.x); go_simp; try with_reducible rfl
  (try simp only [Act.put, List.setIfInBounds_toArray, List.set_cons_zero, List.set_cons_succ])
  refine wpAnyH_take (i := 38) (oi := { dst := some 89, op := Op.binOp BinOp.eql 3 (Operand.tmp 88) (Operand.const (Value.int IntKind.i64 2)) 3, type := 4, pos := "law.go:23", after := #[{ on := 37, ground := Ground.data }, { on := 35, ground := Ground.guard }], guard := some (35, true) }) (v := ?_) rfl (by kernel_rfl) (by kernel_rfl) (by kernel_rfl) (fun _ _ _ h => h) (Or.inl ⟨by rfl, ?_⟩) (by assumption) ?_
  rotate_left
  · intro w hSw; (try dsimp only at hSw); go_simp; try with_reducible rfl
  (try simp only [Act.put, List.setIfInBounds_toArray, List.set_cons_zero, List.set_cons_succ])
  refine wpAnyH_take (i := 39) (oi := { dst := some 90, op := Op.pick (Operand.tmp 86) (Operand.tmp 89) (Operand.const (Value.bool false)), type := 4, pos := "law.go:23", after := #[{ on := 35, ground := Ground.data }, { on := 38, ground := Ground.data }], guard := none }) (v := ?_) rfl (by kernel_rfl) (by kernel_rfl) (by kernel_rfl) (fun _ _ _ h => h) (Or.inl ⟨by rfl, ?_⟩) (by assumption) ?_
  rotate_left
  · intro w hSw; (try dsimp only at hSw); go_simp; try with_reducible rfl
  (try simp only [Act.put, List.setIfInBounds_toArray, List.set_cons_zero, List.set_cons_succ])
  refine wpAnyH_take (i := 40) (oi := { dst := some 91, op := Op.move (Operand.tmp 90), type := 4, pos := "law.go:23", after := #[{ on := 39, ground := Ground.data }, { on := 35, ground := Ground.chain }], guard := none }) (v := ?_) rfl (by kernel_rfl) (by kernel_rfl) (by kernel_rfl) (fun _ _ _ h => h) (Or.inl ⟨by rfl, ?_⟩) (by assumption) ?_
  rotate_left
  · intro w hSw; (try dsimp only at hSw); go_simp; try with_reducible rfl
  (try simp only [Act.put, List.setIfInBounds_toArray, List.set_cons_zero, List.set_cons_succ])
  refine wpAnyH_take (i := 41) (oi := { dst := some 92, op := Op.fieldAddr 28 (Operand.tmp 11) 3, type := 0, pos := "law.go:23", after := #[{ on := 40, ground := Ground.guard }], guard := some (40, true) }) (v := ?_) rfl (by kernel_rfl) (by kernel_rfl) (by kernel_rfl) (fun _ _ _ h => h) (Or.inl ⟨by rfl, ?_⟩) (by assumption) ?_
  rotate_left
  · intro w hSw; (try dsimp only at hSw); go_simp; try with_reducible rfl
  (try simp only [Act.put, List.setIfInBounds_toArray, List.set_cons_zero, List.set_cons_succ])
  refine wpAnyH_take (i := 42) (oi := { dst := some 93, op := Op.load 26 (Operand.tmp 92), type := 26, pos := "law.go:23", after := #[{ on := 41, ground := Ground.data }, { on := 40, ground := Ground.guard }], guard := some (40, true) }) (v := ?_) rfl (by kernel_rfl) (by kernel_rfl) (by kernel_rfl) (fun _ _ _ h => h) (Or.inl ⟨by rfl, ?_⟩) (by assumption) ?_
  rotate_left
  · intro w hSw; (try dsimp only at hSw); obtain ⟨e0, e1, e2, e3, e4, e5, e6, e7, e8⟩ := B9.cells (show B9 _ _ _ _ _ _ _ _ _ _ _ from hSw.x); go_simp; try with_reducible rfl
  (try simp only [Act.put, List.setIfInBounds_toArray, List.set_cons_zero, List.set_cons_succ])
  refine wpAnyH_take (i := 43) (oi := { dst := some 94, op := Op.call { callee := Callee.builtin Builtin.len, args := #[Operand.tmp 93], argTypes := #[26] }, type := 3, pos := "law.go:23", after := #[{ on := 42, ground := Ground.data }, { on := 40, ground := Ground.guard }], guard := some (40, true) }) (v := ?_) rfl (by kernel_rfl) (by kernel_rfl) (by kernel_rfl) (fun _ _ _ h => h) (Or.inl ⟨by rfl, ?_⟩) (by assumption) ?_
  rotate_left
  · intro w hSw; (try dsimp only at hSw); go_simp; try with_reducible rfl
  (try simp only [Act.put, List.setIfInBounds_toArray, List.set_cons_zero, List.set_cons_succ])
  refine wpAnyH_take (i := 44) (oi := { dst := some 95, op := Op.binOp BinOp.eql 3 (Operand.tmp 94) (Operand.const (Value.int IntKind.i64 2)) 3, type := 4, pos := "law.go:23", after := #[{ on := 43, ground := Ground.data }, { on := 40, ground := Ground.guard }], guard := some (40, true) }) (v := ?_) rfl (by kernel_rfl) (by kernel_rfl) (by kernel_rfl) (fun _ _ _ h => h) (Or.inl ⟨by rfl, ?_⟩) (by assumption) ?_
  rotate_left
  · intro w hSw; (try dsimp only at hSw); go_simp; try with_reducible rfl
  (try simp only [Act.put, List.setIfInBounds_toArray, List.set_cons_zero, List.set_cons_succ])
  refine wpAnyH_take (i := 45) (oi := { dst := some 96, op := Op.pick (Operand.tmp 91) (Operand.tmp 95) (Operand.const (Value.bool false)), type := 4, pos := "law.go:23", after := #[{ on := 40, ground := Ground.data }, { on := 44, ground := Ground.data }], guard := none }) (v := ?_) rfl (by kernel_rfl) (by kernel_rfl) (by kernel_rfl) (fun _ _ _ h => h) (Or.inl ⟨by rfl, ?_⟩) (by assumption) ?_
  rotate_left
  · intro w hSw; (try dsimp only at hSw); go_simp; try with_reducible rfl
  (try simp only [Act.put, List.setIfInBounds_toArray, List.set_cons_zero, List.set_cons_succ])
  refine wpAnyH_take (i := 46) (oi := { dst := some 97, op := Op.move (Operand.tmp 96), type := 4, pos := "law.go:23", after := #[{ on := 45, ground := Ground.data }, { on := 40, ground := Ground.chain }], guard := none }) (v := ?_) rfl (by kernel_rfl) (by kernel_rfl) (by kernel_rfl) (fun _ _ _ h => h) (Or.inl ⟨by rfl, ?_⟩) (by assumption) ?_
  rotate_left
  · intro w hSw; (try dsimp only at hSw); go_simp; try with_reducible rfl
  (try simp only [Act.put, List.setIfInBounds_toArray, List.set_cons_zero, List.set_cons_succ])
  refine wpAnyH_take (i := 47) (oi := { dst := some 98, op := Op.load 60 (Operand.tmp 1), type := 60, pos := "law.go:23", after := #[{ on := 46, ground := Ground.guard }], guard := some (46, true) }) (v := ?_) rfl (by kernel_rfl) (by kernel_rfl) (by kernel_rfl) (fun _ _ _ h => h) (Or.inl ⟨by rfl, ?_⟩) (by assumption) ?_
  rotate_left
  · intro w hSw; (try dsimp only at hSw); have pa := hSw.s.a; have a0 := (cell_of_row _ _ 0 _ _ _ pa).trans rfl; have a1 := (cell_of_row _ _ 1 _ _ _ pa).trans rfl; have a2 := (cell_of_row _ _ 2 _ _ _ pa).trans rfl; have a3 := (cell_of_row _ _ 3 _ _ _ pa).trans rfl; have a4 := (cell_of_row _ _ 4 _ _ _ pa).trans rfl; have a5 := (cell_of_row _ _ 5 _ _ _ pa).trans rfl; have a6 := (cell_of_row _ _ 6 _ _ _ pa).trans rfl; have a7 := (cell_of_row _ _ 7 _ _ _ pa).trans rfl; go_simp; try with_reducible rfl
  (try simp only [Act.put, List.setIfInBounds_toArray, List.set_cons_zero, List.set_cons_succ])
  refine wpAnyH_take (i := 48) (oi := { dst := some 99, op := Op.load 60 (Operand.tmp 2), type := 60, pos := "law.go:23", after := #[{ on := 46, ground := Ground.guard }], guard := some (46, true) }) (v := ?_) rfl (by kernel_rfl) (by kernel_rfl) (by kernel_rfl) (fun _ _ _ h => h) (Or.inl ⟨by rfl, ?_⟩) (by assumption) ?_
  rotate_left
  · intro w hSw; (try dsimp only at hSw); have pb := hSw.s.b; have b0 := (cell_of_row _ _ 0 _ _ _ pb).trans rfl; have b1 := (cell_of_row _ _ 1 _ _ _ pb).trans rfl; have b2 := (cell_of_row _ _ 2 _ _ _ pb).trans rfl; have b3 := (cell_of_row _ _ 3 _ _ _ pb).trans rfl; have b4 := (cell_of_row _ _ 4 _ _ _ pb).trans rfl; have b5 := (cell_of_row _ _ 5 _ _ _ pb).trans rfl; have b6 := (cell_of_row _ _ 6 _ _ _ pb).trans rfl; have b7 := (cell_of_row _ _ 7 _ _ _ pb).trans rfl; go_simp; try with_reducible rfl
  (try simp only [Act.put, List.setIfInBounds_toArray, List.set_cons_zero, List.set_cons_succ])
  refine wpAnyH_take (i := 50) (oi := { dst := some 101, op := Op.load 24 (Operand.tmp 3), type := 24, pos := "law.go:23", after := #[{ on := 46, ground := Ground.guard }], guard := some (46, true) }) (v := ?_) rfl (by kernel_rfl) (by kernel_rfl) (by kernel_rfl) (fun _ _ _ h => h) (Or.inl ⟨by rfl, ?_⟩) (by assumption) ?_
  rotate_left
  · intro w hSw; (try dsimp only at hSw); obtain ⟨r0, r1, r2, r3, r4, r5⟩ := cells6 hSw.s.both; go_simp; try with_reducible rfl
  (try simp only [Act.put, List.setIfInBounds_toArray, List.set_cons_zero, List.set_cons_succ])
  refine wpAnyH_ready (rs := [49]) (by kernel_rfl) (by simp) ?_
  refine AllReadyH.cons (o := { dst := some 100, op := Op.buildSlice 22 2 #[(0, Operand.tmp 98), (1, Operand.tmp 99)], type := 22, pos := "law.go:23", after := #[{ on := 47, ground := Ground.data }, { on := 48, ground := Ground.data }, { on := 46, ground := Ground.guard }], guard := some (46, true) }) rfl (fun K hK => ?_) AllReadyH.nil
  go_simp
  have nb := below_new v2 (.cells #[.int .i64 0, .int .i64 1, .int .i64 0, .int .i64 0, .int .i64 0, .int .i64 0, .int .i64 0, .int .i64 5, .int .i64 0, .int .i64 0, .int .i64 1, .int .i64 0, .int .i64 0, .int .i64 0, .int .i64 0, .int .i64 7] 60)
  have Z1 := Lib.hid (Lst.lit (E := ofE) [oA, oB] 2 (heap_new v2 (.cells #[.int .i64 0, .int .i64 1, .int .i64 0, .int .i64 0, .int .i64 0, .int .i64 0, .int .i64 0, .int .i64 5, .int .i64 0, .int .i64 0, .int .i64 1, .int .i64 0, .int .i64 0, .int .i64 0, .int .i64 0, .int .i64 7] 60)) rfl rfl (by decide) (ofE_fine (by decide)))
  replace HX := Lib.hid (HX.out.keep nb)
  clear nb
  obtain ⟨v3, hv3⟩ : ∃ v3, v3 = v2.alloc (.cells #[.int .i64 0, .int .i64 1, .int .i64 0, .int .i64 0, .int .i64 0, .int .i64 0, .int .i64 0, .int .i64 5, .int .i64 0, .int .i64 0, .int .i64 1, .int .i64 0, .int .i64 0, .int .i64 0, .int .i64 0, .int .i64 7] 60) := ⟨_, rfl⟩
  rw [← hv3] at HX Z1 ⊢
  clear hv3
  obtain ⟨gZ1, hgZ1⟩ : ∃ g, g = v2.heap.size := ⟨_, rfl⟩
  rw [← hgZ1] at Z1 ⊢
  clear hgZ1
  refine hK.out _ _ ?_ (fun hHeld => ?_)
  · exact HX.out
  clear hK K
  (try simp only [Act.put, List.setIfInBounds_toArray, List.set_cons_zero, List.set_cons_succ])
  refine wpAnyH_ready (rs := [51]) (by kernel_rfl) (by simp) ?_
  refine AllReadyH.cons (o := { dst := some 102, op := Op.call { callee := Callee.value (Operand.func 15), args := #[Operand.tmp 100, Operand.tmp 101], argTypes := #[22, 24] }, type := 2, pos := "law.go:23", after := #[{ on := 49, ground := Ground.data }, { on := 50, ground := Ground.data }, { on := 46, ground := Ground.chain }, { on := 46, ground := Ground.guard }], guard := some (46, true) }) rfl (fun K hK => ?_) AllReadyH.nil
  go_simp
  have HV := fval_any [oA, oB] (some ⟨gZ1, 0, none⟩) 2 2 1 1 0 0 0 0 v3 Z1.out
  rw [ev5] at HV
  refine HV.mono ?_
  rintro ev v4 ⟨rfl, nb⟩
  clear Z1
  replace HX := Lib.hid (HX.out.keep nb)
  clear HV
  clear nb
  refine hK.out _ _ ?_ (fun hHeld => ?_)
  · exact HX.out
  clear hK K
  (try simp only [Act.put, List.setIfInBounds_toArray, List.set_cons_zero, List.set_cons_succ])
  refine wpAnyH_take (i := 52) (oi := { dst := some 103, op := Op.binOp BinOp.eql 2 (Operand.tmp 102) (Operand.const (Value.int IntKind.i64 7)) 2, type := 4, pos := "law.go:23", after := #[{ on := 51, ground := Ground.data }, { on := 46, ground := Ground.guard }], guard := some (46, true) }) (v := ?_) rfl (by kernel_rfl) (by kernel_rfl) (by kernel_rfl) (fun _ _ _ h => h) (Or.inl ⟨by rfl, ?_⟩) (by assumption) ?_
  rotate_left
  · intro w hSw; (try dsimp only at hSw); go_simp; try with_reducible rfl
  (try simp only [Act.put, List.setIfInBounds_toArray, List.set_cons_zero, List.set_cons_succ])
  refine wpAnyH_take (i := 53) (oi := { dst := some 104, op := Op.pick (Operand.tmp 97) (Operand.tmp 103) (Operand.const (Value.bool false)), type := 4, pos := "law.go:23", after := #[{ on := 46, ground := Ground.data }, { on := 52, ground := Ground.data }], guard := none }) (v := ?_) rfl (by kernel_rfl) (by kernel_rfl) (by kernel_rfl) (fun _ _ _ h => h) (Or.inl ⟨by rfl, ?_⟩) (by assumption) ?_
  rotate_left
  · intro w hSw; (try dsimp only at hSw); go_simp; try with_reducible rfl
  (try simp only [Act.put, List.setIfInBounds_toArray, List.set_cons_zero, List.set_cons_succ])
  refine wpAnyH_take (i := 54) (oi := { dst := some 105, op := Op.move (Operand.tmp 104), type := 4, pos := "law.go:23", after := #[{ on := 53, ground := Ground.data }, { on := 51, ground := Ground.chain }], guard := none }) (v := ?_) rfl (by kernel_rfl) (by kernel_rfl) (by kernel_rfl) (fun _ _ _ h => h) (Or.inl ⟨by rfl, ?_⟩) (by assumption) ?_
  rotate_left
  · intro w hSw; (try dsimp only at hSw); go_simp; try with_reducible rfl
  (try simp only [Act.put, List.setIfInBounds_toArray, List.set_cons_zero, List.set_cons_succ])
  refine wpAnyH_take (i := 55) (oi := { dst := some 106, op := Op.load 24 (Operand.tmp 3), type := 24, pos := "law.go:23", after := #[{ on := 54, ground := Ground.guard }], guard := some (54, true) }) (v := ?_) rfl (by kernel_rfl) (by kernel_rfl) (by kernel_rfl) (fun _ _ _ h => h) (Or.inl ⟨by rfl, ?_⟩) (by assumption) ?_
  rotate_left
  · intro w hSw; (try dsimp only at hSw); obtain ⟨r0, r1, r2, r3, r4, r5⟩ := cells6 hSw.s.both; go_simp; try with_reducible rfl
  (try simp only [Act.put, List.setIfInBounds_toArray, List.set_cons_zero, List.set_cons_succ])
  refine wpAnyH_take (i := 56) (oi := { dst := some 107, op := Op.build 60 #[(1, Operand.tmp 106), (2, Operand.const (Value.int IntKind.i64 5))], type := 60, pos := "law.go:23", after := #[{ on := 55, ground := Ground.data }, { on := 54, ground := Ground.guard }], guard := some (54, true) }) (v := ?_) rfl (by kernel_rfl) (by kernel_rfl) (by kernel_rfl) (fun _ _ _ h => h) (Or.inl ⟨by rfl, ?_⟩) (by assumption) ?_
  rotate_left
  · intro w hSw; (try dsimp only at hSw); go_simp; try with_reducible rfl
  (try simp only [Act.put, List.setIfInBounds_toArray, List.set_cons_zero, List.set_cons_succ])
  refine wpAnyH_take (i := 57) (oi := { dst := some 108, op := Op.load 60 (Operand.tmp 1), type := 60, pos := "law.go:23", after := #[{ on := 54, ground := Ground.guard }], guard := some (54, true) }) (v := ?_) rfl (by kernel_rfl) (by kernel_rfl) (by kernel_rfl) (fun _ _ _ h => h) (Or.inl ⟨by rfl, ?_⟩) (by assumption) ?_
  rotate_left
  · intro w hSw; (try dsimp only at hSw); have pa := hSw.s.a; have a0 := (cell_of_row _ _ 0 _ _ _ pa).trans rfl; have a1 := (cell_of_row _ _ 1 _ _ _ pa).trans rfl; have a2 := (cell_of_row _ _ 2 _ _ _ pa).trans rfl; have a3 := (cell_of_row _ _ 3 _ _ _ pa).trans rfl; have a4 := (cell_of_row _ _ 4 _ _ _ pa).trans rfl; have a5 := (cell_of_row _ _ 5 _ _ _ pa).trans rfl; have a6 := (cell_of_row _ _ 6 _ _ _ pa).trans rfl; have a7 := (cell_of_row _ _ 7 _ _ _ pa).trans rfl; go_simp; try with_reducible rfl
  (try simp only [Act.put, List.setIfInBounds_toArray, List.set_cons_zero, List.set_cons_succ])
  refine wpAnyH_take (i := 58) (oi := { dst := some 109, op := Op.load 60 (Operand.tmp 2), type := 60, pos := "law.go:23", after := #[{ on := 54, ground := Ground.guard }], guard := some (54, true) }) (v := ?_) rfl (by kernel_rfl) (by kernel_rfl) (by kernel_rfl) (fun _ _ _ h => h) (Or.inl ⟨by rfl, ?_⟩) (by assumption) ?_
  rotate_left
  · intro w hSw; (try dsimp only at hSw); have pb := hSw.s.b; have b0 := (cell_of_row _ _ 0 _ _ _ pb).trans rfl; have b1 := (cell_of_row _ _ 1 _ _ _ pb).trans rfl; have b2 := (cell_of_row _ _ 2 _ _ _ pb).trans rfl; have b3 := (cell_of_row _ _ 3 _ _ _ pb).trans rfl; have b4 := (cell_of_row _ _ 4 _ _ _ pb).trans rfl; have b5 := (cell_of_row _ _ 5 _ _ _ pb).trans rfl; have b6 := (cell_of_row _ _ 6 _ _ _ pb).trans rfl; have b7 := (cell_of_row _ _ 7 _ _ _ pb).trans rfl; go_simp; try with_reducible rfl
  (try simp only [Act.put, List.setIfInBounds_toArray, List.set_cons_zero, List.set_cons_succ])
  refine wpAnyH_take (i := 61) (oi := { dst := some 112, op := Op.load 60 (Operand.tmp 1), type := 60, pos := "law.go:23", after := #[{ on := 54, ground := Ground.guard }], guard := some (54, true) }) (v := ?_) rfl (by kernel_rfl) (by kernel_rfl) (by kernel_rfl) (fun _ _ _ h => h) (Or.inl ⟨by rfl, ?_⟩) (by assumption) ?_
  rotate_left
  · intro w hSw; (try dsimp only at hSw); have pa := hSw.s.a; have a0 := (cell_of_row _ _ 0 _ _ _ pa).trans rfl; have a1 := (cell_of_row _ _ 1 _ _ _ pa).trans rfl; have a2 := (cell_of_row _ _ 2 _ _ _ pa).trans rfl; have a3 := (cell_of_row _ _ 3 _ _ _ pa).trans rfl; have a4 := (cell_of_row _ _ 4 _ _ _ pa).trans rfl; have a5 := (cell_of_row _ _ 5 _ _ _ pa).trans rfl; have a6 := (cell_of_row _ _ 6 _ _ _ pa).trans rfl; have a7 := (cell_of_row _ _ 7 _ _ _ pa).trans rfl; go_simp; try with_reducible rfl
  (try simp only [Act.put, List.setIfInBounds_toArray, List.set_cons_zero, List.set_cons_succ])
  refine wpAnyH_take (i := 62) (oi := { dst := some 113, op := Op.load 60 (Operand.tmp 2), type := 60, pos := "law.go:23", after := #[{ on := 54, ground := Ground.guard }], guard := some (54, true) }) (v := ?_) rfl (by kernel_rfl) (by kernel_rfl) (by kernel_rfl) (fun _ _ _ h => h) (Or.inl ⟨by rfl, ?_⟩) (by assumption) ?_
  rotate_left
  · intro w hSw; (try dsimp only at hSw); have pb := hSw.s.b; have b0 := (cell_of_row _ _ 0 _ _ _ pb).trans rfl; have b1 := (cell_of_row _ _ 1 _ _ _ pb).trans rfl; have b2 := (cell_of_row _ _ 2 _ _ _ pb).trans rfl; have b3 := (cell_of_row _ _ 3 _ _ _ pb).trans rfl; have b4 := (cell_of_row _ _ 4 _ _ _ pb).trans rfl; have b5 := (cell_of_row _ _ 5 _ _ _ pb).trans rfl; have b6 := (cell_of_row _ _ 6 _ _ _ pb).trans rfl; have b7 := (cell_of_row _ _ 7 _ _ _ pb).trans rfl; go_simp; try with_reducible rfl
  (try simp only [Act.put, List.setIfInBounds_toArray, List.set_cons_zero, List.set_cons_succ])
  refine wpAnyH_ready (rs := [59, 63]) (by kernel_rfl) (by simp) ?_
  refine AllReadyH.cons (o := { dst := some 110, op := Op.buildSlice 22 3 #[(0, Operand.tmp 107), (1, Operand.tmp 108), (2, Operand.tmp 109)], type := 22, pos := "law.go:23", after := #[{ on := 56, ground := Ground.data }, { on := 57, ground := Ground.data }, { on := 58, ground := Ground.data }, { on := 54, ground := Ground.guard }], guard := some (54, true) }) rfl (fun K hK => ?_) (AllReadyH.cons (o := { dst := some 114, op := Op.buildSlice 22 2 #[(0, Operand.tmp 112), (1, Operand.tmp 113)], type := 22, pos := "law.go:23", after := #[{ on := 61, ground := Ground.data }, { on := 62, ground := Ground.data }, { on := 54, ground := Ground.guard }], guard := some (54, true) }) rfl (fun K hK => ?_) AllReadyH.nil)
  {
 go_simp
 have nb := below_new v4 (.cells #[.int .i64 0, .int .i64 1, .int .i64 1, .int .i64 0, .int .i64 0, .int .i64 0, .int .i64 0, .int .i64 5, .int .i64 0, .int .i64 1, .int .i64 0, .int .i64 0, .int .i64 0, .int .i64 0, .int .i64 0, .int .i64 5, .int .i64 0, .int .i64 0, .int .i64 1, .int .i64 0, .int .i64 0, .int .i64 0, .int .i64 0, .int .i64 7] 60)
 have Z2 := Lib.hid (Lst.lit (E := ofE) [o5, oA, oB] 3 (heap_new v4 (.cells #[.int .i64 0, .int .i64 1, .int .i64 1, .int .i64 0, .int .i64 0, .int .i64 0, .int .i64 0, .int .i64 5, .int .i64 0, .int .i64 1, .int .i64 0, .int .i64 0, .int .i64 0, .int .i64 0, .int .i64 0, .int .i64 5, .int .i64 0, .int .i64 0, .int .i64 1, .int .i64 0, .int .i64 0, .int .i64 0, .int .i64 0, .int .i64 7] 60)) rfl rfl (by decide) (ofE_fine (by decide)))
 replace HX := Lib.hid (HX.out.keep nb)
 clear nb
 obtain ⟨v5, hv5⟩ : ∃ v5, v5 = v4.alloc (.cells #[.int .i64 0, .int .i64 1, .int .i64 1, .int .i64 0, .int .i64 0, .int .i64 0, .int .i64 0, .int .i64 5, .int .i64 0, .int .i64 1, .int .i64 0, .int .i64 0, .int .i64 0, .int .i64 0, .int .i64 0, .int .i64 5, .int .i64 0, .int .i64 0, .int .i64 1, .int .i64 0, .int .i64 0, .int .i64 0, .int .i64 0, .int .i64 7] 60) := ⟨_, rfl⟩
 rw [← hv5] at HX Z2 ⊢
 clear hv5
 obtain ⟨gZ2, hgZ2⟩ : ∃ g, g = v4.heap.size := ⟨_, rfl⟩
 rw [← hgZ2] at Z2 ⊢
 clear hgZ2
 refine hK.out _ _ ?_ (fun hHeld => ?_)
 · exact HX.out
 clear hK K
 (try simp only [Act.put, List.setIfInBounds_toArray, List.set_cons_zero, List.set_cons_succ])
 refine wpAnyH_ready (rs := [60, 63]) (by kernel_rfl) (by simp) ?_
 refine AllReadyH.cons (o := { dst := some 111, op := Op.call { callee := Callee.value (Operand.func 33), args := #[Operand.tmp 110], argTypes := #[22] }, type := 22, pos := "law.go:23", after := #[{ on := 59, ground := Ground.data }, { on := 54, ground := Ground.chain }, { on := 54, ground := Ground.guard }], guard := some (54, true) }) rfl (fun K hK => ?_) (AllReadyH.cons (o := { dst := some 114, op := Op.buildSlice 22 2 #[(0, Operand.tmp 112), (1, Operand.tmp 113)], type := 22, pos := "law.go:23", after := #[{ on := 61, ground := Ground.data }, { on := 62, ground := Ground.data }, { on := 54, ground := Ground.guard }], guard := some (54, true) }) rfl (fun K hK => ?_) AllReadyH.nil)
 {
 go_simp
 have HV := fclean_any (some ⟨gZ2, 0, none⟩) 3 3 [o5, oA, oB] (by decide) v5 Z2.out
 rw [ev6] at HV
 refine HV.mono ?_
 rintro ev v6 ⟨A9, n9, c9, rfl, hl9, nb⟩
 clear Z2
 replace HX := Lib.hid (HX.out.keep nb)
 obtain rfl : 2 = n9 := hl9.len
 have HC := Lib.hid hl9
 clear hl9 HV
 clear nb
 refine hK.out _ _ ?_ (fun hHeld => ?_)
 · exact HX.out
 clear hK K
 (try simp only [Act.put, List.setIfInBounds_toArray, List.set_cons_zero, List.set_cons_succ])
 refine wpAnyH_ready (rs := [63]) (by kernel_rfl) (by simp) ?_
 refine AllReadyH.cons (o := { dst := some 114, op := Op.buildSlice 22 2 #[(0, Operand.tmp 112), (1, Operand.tmp 113)], type := 22, pos := "law.go:23", after := #[{ on := 61, ground := Ground.data }, { on := 62, ground := Ground.data }, { on := 54, ground := Ground.guard }], guard := some (54, true) }) rfl (fun K hK => ?_) AllReadyH.nil
 go_simp
 have nb := below_new v6 (.cells #[.int .i64 0, .int .i64 1, .int .i64 0, .int .i64 0, .int .i64 0, .int .i64 0, .int .i64 0, .int .i64 5, .int .i64 0, .int .i64 0, .int .i64 1, .int .i64 0, .int .i64 0, .int .i64 0, .int .i64 0, .int .i64 7] 60)
 have Z3 := Lib.hid (Lst.lit (E := ofE) [oA, oB] 2 (heap_new v6 (.cells #[.int .i64 0, .int .i64 1, .int .i64 0, .int .i64 0, .int .i64 0, .int .i64 0, .int .i64 0, .int .i64 5, .int .i64 0, .int .i64 0, .int .i64 1, .int .i64 0, .int .i64 0, .int .i64 0, .int .i64 0, .int .i64 7] 60)) rfl rfl (by decide) (ofE_fine (by decide)))
 replace HX := Lib.hid (HX.out.keep nb)
 replace HC := Lib.hid (HC.out.keep nb)
 clear nb
 obtain ⟨v7, hv7⟩ : ∃ v7, v7 = v6.alloc (.cells #[.int .i64 0, .int .i64 1, .int .i64 0, .int .i64 0, .int .i64 0, .int .i64 0, .int .i64 0, .int .i64 5, .int .i64 0, .int .i64 0, .int .i64 1, .int .i64 0, .int .i64 0, .int .i64 0, .int .i64 0, .int .i64 7] 60) := ⟨_, rfl⟩
 rw [← hv7] at HX Z3 HC ⊢
 clear hv7
 obtain ⟨gZ3, hgZ3⟩ : ∃ g, g = v6.heap.size := ⟨_, rfl⟩
 rw [← hgZ3] at Z3 ⊢
 clear hgZ3
 refine hK.out _ _ ?_ (fun hHeld => ?_)
 · exact HX.out
 clear hK K
 (try simp only [Act.put, List.setIfInBounds_toArray, List.set_cons_zero, List.set_cons_succ])
 refine wpAnyH_ready (rs := [64]) (by kernel_rfl) (by simp) ?_
 refine AllReadyH.cons (o := { dst := some 115, op := Op.call { callee := Callee.value (Operand.func 32), args := #[Operand.tmp 111, Operand.tmp 114], argTypes := #[22, 22] }, type := 4, pos := "law.go:23", after := #[{ on := 60, ground := Ground.data }, { on := 63, ground := Ground.data }, { on := 60, ground := Ground.chain }, { on := 54, ground := Ground.guard }], guard := some (54, true) }) rfl (fun K hK => ?_) AllReadyH.nil
 go_simp
 refine (rsame14_any A9 (some ⟨gZ3, 0, none⟩) 2 c9 2 2 [oA, oB] v7 HC.out Z3.out).mono ?_
 rintro ev v8 ⟨rfl, nb⟩
 clear HC Z3
 replace HX := Lib.hid (HX.out.keep nb)
 clear nb
 refine hK.out _ _ ?_ (fun hHeld => ?_)
 · exact HX.out
 clear hK K
 (try simp only [Act.put, List.setIfInBounds_toArray, List.set_cons_zero, List.set_cons_succ])
 refine wpAnyH_take (i := 65) (oi := { dst := some 116, op := Op.pick (Operand.tmp 105) (Operand.tmp 115) (Operand.const (Value.bool false)), type := 4, pos := "law.go:23", after := #[{ on := 54, ground := Ground.data }, { on := 64, ground := Ground.data }], guard := none }) (v := ?_) rfl (by kernel_rfl) (by kernel_rfl) (by kernel_rfl) (fun _ _ _ h => h) (Or.inl ⟨by rfl, ?_⟩) (by assumption) ?_
 rotate_left
 · intro w hSw; (try dsimp only at hSw); go_simp; try with_reducible rfl
 (try simp only [Act.put, List.setIfInBounds_toArray, List.set_cons_zero, List.set_cons_succ])
 refine wpAnyH_take (i := 66) (oi := { dst := some 0, op := Op.assign (Operand.tmp 116), type := 4, pos := "law.go:23", after := ([{ on := 65, ground := Ground.data }, { on := 64, ground := Ground.chain }, { on := 0, ground := Ground.phase }, { on := 1, ground := Ground.phase }, { on := 2, ground := Ground.phase }, { on := 3, ground := Ground.phase }, { on := 4, ground := Ground.phase }, { on := 5, ground := Ground.phase }, { on := 6, ground := Ground.phase }, { on := 7, ground := Ground.phase }, { on := 8, ground := Ground.phase }, { on := 9, ground := Ground.phase }, { on := 10, ground := Ground.phase }, { on := 11, ground := Ground.phase }, { on := 12, ground := Ground.phase }, { on := 13, ground := Ground.phase }, { on := 14, ground := Ground.phase }, { on := 15, ground := Ground.phase }, { on := 16, ground := Ground.phase }, { on := 17, ground := Ground.phase }, { on := 18, ground := Ground.phase }, { on := 19, ground := Ground.phase }, { on := 20, ground := Ground.phase }, { on := 21, ground := Ground.phase }, { on := 22, ground := Ground.phase }, { on := 23, ground := Ground.phase }, { on := 24, ground := Ground.phase }, { on := 25, ground := Ground.phase }, { on := 26, ground := Ground.phase }, { on := 27, ground := Ground.phase }, { on := 28, ground := Ground.phase }, { on := 29, ground := Ground.phase }, { on := 30, ground := Ground.phase }, { on := 31, ground := Ground.phase }].append [{ on := 32, ground := Ground.phase }, { on := 33, ground := Ground.phase }, { on := 34, ground := Ground.phase }, { on := 35, ground := Ground.phase }, { on := 36, ground := Ground.phase }, { on := 37, ground := Ground.phase }, { on := 38, ground := Ground.phase }, { on := 39, ground := Ground.phase }, { on := 40, ground := Ground.phase }, { on := 41, ground := Ground.phase }, { on := 42, ground := Ground.phase }, { on := 43, ground := Ground.phase }, { on := 44, ground := Ground.phase }, { on := 45, ground := Ground.phase }, { on := 46, ground := Ground.phase }, { on := 47, ground := Ground.phase }, { on := 48, ground := Ground.phase }, { on := 49, ground := Ground.phase }, { on := 50, ground := Ground.phase }, { on := 51, ground := Ground.phase }, { on := 52, ground := Ground.phase }, { on := 53, ground := Ground.phase }, { on := 54, ground := Ground.phase }, { on := 55, ground := Ground.phase }, { on := 56, ground := Ground.phase }, { on := 57, ground := Ground.phase }, { on := 58, ground := Ground.phase }, { on := 59, ground := Ground.phase }, { on := 60, ground := Ground.phase }, { on := 61, ground := Ground.phase }, { on := 62, ground := Ground.phase }, { on := 63, ground := Ground.phase }, { on := 64, ground := Ground.phase }, { on := 65, ground := Ground.phase }]).toArray, guard := none }) (v := ?_) rfl (by kernel_rfl) (by kernel_rfl) (by kernel_rfl) (fun _ _ _ h => h) (Or.inl ⟨by rfl, ?_⟩) (by assumption) ?_
 rotate_left
 · intro w hSw; (try dsimp only at hSw); go_simp; try with_reducible rfl
 (try simp only [Act.put, List.setIfInBounds_toArray, List.set_cons_zero])
 refine wpAnyH_done (by kernel_rfl) ?_ _
 clear hHeld
 go_wp2
 go_ret
 exact ⟨rfl, HX.out.s.below⟩
 }
 {
 go_simp
 have nb := below_new v5 (.cells #[.int .i64 0, .int .i64 1, .int .i64 0, .int .i64 0, .int .i64 0, .int .i64 0, .int .i64 0, .int .i64 5, .int .i64 0, .int .i64 0, .int .i64 1, .int .i64 0, .int .i64 0, .int .i64 0, .int .i64 0, .int .i64 7] 60)
 have Z3 := Lib.hid (Lst.lit (E := ofE) [oA, oB] 2 (heap_new v5 (.cells #[.int .i64 0, .int .i64 1, .int .i64 0, .int .i64 0, .int .i64 0, .int .i64 0, .int .i64 0, .int .i64 5, .int .i64 0, .int .i64 0, .int .i64 1, .int .i64 0, .int .i64 0, .int .i64 0, .int .i64 0, .int .i64 7] 60)) rfl rfl (by decide) (ofE_fine (by decide)))
 replace HX := Lib.hid (HX.out.keep nb)
 replace Z2 := Lib.hid (Z2.out.keep nb)
 clear nb
 obtain ⟨v9, hv9⟩ : ∃ v9, v9 = v5.alloc (.cells #[.int .i64 0, .int .i64 1, .int .i64 0, .int .i64 0, .int .i64 0, .int .i64 0, .int .i64 0, .int .i64 5, .int .i64 0, .int .i64 0, .int .i64 1, .int .i64 0, .int .i64 0, .int .i64 0, .int .i64 0, .int .i64 7] 60) := ⟨_, rfl⟩
 rw [← hv9] at HX Z2 Z3 ⊢
 clear hv9
 obtain ⟨gZ3, hgZ3⟩ : ∃ g, g = v5.heap.size := ⟨_, rfl⟩
 rw [← hgZ3] at Z3 ⊢
 clear hgZ3
 refine hK.out _ _ ?_ (fun hHeld => ?_)
 · exact HX.out
 clear hK K
 (try simp only [Act.put, List.setIfInBounds_toArray, List.set_cons_zero, List.set_cons_succ])
 refine wpAnyH_ready (rs := [60]) (by kernel_rfl) (by simp) ?_
 refine AllReadyH.cons (o := { dst := some 111, op := Op.call { callee := Callee.value (Operand.func 33), args := #[Operand.tmp 110], argTypes := #[22] }, type := 22, pos := "law.go:23", after := #[{ on := 59, ground := Ground.data }, { on := 54, ground := Ground.chain }, { on := 54, ground := Ground.guard }], guard := some (54, true) }) rfl (fun K hK => ?_) AllReadyH.nil
 go_simp
 have HV := fclean_any (some ⟨gZ2, 0, none⟩) 3 3 [o5, oA, oB] (by decide) v9 Z2.out
 rw [ev6] at HV
 refine HV.mono ?_
 rintro ev v10 ⟨A9, n9, c9, rfl, hl9, nb⟩
 clear Z2
 replace HX := Lib.hid (HX.out.keep nb)
 replace Z3 := Lib.hid (Z3.out.keep nb)
 obtain rfl : 2 = n9 := hl9.len
 have HC := Lib.hid hl9
 clear hl9 HV
 clear nb
 refine hK.out _ _ ?_ (fun hHeld => ?_)
 · exact HX.out
 clear hK K
 (try simp only [Act.put, List.setIfInBounds_toArray, List.set_cons_zero, List.set_cons_succ])
 refine wpAnyH_ready (rs := [64]) (by kernel_rfl) (by simp) ?_
 refine AllReadyH.cons (o := { dst := some 115, op := Op.call { callee := Callee.value (Operand.func 32), args := #[Operand.tmp 111, Operand.tmp 114], argTypes := #[22, 22] }, type := 4, pos := "law.go:23", after := #[{ on := 60, ground := Ground.data }, { on := 63, ground := Ground.data }, { on := 60, ground := Ground.chain }, { on := 54, ground := Ground.guard }], guard := some (54, true) }) rfl (fun K hK => ?_) AllReadyH.nil
 go_simp
 refine (rsame14_any A9 (some ⟨gZ3, 0, none⟩) 2 c9 2 2 [oA, oB] v10 HC.out Z3.out).mono ?_
 rintro ev v11 ⟨rfl, nb⟩
 clear HC Z3
 replace HX := Lib.hid (HX.out.keep nb)
 clear nb
 refine hK.out _ _ ?_ (fun hHeld => ?_)
 · exact HX.out
 clear hK K
 (try simp only [Act.put, List.setIfInBounds_toArray, List.set_cons_zero, List.set_cons_succ])
 refine wpAnyH_take (i := 65) (oi := { dst := some 116, op := Op.pick (Operand.tmp 105) (Operand.tmp 115) (Operand.const (Value.bool false)), type := 4, pos := "law.go:23", after := #[{ on := 54, ground := Ground.data }, { on := 64, ground := Ground.data }], guard := none }) (v := ?_) rfl (by kernel_rfl) (by kernel_rfl) (by kernel_rfl) (fun _ _ _ h => h) (Or.inl ⟨by rfl, ?_⟩) (by assumption) ?_
 rotate_left
 · intro w hSw; (try dsimp only at hSw); go_simp; try with_reducible rfl
 (try simp only [Act.put, List.setIfInBounds_toArray, List.set_cons_zero, List.set_cons_succ])
 refine wpAnyH_take (i := 66) (oi := { dst := some 0, op := Op.assign (Operand.tmp 116), type := 4, pos := "law.go:23", after := ([{ on := 65, ground := Ground.data }, { on := 64, ground := Ground.chain }, { on := 0, ground := Ground.phase }, { on := 1, ground := Ground.phase }, { on := 2, ground := Ground.phase }, { on := 3, ground := Ground.phase }, { on := 4, ground := Ground.phase }, { on := 5, ground := Ground.phase }, { on := 6, ground := Ground.phase }, { on := 7, ground := Ground.phase }, { on := 8, ground := Ground.phase }, { on := 9, ground := Ground.phase }, { on := 10, ground := Ground.phase }, { on := 11, ground := Ground.phase }, { on := 12, ground := Ground.phase }, { on := 13, ground := Ground.phase }, { on := 14, ground := Ground.phase }, { on := 15, ground := Ground.phase }, { on := 16, ground := Ground.phase }, { on := 17, ground := Ground.phase }, { on := 18, ground := Ground.phase }, { on := 19, ground := Ground.phase }, { on := 20, ground := Ground.phase }, { on := 21, ground := Ground.phase }, { on := 22, ground := Ground.phase }, { on := 23, ground := Ground.phase }, { on := 24, ground := Ground.phase }, { on := 25, ground := Ground.phase }, { on := 26, ground := Ground.phase }, { on := 27, ground := Ground.phase }, { on := 28, ground := Ground.phase }, { on := 29, ground := Ground.phase }, { on := 30, ground := Ground.phase }, { on := 31, ground := Ground.phase }].append [{ on := 32, ground := Ground.phase }, { on := 33, ground := Ground.phase }, { on := 34, ground := Ground.phase }, { on := 35, ground := Ground.phase }, { on := 36, ground := Ground.phase }, { on := 37, ground := Ground.phase }, { on := 38, ground := Ground.phase }, { on := 39, ground := Ground.phase }, { on := 40, ground := Ground.phase }, { on := 41, ground := Ground.phase }, { on := 42, ground := Ground.phase }, { on := 43, ground := Ground.phase }, { on := 44, ground := Ground.phase }, { on := 45, ground := Ground.phase }, { on := 46, ground := Ground.phase }, { on := 47, ground := Ground.phase }, { on := 48, ground := Ground.phase }, { on := 49, ground := Ground.phase }, { on := 50, ground := Ground.phase }, { on := 51, ground := Ground.phase }, { on := 52, ground := Ground.phase }, { on := 53, ground := Ground.phase }, { on := 54, ground := Ground.phase }, { on := 55, ground := Ground.phase }, { on := 56, ground := Ground.phase }, { on := 57, ground := Ground.phase }, { on := 58, ground := Ground.phase }, { on := 59, ground := Ground.phase }, { on := 60, ground := Ground.phase }, { on := 61, ground := Ground.phase }, { on := 62, ground := Ground.phase }, { on := 63, ground := Ground.phase }, { on := 64, ground := Ground.phase }, { on := 65, ground := Ground.phase }]).toArray, guard := none }) (v := ?_) rfl (by kernel_rfl) (by kernel_rfl) (by kernel_rfl) (fun _ _ _ h => h) (Or.inl ⟨by rfl, ?_⟩) (by assumption) ?_
 rotate_left
 · intro w hSw; (try dsimp only at hSw); go_simp; try with_reducible rfl
 (try simp only [Act.put, List.setIfInBounds_toArray, List.set_cons_zero])
 refine wpAnyH_done (by kernel_rfl) ?_ _
 clear hHeld
 go_wp2
 go_ret
 exact ⟨rfl, HX.out.s.below⟩
 }
 }
  {
 go_simp
 have nb := below_new v4 (.cells #[.int .i64 0, .int .i64 1, .int .i64 0, .int .i64 0, .int .i64 0, .int .i64 0, .int .i64 0, .int .i64 5, .int .i64 0, .int .i64 0, .int .i64 1, .int .i64 0, .int .i64 0, .int .i64 0, .int .i64 0, .int .i64 7] 60)
 have Z3 := Lib.hid (Lst.lit (E := ofE) [oA, oB] 2 (heap_new v4 (.cells #[.int .i64 0, .int .i64 1, .int .i64 0, .int .i64 0, .int .i64 0, .int .i64 0, .int .i64 0, .int .i64 5, .int .i64 0, .int .i64 0, .int .i64 1, .int .i64 0, .int .i64 0, .int .i64 0, .int .i64 0, .int .i64 7] 60)) rfl rfl (by decide) (ofE_fine (by decide)))
 replace HX := Lib.hid (HX.out.keep nb)
 clear nb
 obtain ⟨v12, hv12⟩ : ∃ v12, v12 = v4.alloc (.cells #[.int .i64 0, .int .i64 1, .int .i64 0, .int .i64 0, .int .i64 0, .int .i64 0, .int .i64 0, .int .i64 5, .int .i64 0, .int .i64 0, .int .i64 1, .int .i64 0, .int .i64 0, .int .i64 0, .int .i64 0, .int .i64 7] 60) := ⟨_, rfl⟩
 rw [← hv12] at HX Z3 ⊢
 clear hv12
 obtain ⟨gZ3, hgZ3⟩ : ∃ g, g = v4.heap.size := ⟨_, rfl⟩
 rw [← hgZ3] at Z3 ⊢
 clear hgZ3
 refine hK.out _ _ ?_ (fun hHeld => ?_)
 · exact HX.out
 clear hK K
 (try simp only [Act.put, List.setIfInBounds_toArray, List.set_cons_zero])
 refine wpAnyH_ready (rs := [59]) (by kernel_rfl) (by simp) ?_
 refine AllReadyH.cons (o := { dst := some 110, op := Op.buildSlice 22 3 #[(0, Operand.tmp 107), (1, Operand.tmp 108), (2, Operand.tmp 109)], type := 22, pos := "law.go:23", after := #[{ on := 56, ground := Ground.data }, { on := 57, ground := Ground.data }, { on := 58, ground := Ground.data }, { on := 54, ground := Ground.guard }], guard := some (54, true) }) rfl (fun K hK => ?_) AllReadyH.nil
 go_simp
 have nb := below_new v12 (.cells #[.int .i64 0, .int .i64 1, .int .i64 1, .int .i64 0, .int .i64 0, .int .i64 0, .int .i64 0, .int .i64 5, .int .i64 0, .int .i64 1, .int .i64 0, .int .i64 0, .int .i64 0, .int .i64 0, .int .i64 0, .int .i64 5, .int .i64 0, .int .i64 0, .int .i64 1, .int .i64 0, .int .i64 0, .int .i64 0, .int .i64 0, .int .i64 7] 60)
 have Z2 := Lib.hid (Lst.lit (E := ofE) [o5, oA, oB] 3 (heap_new v12 (.cells #[.int .i64 0, .int .i64 1, .int .i64 1, .int .i64 0, .int .i64 0, .int .i64 0, .int .i64 0, .int .i64 5, .int .i64 0, .int .i64 1, .int .i64 0, .int .i64 0, .int .i64 0, .int .i64 0, .int .i64 0, .int .i64 5, .int .i64 0, .int .i64 0, .int .i64 1, .int .i64 0, .int .i64 0, .int .i64 0, .int .i64 0, .int .i64 7] 60)) rfl rfl (by decide) (ofE_fine (by decide)))
 replace HX := Lib.hid (HX.out.keep nb)
 replace Z3 := Lib.hid (Z3.out.keep nb)
 clear nb
 obtain ⟨v13, hv13⟩ : ∃ v13, v13 = v12.alloc (.cells #[.int .i64 0, .int .i64 1, .int .i64 1, .int .i64 0, .int .i64 0, .int .i64 0, .int .i64 0, .int .i64 5, .int .i64 0, .int .i64 1, .int .i64 0, .int .i64 0, .int .i64 0, .int .i64 0, .int .i64 0, .int .i64 5, .int .i64 0, .int .i64 0, .int .i64 1, .int .i64 0, .int .i64 0, .int .i64 0, .int .i64 0, .int .i64 7] 60) := ⟨_, rfl⟩
 rw [← hv13] at HX Z2 Z3 ⊢
 clear hv13
 obtain ⟨gZ2, hgZ2⟩ : ∃ g, g = v12.heap.size := ⟨_, rfl⟩
 rw [← hgZ2] at Z2 ⊢
 clear hgZ2
 refine hK.out _ _ ?_ (fun hHeld => ?_)
 · exact HX.out
 clear hK K
 (try simp only [Act.put, List.setIfInBounds_toArray, List.set_cons_zero, List.set_cons_succ])
 refine wpAnyH_ready (rs := [60]) (by kernel_rfl) (by simp) ?_
 refine AllReadyH.cons (o := { dst := some 111, op := Op.call { callee := Callee.value (Operand.func 33), args := #[Operand.tmp 110], argTypes := #[22] }, type := 22, pos := "law.go:23", after := #[{ on := 59, ground := Ground.data }, { on := 54, ground := Ground.chain }, { on := 54, ground := Ground.guard }], guard := some (54, true) }) rfl (fun K hK => ?_) AllReadyH.nil
 go_simp
 have HV := fclean_any (some ⟨gZ2, 0, none⟩) 3 3 [o5, oA, oB] (by decide) v13 Z2.out
 rw [ev6] at HV
 refine HV.mono ?_
 rintro ev v14 ⟨A9, n9, c9, rfl, hl9, nb⟩
 clear Z2
 replace HX := Lib.hid (HX.out.keep nb)
 replace Z3 := Lib.hid (Z3.out.keep nb)
 obtain rfl : 2 = n9 := hl9.len
 have HC := Lib.hid hl9
 clear hl9 HV
 clear nb
 refine hK.out _ _ ?_ (fun hHeld => ?_)
 · exact HX.out
 clear hK K
 (try simp only [Act.put, List.setIfInBounds_toArray, List.set_cons_zero, List.set_cons_succ])
 refine wpAnyH_ready (rs := [64]) (by kernel_rfl) (by simp) ?_
 refine AllReadyH.cons (o := { dst := some 115, op := Op.call { callee := Callee.value (Operand.func 32), args := #[Operand.tmp 111, Operand.tmp 114], argTypes := #[22, 22] }, type := 4, pos := "law.go:23", after := #[{ on := 60, ground := Ground.data }, { on := 63, ground := Ground.data }, { on := 60, ground := Ground.chain }, { on := 54, ground := Ground.guard }], guard := some (54, true) }) rfl (fun K hK => ?_) AllReadyH.nil
 go_simp
 refine (rsame14_any A9 (some ⟨gZ3, 0, none⟩) 2 c9 2 2 [oA, oB] v14 HC.out Z3.out).mono ?_
 rintro ev v15 ⟨rfl, nb⟩
 clear HC Z3
 replace HX := Lib.hid (HX.out.keep nb)
 clear nb
 refine hK.out _ _ ?_ (fun hHeld => ?_)
 · exact HX.out
 clear hK K
 (try simp only [Act.put, List.setIfInBounds_toArray, List.set_cons_zero, List.set_cons_succ])
 refine wpAnyH_take (i := 65) (oi := { dst := some 116, op := Op.pick (Operand.tmp 105) (Operand.tmp 115) (Operand.const (Value.bool false)), type := 4, pos := "law.go:23", after := #[{ on := 54, ground := Ground.data }, { on := 64, ground := Ground.data }], guard := none }) (v := ?_) rfl (by kernel_rfl) (by kernel_rfl) (by kernel_rfl) (fun _ _ _ h => h) (Or.inl ⟨by rfl, ?_⟩) (by assumption) ?_
 rotate_left
 · intro w hSw; (try dsimp only at hSw); go_simp; try with_reducible rfl
 (try simp only [Act.put, List.setIfInBounds_toArray, List.set_cons_zero, List.set_cons_succ])
 refine wpAnyH_take (i := 66) (oi := { dst := some 0, op := Op.assign (Operand.tmp 116), type := 4, pos := "law.go:23", after := ([{ on := 65, ground := Ground.data }, { on := 64, ground := Ground.chain }, { on := 0, ground := Ground.phase }, { on := 1, ground := Ground.phase }, { on := 2, ground := Ground.phase }, { on := 3, ground := Ground.phase }, { on := 4, ground := Ground.phase }, { on := 5, ground := Ground.phase }, { on := 6, ground := Ground.phase }, { on := 7, ground := Ground.phase }, { on := 8, ground := Ground.phase }, { on := 9, ground := Ground.phase }, { on := 10, ground := Ground.phase }, { on := 11, ground := Ground.phase }, { on := 12, ground := Ground.phase }, { on := 13, ground := Ground.phase }, { on := 14, ground := Ground.phase }, { on := 15, ground := Ground.phase }, { on := 16, ground := Ground.phase }, { on := 17, ground := Ground.phase }, { on := 18, ground := Ground.phase }, { on := 19, ground := Ground.phase }, { on := 20, ground := Ground.phase }, { on := 21, ground := Ground.phase }, { on := 22, ground := Ground.phase }, { on := 23, ground := Ground.phase }, { on := 24, ground := Ground.phase }, { on := 25, ground := Ground.phase }, { on := 26, ground := Ground.phase }, { on := 27, ground := Ground.phase }, { on := 28, ground := Ground.phase }, { on := 29, ground := Ground.phase }, { on := 30, ground := Ground.phase }, { on := 31, ground := Ground.phase }].append [{ on := 32, ground := Ground.phase }, { on := 33, ground := Ground.phase }, { on := 34, ground := Ground.phase }, { on := 35, ground := Ground.phase }, { on := 36, ground := Ground.phase }, { on := 37, ground := Ground.phase }, { on := 38, ground := Ground.phase }, { on := 39, ground := Ground.phase }, { on := 40, ground := Ground.phase }, { on := 41, ground := Ground.phase }, { on := 42, ground := Ground.phase }, { on := 43, ground := Ground.phase }, { on := 44, ground := Ground.phase }, { on := 45, ground := Ground.phase }, { on := 46, ground := Ground.phase }, { on := 47, ground := Ground.phase }, { on := 48, ground := Ground.phase }, { on := 49, ground := Ground.phase }, { on := 50, ground := Ground.phase }, { on := 51, ground := Ground.phase }, { on := 52, ground := Ground.phase }, { on := 53, ground := Ground.phase }, { on := 54, ground := Ground.phase }, { on := 55, ground := Ground.phase }, { on := 56, ground := Ground.phase }, { on := 57, ground := Ground.phase }, { on := 58, ground := Ground.phase }, { on := 59, ground := Ground.phase }, { on := 60, ground := Ground.phase }, { on := 61, ground := Ground.phase }, { on := 62, ground := Ground.phase }, { on := 63, ground := Ground.phase }, { on := 64, ground := Ground.phase }, { on := 65, ground := Ground.phase }]).toArray, guard := none }) (v := ?_) rfl (by kernel_rfl) (by kernel_rfl) (by kernel_rfl) (fun _ _ _ h => h) (Or.inl ⟨by rfl, ?_⟩) (by assumption) ?_
 rotate_left
 · intro w hSw; (try dsimp only at hSw); go_simp; try with_reducible rfl
 (try simp only [Act.put, List.setIfInBounds_toArray, List.set_cons_zero])
 refine wpAnyH_done (by kernel_rfl) ?_ _
 clear hHeld
 go_wp2
 go_ret
 exact ⟨rfl, HX.out.s.below⟩
 }
end Go.Proofs.Ytjjpfpgjpmedmaa
