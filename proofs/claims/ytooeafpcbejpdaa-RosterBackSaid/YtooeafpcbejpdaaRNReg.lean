/- The drawn region of Names, in a round: no claim of its own. -/
import Derived.Test.YtooeafpcbejpdaaRRange
import Derived.Test.YtooeafpcbejpdaaGRound
namespace Go.Proofs.Ytooeafpcbejpdaa
open Go.RowKit
attribute [local go_sem] Oper.semAt_some
def namesO0 : Oper := { dst := some 14, op := Op.load 37 (Operand.tmp 5), type := 37, pos := "sets.go:17", after := #[], guard := none }
def namesO1 : Oper := { dst := some 15, op := Op.load 29 (Operand.tmp 2), type := 29, pos := "sets.go:17", after := #[], guard := none }
def namesO2 : Oper := { dst := some 16, op := Op.move (Operand.tmp 6), type := 3, pos := "sets.go:17", after := #[], guard := none }
def namesO3 : Oper := { dst := some 17, op := Op.indexAddr 29 (Operand.tmp 15) (Operand.tmp 16), type := 0, pos := "sets.go:17", after := #[{ on := 1, ground := Ground.data }, { on := 2, ground := Ground.data }], guard := none }
def namesO4 : Oper := { dst := some 18, op := Op.fieldAddr 50 (Operand.tmp 17) 0, type := 0, pos := "sets.go:17", after := #[{ on := 3, ground := Ground.data }], guard := none }
def namesO5 : Oper := { dst := some 19, op := Op.load 9 (Operand.tmp 18), type := 9, pos := "sets.go:17", after := #[{ on := 4, ground := Ground.data }], guard := none }
def namesO6 : Oper := { dst := some 20, op := Op.buildSlice 37 1 #[(0, Operand.tmp 19)], type := 37, pos := "sets.go:17", after := #[{ on := 5, ground := Ground.data }], guard := none }
def namesO7 : Oper := { dst := some 21, op := Op.call { callee := Callee.builtin Builtin.append, args := #[Operand.tmp 14, Operand.tmp 20], argTypes := #[37, 37] }, type := 37, pos := "sets.go:17", after := #[{ on := 0, ground := Ground.data }, { on := 6, ground := Ground.data }], guard := none }
def namesO8 : Oper := { dst := none, op := Op.store 37 (Operand.tmp 5) (Operand.tmp 21), type := 0, pos := "sets.go:17", after := #[{ on := 7, ground := Ground.data }, { on := 7, ground := Ground.chain }, { on := 0, ground := Ground.phase }, { on := 1, ground := Ground.phase }, { on := 2, ground := Ground.phase }, { on := 3, ground := Ground.phase }, { on := 4, ground := Ground.phase }, { on := 5, ground := Ground.phase }, { on := 6, ground := Ground.phase }, { on := 7, ground := Ground.phase }], guard := none }
def namesOps : Array Oper := #[namesO0, namesO1, namesO2, namesO3, namesO4, namesO5, namesO6, namesO7, namesO8]
set_option maxRecDepth 100000 in
set_option maxHeartbeats 4000000 in
theorem names_region {l : Nat} {Q : Exit → Act → World → Prop} {X0 X : World} {ad : Addr} {n c j b2 b5 : Nat} {s : ByteArray} {v5 : Value} (x0 x1 x3 x4 x7 x8 x9 x10 x11 x12 x13 u14 u15 u16 u17 u18 u19 u20 u21 u22 : Value)
    (hX : X0.drew = X) (h5 : X.cell? ⟨b5, 0, none⟩ = some v5) (h2 : X.cell? ⟨b2, 0, none⟩ = some (.slice (some ad) n c)) (hs : X.cell? (ad.add (j * 4)) = some (.string s)) (hj : j < n)
    (h5a : (X.alloc (.cells #[.string s] 9)).cell? ⟨b5, 0, none⟩ = some v5) 
    (hk : wpListIn (Fence.wide.inRound l) 5 Try.prog namesOps Q [namesO7, namesO8] { tmps := #[x0, x1, .pointer (some ⟨b2, 0, none⟩), x3, x4, .pointer (some ⟨b5, 0, none⟩), .int .i64 (j : Int), x7, x8, x9, x10, x11, x12, x13, (v5), (.slice (some ad) n c), (.int .i64 (j : Int)), (.pointer (some (ad.add (j * 4)))), (.pointer (some (ad.add (j * 4)))), (.string s), (.slice (some ⟨X.heap.size, 0, none⟩) 1 1), u21, u22], defers := [] } (X.alloc (.cells #[.string s] 9))) :
    (Code.region 5 namesOps true).wpIn (Fence.wide.inRound l) 5 Try.prog Q { tmps := #[x0, x1, .pointer (some ⟨b2, 0, none⟩), x3, x4, .pointer (some ⟨b5, 0, none⟩), .int .i64 (j : Int), x7, x8, x9, x10, x11, x12, x13, u14, u15, u16, u17, u18, u19, u20, u21, u22], defers := [] } X0 := by
  have s0123456 : wpAnyIn (Fence.wide.inRound l) 5 Try.prog .any namesOps Q 2 #[true, true, true, true, true, true, true, false, false] { tmps := #[x0, x1, .pointer (some ⟨b2, 0, none⟩), x3, x4, .pointer (some ⟨b5, 0, none⟩), .int .i64 (j : Int), x7, x8, x9, x10, x11, x12, x13, (v5), (.slice (some ad) n c), (.int .i64 (j : Int)), (.pointer (some (ad.add (j * 4)))), (.pointer (some (ad.add (j * 4)))), (.string s), (.slice (some ⟨X.heap.size, 0, none⟩) 1 1), u21, u22], defers := [] } (X.alloc (.cells #[.string s] 9)) := by
    exact seqIn [namesO7, namesO8] 7 _ _ _ _ (fun j => match j with | 0 => rfl | 1 => rfl | k + 2 => by rw [List.getElem?_eq_none (by simp), Array.getElem?_eq_none (by simp [namesOps]; omega)]) (by kernel_rfl) (by decide) hk
  have s012345 : wpAnyIn (Fence.wide.inRound l) 5 Try.prog .any namesOps Q 3 #[true, true, true, true, true, true, false, false, false] { tmps := #[x0, x1, .pointer (some ⟨b2, 0, none⟩), x3, x4, .pointer (some ⟨b5, 0, none⟩), .int .i64 (j : Int), x7, x8, x9, x10, x11, x12, x13, (v5), (.slice (some ad) n c), (.int .i64 (j : Int)), (.pointer (some (ad.add (j * 4)))), (.pointer (some (ad.add (j * 4)))), (.string s), u20, u21, u22], defers := [] } X := by
    refine wpAnyIn_all (rs := [6]) (by kernel_rfl) (by simp) ?_
    refine step_val (o := namesO6) (v := .slice (some ⟨X.heap.size, 0, none⟩) 1 1) (w' := (X.alloc (.cells #[.string s] 9))) rfl (by rfl) (by simp [namesO6, go_sem]) s0123456 ?_
    exact AllReadyIn.nil
  have s123456 : wpAnyIn (Fence.wide.inRound l) 5 Try.prog .any namesOps Q 3 #[false, true, true, true, true, true, true, false, false] { tmps := #[x0, x1, .pointer (some ⟨b2, 0, none⟩), x3, x4, .pointer (some ⟨b5, 0, none⟩), .int .i64 (j : Int), x7, x8, x9, x10, x11, x12, x13, u14, (.slice (some ad) n c), (.int .i64 (j : Int)), (.pointer (some (ad.add (j * 4)))), (.pointer (some (ad.add (j * 4)))), (.string s), (.slice (some ⟨X.heap.size, 0, none⟩) 1 1), u21, u22], defers := [] } (X.alloc (.cells #[.string s] 9)) := by
    refine wpAnyIn_all (rs := [0]) (by kernel_rfl) (by simp) ?_
    refine step_val (o := namesO0) (v := v5) (w' := (X.alloc (.cells #[.string s] 9))) rfl (by rfl) (by simp [namesO0, go_sem, h5a]) s0123456 ?_
    exact AllReadyIn.nil
  have s01234 : wpAnyIn (Fence.wide.inRound l) 5 Try.prog .any namesOps Q 4 #[true, true, true, true, true, false, false, false, false] { tmps := #[x0, x1, .pointer (some ⟨b2, 0, none⟩), x3, x4, .pointer (some ⟨b5, 0, none⟩), .int .i64 (j : Int), x7, x8, x9, x10, x11, x12, x13, (v5), (.slice (some ad) n c), (.int .i64 (j : Int)), (.pointer (some (ad.add (j * 4)))), (.pointer (some (ad.add (j * 4)))), u19, u20, u21, u22], defers := [] } X := by
    refine wpAnyIn_all (rs := [5]) (by kernel_rfl) (by simp) ?_
    refine step_val (o := namesO5) (v := .string s) (w' := X) rfl (by rfl) (by simp [namesO5, go_sem, hs]) s012345 ?_
    exact AllReadyIn.nil
  have s12345 : wpAnyIn (Fence.wide.inRound l) 5 Try.prog .any namesOps Q 4 #[false, true, true, true, true, true, false, false, false] { tmps := #[x0, x1, .pointer (some ⟨b2, 0, none⟩), x3, x4, .pointer (some ⟨b5, 0, none⟩), .int .i64 (j : Int), x7, x8, x9, x10, x11, x12, x13, u14, (.slice (some ad) n c), (.int .i64 (j : Int)), (.pointer (some (ad.add (j * 4)))), (.pointer (some (ad.add (j * 4)))), (.string s), u20, u21, u22], defers := [] } X := by
    refine wpAnyIn_all (rs := [0, 6]) (by kernel_rfl) (by simp) ?_
    refine step_val (o := namesO0) (v := v5) (w' := X) rfl (by rfl) (by simp [namesO0, go_sem, h5]) s012345 ?_
    refine step_val (o := namesO6) (v := .slice (some ⟨X.heap.size, 0, none⟩) 1 1) (w' := (X.alloc (.cells #[.string s] 9))) rfl (by rfl) (by simp [namesO6, go_sem]) s123456 ?_
    exact AllReadyIn.nil
  have s0123 : wpAnyIn (Fence.wide.inRound l) 5 Try.prog .any namesOps Q 5 #[true, true, true, true, false, false, false, false, false] { tmps := #[x0, x1, .pointer (some ⟨b2, 0, none⟩), x3, x4, .pointer (some ⟨b5, 0, none⟩), .int .i64 (j : Int), x7, x8, x9, x10, x11, x12, x13, (v5), (.slice (some ad) n c), (.int .i64 (j : Int)), (.pointer (some (ad.add (j * 4)))), u18, u19, u20, u21, u22], defers := [] } X := by
    refine wpAnyIn_all (rs := [4]) (by kernel_rfl) (by simp) ?_
    refine step_val (o := namesO4) (v := .pointer (some (ad.add (j * 4)))) (w' := X) rfl (by rfl) (by simp [namesO4, go_sem]) s01234 ?_
    exact AllReadyIn.nil
  have s1234 : wpAnyIn (Fence.wide.inRound l) 5 Try.prog .any namesOps Q 5 #[false, true, true, true, true, false, false, false, false] { tmps := #[x0, x1, .pointer (some ⟨b2, 0, none⟩), x3, x4, .pointer (some ⟨b5, 0, none⟩), .int .i64 (j : Int), x7, x8, x9, x10, x11, x12, x13, u14, (.slice (some ad) n c), (.int .i64 (j : Int)), (.pointer (some (ad.add (j * 4)))), (.pointer (some (ad.add (j * 4)))), u19, u20, u21, u22], defers := [] } X := by
    refine wpAnyIn_all (rs := [0, 5]) (by kernel_rfl) (by simp) ?_
    refine step_val (o := namesO0) (v := v5) (w' := X) rfl (by rfl) (by simp [namesO0, go_sem, h5]) s01234 ?_
    refine step_val (o := namesO5) (v := .string s) (w' := X) rfl (by rfl) (by simp [namesO5, go_sem, hs]) s12345 ?_
    exact AllReadyIn.nil
  have s012 : wpAnyIn (Fence.wide.inRound l) 5 Try.prog .any namesOps Q 6 #[true, true, true, false, false, false, false, false, false] { tmps := #[x0, x1, .pointer (some ⟨b2, 0, none⟩), x3, x4, .pointer (some ⟨b5, 0, none⟩), .int .i64 (j : Int), x7, x8, x9, x10, x11, x12, x13, (v5), (.slice (some ad) n c), (.int .i64 (j : Int)), u17, u18, u19, u20, u21, u22], defers := [] } X := by
    refine wpAnyIn_all (rs := [3]) (by kernel_rfl) (by simp) ?_
    refine step_val (o := namesO3) (v := .pointer (some (ad.add (j * 4)))) (w' := X) rfl (by rfl) (by simp [namesO3, go_sem, hj]) s0123 ?_
    exact AllReadyIn.nil
  have s123 : wpAnyIn (Fence.wide.inRound l) 5 Try.prog .any namesOps Q 6 #[false, true, true, true, false, false, false, false, false] { tmps := #[x0, x1, .pointer (some ⟨b2, 0, none⟩), x3, x4, .pointer (some ⟨b5, 0, none⟩), .int .i64 (j : Int), x7, x8, x9, x10, x11, x12, x13, u14, (.slice (some ad) n c), (.int .i64 (j : Int)), (.pointer (some (ad.add (j * 4)))), u18, u19, u20, u21, u22], defers := [] } X := by
    refine wpAnyIn_all (rs := [0, 4]) (by kernel_rfl) (by simp) ?_
    refine step_val (o := namesO0) (v := v5) (w' := X) rfl (by rfl) (by simp [namesO0, go_sem, h5]) s0123 ?_
    refine step_val (o := namesO4) (v := .pointer (some (ad.add (j * 4)))) (w' := X) rfl (by rfl) (by simp [namesO4, go_sem]) s1234 ?_
    exact AllReadyIn.nil
  have s01 : wpAnyIn (Fence.wide.inRound l) 5 Try.prog .any namesOps Q 7 #[true, true, false, false, false, false, false, false, false] { tmps := #[x0, x1, .pointer (some ⟨b2, 0, none⟩), x3, x4, .pointer (some ⟨b5, 0, none⟩), .int .i64 (j : Int), x7, x8, x9, x10, x11, x12, x13, (v5), (.slice (some ad) n c), u16, u17, u18, u19, u20, u21, u22], defers := [] } X := by
    refine wpAnyIn_all (rs := [2]) (by kernel_rfl) (by simp) ?_
    refine step_val (o := namesO2) (v := .int .i64 (j : Int)) (w' := X) rfl (by rfl) (by simp [namesO2, go_sem]) s012 ?_
    exact AllReadyIn.nil
  have s02 : wpAnyIn (Fence.wide.inRound l) 5 Try.prog .any namesOps Q 7 #[true, false, true, false, false, false, false, false, false] { tmps := #[x0, x1, .pointer (some ⟨b2, 0, none⟩), x3, x4, .pointer (some ⟨b5, 0, none⟩), .int .i64 (j : Int), x7, x8, x9, x10, x11, x12, x13, (v5), u15, (.int .i64 (j : Int)), u17, u18, u19, u20, u21, u22], defers := [] } X := by
    refine wpAnyIn_all (rs := [1]) (by kernel_rfl) (by simp) ?_
    refine step_val (o := namesO1) (v := .slice (some ad) n c) (w' := X) rfl (by rfl) (by simp [namesO1, go_sem, h2]) s012 ?_
    exact AllReadyIn.nil
  have s12 : wpAnyIn (Fence.wide.inRound l) 5 Try.prog .any namesOps Q 7 #[false, true, true, false, false, false, false, false, false] { tmps := #[x0, x1, .pointer (some ⟨b2, 0, none⟩), x3, x4, .pointer (some ⟨b5, 0, none⟩), .int .i64 (j : Int), x7, x8, x9, x10, x11, x12, x13, u14, (.slice (some ad) n c), (.int .i64 (j : Int)), u17, u18, u19, u20, u21, u22], defers := [] } X := by
    refine wpAnyIn_all (rs := [0, 3]) (by kernel_rfl) (by simp) ?_
    refine step_val (o := namesO0) (v := v5) (w' := X) rfl (by rfl) (by simp [namesO0, go_sem, h5]) s012 ?_
    refine step_val (o := namesO3) (v := .pointer (some (ad.add (j * 4)))) (w' := X) rfl (by rfl) (by simp [namesO3, go_sem, hj]) s123 ?_
    exact AllReadyIn.nil
  have s0 : wpAnyIn (Fence.wide.inRound l) 5 Try.prog .any namesOps Q 8 #[true, false, false, false, false, false, false, false, false] { tmps := #[x0, x1, .pointer (some ⟨b2, 0, none⟩), x3, x4, .pointer (some ⟨b5, 0, none⟩), .int .i64 (j : Int), x7, x8, x9, x10, x11, x12, x13, (v5), u15, u16, u17, u18, u19, u20, u21, u22], defers := [] } X := by
    refine wpAnyIn_all (rs := [1, 2]) (by kernel_rfl) (by simp) ?_
    refine step_val (o := namesO1) (v := .slice (some ad) n c) (w' := X) rfl (by rfl) (by simp [namesO1, go_sem, h2]) s01 ?_
    refine step_val (o := namesO2) (v := .int .i64 (j : Int)) (w' := X) rfl (by rfl) (by simp [namesO2, go_sem]) s02 ?_
    exact AllReadyIn.nil
  have s1 : wpAnyIn (Fence.wide.inRound l) 5 Try.prog .any namesOps Q 8 #[false, true, false, false, false, false, false, false, false] { tmps := #[x0, x1, .pointer (some ⟨b2, 0, none⟩), x3, x4, .pointer (some ⟨b5, 0, none⟩), .int .i64 (j : Int), x7, x8, x9, x10, x11, x12, x13, u14, (.slice (some ad) n c), u16, u17, u18, u19, u20, u21, u22], defers := [] } X := by
    refine wpAnyIn_all (rs := [0, 2]) (by kernel_rfl) (by simp) ?_
    refine step_val (o := namesO0) (v := v5) (w' := X) rfl (by rfl) (by simp [namesO0, go_sem, h5]) s01 ?_
    refine step_val (o := namesO2) (v := .int .i64 (j : Int)) (w' := X) rfl (by rfl) (by simp [namesO2, go_sem]) s12 ?_
    exact AllReadyIn.nil
  have s2 : wpAnyIn (Fence.wide.inRound l) 5 Try.prog .any namesOps Q 8 #[false, false, true, false, false, false, false, false, false] { tmps := #[x0, x1, .pointer (some ⟨b2, 0, none⟩), x3, x4, .pointer (some ⟨b5, 0, none⟩), .int .i64 (j : Int), x7, x8, x9, x10, x11, x12, x13, u14, u15, (.int .i64 (j : Int)), u17, u18, u19, u20, u21, u22], defers := [] } X := by
    refine wpAnyIn_all (rs := [0, 1]) (by kernel_rfl) (by simp) ?_
    refine step_val (o := namesO0) (v := v5) (w' := X) rfl (by rfl) (by simp [namesO0, go_sem, h5]) s02 ?_
    refine step_val (o := namesO1) (v := .slice (some ad) n c) (w' := X) rfl (by rfl) (by simp [namesO1, go_sem, h2]) s12 ?_
    exact AllReadyIn.nil
  have s : wpAnyIn (Fence.wide.inRound l) 5 Try.prog .any namesOps Q 9 #[false, false, false, false, false, false, false, false, false] { tmps := #[x0, x1, .pointer (some ⟨b2, 0, none⟩), x3, x4, .pointer (some ⟨b5, 0, none⟩), .int .i64 (j : Int), x7, x8, x9, x10, x11, x12, x13, u14, u15, u16, u17, u18, u19, u20, u21, u22], defers := [] } X := by
    refine wpAnyIn_all (rs := [0, 1, 2]) (by kernel_rfl) (by simp) ?_
    refine step_val (o := namesO0) (v := v5) (w' := X) rfl (by rfl) (by simp [namesO0, go_sem, h5]) s0 ?_
    refine step_val (o := namesO1) (v := .slice (some ad) n c) (w' := X) rfl (by rfl) (by simp [namesO1, go_sem, h2]) s1 ?_
    refine step_val (o := namesO2) (v := .int .i64 (j : Int)) (w' := X) rfl (by rfl) (by simp [namesO2, go_sem]) s2 ?_
    exact AllReadyIn.nil
  refine wpIn_region_any (by kernel_rfl) ?_
  show wpAnyIn (Fence.wide.inRound l) 5 Try.prog .any namesOps Q 9 _ _ X0.drew
  rw [hX]
  exact s
end Go.Proofs.Ytooeafpcbejpdaa
