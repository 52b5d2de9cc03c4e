/- Expressions written out in memory; the chapter's examples. No claim of its own. -/
import Derived.Test.YtgknggighpjcdaaVAtomF
import Derived.Test.YtgknggighpjcdaaVMono
import Derived.Test.YtgknggighpjcdaaJK
import Derived.Test.YtgknggighpjcdaaJJ
namespace Go.Proofs.Ytgknggighpjcdaa
open Go.RowKit
theorem kids_lit {w : World} {g n : Nat} {cs : Array Value} {T : TypeId} (L : List NT) (hn : L.length = n) (h : w.heap[g]? = some (.cells cs T (0, 0))) (hc : cs.toList = ntE.all L) (hf : n ≤ 100) (hok : ∀ y ∈ L, y.Ok w (fun _ => True)) : Kids w (fun _ => True) (some ⟨g, 0, none⟩) n (FT.of L) := by
  have hl : (FT.of L).len = n := by rw [FT.of_len, hn]
  refine ⟨by rw [hl]; exact Nat.le_refl _, by rw [hl]; omega, .inr ⟨_, rfl, lay_of L _ fun i x hx => ⟨trivial, ?_, hok x (List.mem_of_getElem? hx), fun j u hu => ?_⟩⟩⟩
  · rw [block_of_add]; exact (Array.getElem?_eq_some_iff.1 h).1
  · have hfine : ntE.Fine L := fun y hy => (hok y hy).six
    have hj : j < ntE.sz := by rw [← ntE.len x (hok x (List.mem_of_getElem? hx)).six]; exact (List.getElem?_eq_some_iff.1 hu).1
    have e := El.all_at hfine hx hj
    rw [add_of_add, addr_add, Nat.zero_add, cell_of_row w g _ _ _ _ h]
    rw [show cs[i * 9 + j]? = cs.toList[i * 9 + j]? from by simp, hc]
    exact e.trans hu
theorem in13 {z : Int} (h : 0 ≤ z ∧ z ≤ 1000000) : In64 z := ⟨by omega, by omega⟩
theorem nt_ok {w : World} {ok : Nat → Prop} (o v x0 x1 x2 x3 x4 x5 : Int) (A : Option Addr) (c : Nat) (k : FT) (h : ∀ z ∈ [o, v, x0, x1, x2, x3, x4, x5], 0 ≤ z ∧ z ≤ 1000000) (hk : Kids w ok A c k) : NT.Ok ⟨o, [x0, x1, x2, x3, x4, x5], v, A, c, k⟩ w ok :=
  ⟨rfl, in13 (h o List.mem_cons_self), in13 (h v (List.mem_cons_of_mem _ List.mem_cons_self)), fun z hz => in13 (h z (List.mem_cons_of_mem _ (List.mem_cons_of_mem _ hz))), hk⟩
def t5 : NT := ⟨1, [1, 0, 0, 0, 0, 0], 5, none, 0, .nil⟩
def t7 : NT := ⟨1, [0, 1, 0, 0, 0, 0], 7, none, 0, .nil⟩
def t7a : NT := ⟨1, [1, 0, 0, 0, 0, 0], 7, none, 0, .nil⟩
def tOr (g : Nat) : NT := ⟨3, [0, 0, 0, 0, 0, 0], 0, some ⟨g, 0, none⟩, 2, FT.of [t5, t7]⟩
def tTw (g : Nat) : NT := ⟨3, [0, 0, 0, 0, 0, 0], 0, some ⟨g, 0, none⟩, 2, FT.of [t5, t7a]⟩
def tXo (g : Nat) : NT := ⟨2, [0, 0, 0, 0, 0, 0], 0, some ⟨g, 0, none⟩, 2, FT.of [t5, t7]⟩
def tMo (h g : Nat) : NT := ⟨4, [1, 1, 0, 0, 0, 0], 3, some ⟨h, 0, none⟩, 1, FT.of [tOr g]⟩
def tLi (h g : Nat) : NT := ⟨5, [0, 0, 0, 0, 0, 0], 10, some ⟨h, 0, none⟩, 1, FT.of [tOr g]⟩
section
variable {w : World} {g h : Nat} {T : TypeId}
theorem t5_ok (w : World) : t5.Ok w (fun _ => True) := nt_ok 1 5 1 0 0 0 0 0 _ _ _ (by decide) (Kids.nil _ _ _ _)
theorem t7_ok (w : World) : t7.Ok w (fun _ => True) := nt_ok 1 7 0 1 0 0 0 0 _ _ _ (by decide) (Kids.nil _ _ _ _)
theorem t7a_ok (w : World) : t7a.Ok w (fun _ => True) := nt_ok 1 7 1 0 0 0 0 0 _ _ _ (by decide) (Kids.nil _ _ _ _)
theorem tOr_ok (hg : w.heap[g]? = some (.cells #[.int .i64 1, .int .i64 1, .int .i64 0, .int .i64 0, .int .i64 0, .int .i64 0, .int .i64 0, .int .i64 5, .slice none 0 0, .int .i64 1, .int .i64 0, .int .i64 1, .int .i64 0, .int .i64 0, .int .i64 0, .int .i64 0, .int .i64 7, .slice none 0 0] T (0, 0))) : (tOr g).Ok w (fun _ => True) :=
  nt_ok 3 0 0 0 0 0 0 0 _ _ _ (by decide) (kids_lit [t5, t7] rfl hg rfl (show 2 ≤ 100 by decide) (fun y hy => by
    simp only [List.mem_cons, List.not_mem_nil, or_false] at hy
    rcases hy with rfl | rfl
    · exact t5_ok w
    · exact t7_ok w))
theorem tXo_ok (hg : w.heap[g]? = some (.cells #[.int .i64 1, .int .i64 1, .int .i64 0, .int .i64 0, .int .i64 0, .int .i64 0, .int .i64 0, .int .i64 5, .slice none 0 0, .int .i64 1, .int .i64 0, .int .i64 1, .int .i64 0, .int .i64 0, .int .i64 0, .int .i64 0, .int .i64 7, .slice none 0 0] T (0, 0))) : (tXo g).Ok w (fun _ => True) :=
  nt_ok 2 0 0 0 0 0 0 0 _ _ _ (by decide) ((tOr_ok hg).kids)
theorem tTw_ok (hg : w.heap[g]? = some (.cells #[.int .i64 1, .int .i64 1, .int .i64 0, .int .i64 0, .int .i64 0, .int .i64 0, .int .i64 0, .int .i64 5, .slice none 0 0, .int .i64 1, .int .i64 1, .int .i64 0, .int .i64 0, .int .i64 0, .int .i64 0, .int .i64 0, .int .i64 7, .slice none 0 0] T (0, 0))) : (tTw g).Ok w (fun _ => True) :=
  nt_ok 3 0 0 0 0 0 0 0 _ _ _ (by decide) (kids_lit [t5, t7a] rfl hg rfl (show 2 ≤ 100 by decide) (fun y hy => by
    simp only [List.mem_cons, List.not_mem_nil, or_false] at hy
    rcases hy with rfl | rfl
    · exact t5_ok w
    · exact t7a_ok w))
theorem kids_or (ho : (tOr g).Ok w (fun _ => True)) (hh : w.heap[h]? = some (.cells #[.int .i64 3, .int .i64 0, .int .i64 0, .int .i64 0, .int .i64 0, .int .i64 0, .int .i64 0, .int .i64 0, .slice (some ⟨g, 0, none⟩) 2 2] T (0, 0))) : Kids w (fun _ => True) (some ⟨h, 0, none⟩) 1 (FT.of [tOr g]) :=
  kids_lit [tOr g] rfl hh rfl (show 1 ≤ 100 by decide) (fun y hy => by rw [List.mem_singleton.1 hy]; exact ho)
theorem tMo_ok (ho : (tOr g).Ok w (fun _ => True)) (hh : w.heap[h]? = some (.cells #[.int .i64 3, .int .i64 0, .int .i64 0, .int .i64 0, .int .i64 0, .int .i64 0, .int .i64 0, .int .i64 0, .slice (some ⟨g, 0, none⟩) 2 2] T (0, 0))) : (tMo h g).Ok w (fun _ => True) :=
  nt_ok 4 3 1 1 0 0 0 0 _ _ _ (by decide) (kids_or ho hh)
theorem tLi_ok (ho : (tOr g).Ok w (fun _ => True)) (hh : w.heap[h]? = some (.cells #[.int .i64 3, .int .i64 0, .int .i64 0, .int .i64 0, .int .i64 0, .int .i64 0, .int .i64 0, .int .i64 0, .slice (some ⟨g, 0, none⟩) 2 2] T (0, 0))) : (tLi h g).Ok w (fun _ => True) :=
  nt_ok 5 10 0 0 0 0 0 0 _ _ _ (by decide) (kids_or ho hh)
end
theorem ex_xor (g : Nat) : VV.value (tXo g).n [1, 1, 0, 0, 0, 0] = 7 := by kernel_rfl
theorem ex_or (g : Nat) : VV.value (tOr g).n [1, 1, 0, 0, 0, 0] = 12 := by kernel_rfl
theorem ex_tw1 (g : Nat) : VV.value (tTw g).n [1, 0, 0, 0, 0, 0] = 7 := by kernel_rfl
theorem ex_tw2 (g : Nat) : VV.value (tTw g).n [2, 0, 0, 0, 0, 0] = 12 := by kernel_rfl
theorem ex_mo1 (h g : Nat) : VV.value (tMo h g).n [1, 1, 0, 0, 0, 0] = 15 := by kernel_rfl
theorem ex_mo2 (h g : Nat) : VV.value (tMo h g).n [0, 1, 0, 0, 0, 0] = 7 := by kernel_rfl
theorem ex_li (h g : Nat) : VV.value (tLi h g).n [1, 1, 0, 0, 0, 0] = 10 := by kernel_rfl
theorem ex_most : VV.value t5.n full6 = 5 := by kernel_rfl
theorem ex_tab1 : tabE t5.n [2, 0, 0, 0, 0, 0] = ([0, 5, 5], 0) := by kernel_rfl
theorem ex_tab2 : tabE t5.n [5, 0, 0, 0, 0, 0] = ([], 4) := by kernel_rfl
theorem ex_mono1 : VV.monoB [0, 5, 4] [2, 0, 0, 0, 0, 0] = false := by kernel_rfl
theorem ex_mono2 : VV.monoB [0, 5, 5] [2, 0, 0, 0, 0, 0] = true := by kernel_rfl
theorem lit_int {w : World} {b : Nat} {T : TypeId} {cs : Array Value} (L : List Int) (n : Nat) (h : w.heap[b]? = some (.cells cs T (0, 0))) (hc : cs.toList = intE.all L) (hn : L.length = n) (hf : n ≤ 100) (hi : ∀ x ∈ L, 0 ≤ x ∧ x ≤ 1000000) : Lst intE w (some ⟨b, 0, none⟩) n n L :=
  Lst.lit L n h hc hn (by omega) fun x hx => by have := hi x hx; show -9223372036854775808 ≤ x ∧ x ≤ 9223372036854775807; omega
end Go.Proofs.Ytgknggighpjcdaa
