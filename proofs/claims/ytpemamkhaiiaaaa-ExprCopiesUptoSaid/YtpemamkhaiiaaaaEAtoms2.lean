/- Atoms: no claim of its own. -/
import Derived.Test.YtpemamkhaiiaaaaEAtoms
namespace Go.Proofs.Ytpemamkhaiiaaaa
open Go.RowKit
open ME (F Nd)
/-- A list of expressions in new memory. -/
def GivesXs (w : World) (zs : List Nd) (e : Ending) (w' : World) : Prop := ∃ (v : Value) (L : List NT), e = .returned v ∧ OwnL ntE 26 w' w.heap.size v L ∧ L.map NT.n = zs ∧ (∀ z ∈ L, z.Rk w' (fun k => w.heap.size ≤ k ∧ v.ownBlock ≠ some k) ∧ z.Al) ∧ Below w.heap.size w w'
theorem ownL_low {α : Type} {E : El α} {e : TypeId} {w : World} {B B' : Nat} {v : Value} {l : List α} (h : OwnL E e w B v l) (hb : B' ≤ B) : OwnL E e w B' v l := by
  obtain ⟨⟨h1, h2⟩, h3⟩ := h
  exact ⟨⟨h1, h2.imp (fun q => q) (fun ⟨g, cap, cur, q1, q2, q3⟩ => ⟨g, cap, cur, q1, Nat.le_trans hb q2, q3⟩)⟩, h3⟩
theorem atomsL_le (l : List Nd) : (ME.atomsL l).length ≤ l.length := List.length_filter_le _ _
set_option maxRecDepth 100000 in
set_option maxHeartbeats 4000000 in
theorem atoms_any (x : NT) (hx : x.size ≤ 1000000) (w : World) (ok : Nat → Prop) (hok : x.Ok w ok) : Calls Try.prog 8 #[x.val] w (GivesXs w (ME.atomsL x.n.pre)) := by
  obtain ⟨o, b, v, A, c, k⟩ := x
  obtain ⟨x0, x1, x2, x3, x4, x5, rfl⟩ := six hok.six
  have HB := Lib.hid (below_new w (.cells #[.int .i64 o, .int .i64 x0, .int .i64 x1, .int .i64 x2, .int .i64 x3, .int .i64 x4, .int .i64 x5, .int .i64 v, .slice A k.len c] 26))
  have HB2 := Lib.hid (HB.out.alloc HB.out.size (.cells #[.slice none 0 0] 24))
  have hsz : (w.alloc (.cells #[.int .i64 o, .int .i64 x0, .int .i64 x1, .int .i64 x2, .int .i64 x3, .int .i64 x4, .int .i64 x5, .int .i64 v, .slice A k.len c] 26)).heap.size = w.heap.size + 1 := by simp
  have HV0 : Hid (V1 ((w.alloc (.cells #[.int .i64 o, .int .i64 x0, .int .i64 x1, .int .i64 x2, .int .i64 x3, .int .i64 x4, .int .i64 x5, .int .i64 v, .slice A k.len c] 26)).alloc (.cells #[.slice none 0 0] 24)) (w.heap.size + 1) 24 (.slice none 0 0)) := Lib.hid (by have := V1.new (w.alloc (.cells #[.int .i64 o, .int .i64 x0, .int .i64 x1, .int .i64 x2, .int .i64 x3, .int .i64 x4, .int .i64 x5, .int .i64 v, .slice A k.len c] 26)) 24 (.slice none 0 0); rwa [hsz] at this)
  have CE := Lib.hid (eachNode_any (atom_step (w.heap.size + 1)) 2000000 (Nat.le_refl _) ⟨o, [x0, x1, x2, x3, x4, x5], v, A, c, k⟩ (by omega) [] (fun k => k = w.heap.size + 1 ∨ (.slice none 0 0 : Value).ownBlock = some k) _ (by unfold canA; simp only [List.length_nil]; omega) ⟨.slice none 0 0, [], ⟨HV0.out, OwnL.nil _ _ _, rfl, fun z hz => by cases hz⟩, rfl⟩
    (hok.keep (fun j _ hj => HB2.out.block j hj) HB2.out.size (fun j _ hj => by rintro (q | q); omega; cases q)))
  rw [atom_vis, NT.val_lit] at CE
  have hll := Nat.le_trans (atomsL_le (NT.n ⟨o, [x0, x1, x2, x3, x4, x5], v, A, c, k⟩).pre) (by rw [ME.Nd.pre_length, NT.size_n]; exact hx)
  rw [NT.val_lit]
  clear hok HV0
  generalize ME.atomsL (NT.n ⟨o, [x0, x1, x2, x3, x4, x5], v, A, c, k⟩).pre = R at *
  go_enter Try.func8, Try.ntmps8
  go_wp2_with fail
  refine CE.out.mono ?_
  rintro ev w1 ⟨rfl, D1, h1⟩
  obtain ⟨v', L, hA, rfl⟩ := h1.inv
  have B1 := Lib.hid (show Below w.heap.size w w1 from HB2.out.trans ⟨h1.kx.os, h1.kx.tape, h1.kx.output, h1.kx.size, fun j hj => h1.kx.block j (by have := HB2.out.size; omega) (by rintro (q | q); omega; cases q)⟩)
  have HEQ := Lib.hid hA.eq
  have hln : L.length ≤ 1000000 := by have e := congrArg List.length HEQ.out; simp only [List.length_map, List.nil_append] at e; omega
  obtain ⟨Av, cv, rfl, _, _⟩ := hA.own.form2 (by omega)
  have c1 := hA.var.cell
  have FI : Hid (GivesXs w R (.returned (.slice Av L.length cv)) w1) := Lib.hid ⟨_, L, rfl, ownL_low hA.own (by omega), by rw [HEQ.out]; rfl, fun z hz => ⟨(hA.ok z hz).1.keep (fun _ _ _ => rfl) (Nat.le_refl _) (fun k q _ => ⟨by have := q.1; omega, q.2⟩), (hA.ok z hz).2⟩, B1.out⟩
  clear h1 hA CE HB HB2 HEQ B1
  go_wp2
  go_ret
  exact FI.out
end Go.Proofs.Ytpemamkhaiiaaaa
