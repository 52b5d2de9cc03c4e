/- Size, tooLarge: no claim of its own. -/
import Derived.Test.YtpemamkhaiiaaaaEVis
namespace Go.Proofs.Ytpemamkhaiiaaaa
open Go.RowKit
open ME (F Nd)
/-- A variable in a cell of its own. -/
def V1 (w : World) (g : Nat) (T : TypeId) (v : Value) : Prop := w.heap[g]? = some (.cells #[v] T (0, 0))
section
variable {w w' : World} {g : Nat} {T : TypeId} {v : Value}
theorem V1.lt (h : V1 w g T v) : g < w.heap.size := (Array.getElem?_eq_some_iff.1 h).1
theorem V1.keep (h : V1 w g T v) (hb : Below w.heap.size w w') : V1 w' g T v := (hb.block g h.lt).trans h
theorem V1.cell (h : V1 w g T v) : w.cell? ⟨g, 0, none⟩ = some v := by rw [cell_of_row w g _ _ _ _ h]; rfl
theorem V1.free (h : V1 w g T v) : w.frozen? ⟨g, 0, none⟩ = false := frozen_of_row w g 0 _ T h
theorem V1.set (h : V1 w g T v) (u : Value) : V1 (w.setCell ⟨g, 0, none⟩ u) g T u := by
  have := heap_setCell_same w g 0 _ T u h
  exact this
theorem V1.new (w : World) (T : TypeId) (v : Value) : V1 (w.alloc (.cells #[v] T)) w.heap.size T v := heap_new _ _
theorem kx_set {w1 : World} (h : Below w.heap.size w w1) (g : Nat) (u : Value) : Kx (fun k => k = g) w (w1.setCell ⟨g, 0, none⟩ u) :=
  ⟨h.os, h.tape, h.output, by simpa [World.setCell] using h.size, fun k hk hd => (Below.heap_setCell w1 ⟨g, 0, none⟩ u k hd).trans (h.block k hk)⟩
end
/-- The state lies in one variable's cell. -/
def InV {σ : Type} (g : Nat) (T : TypeId) (enc : σ → Value) (s : σ) (D : Nat → Prop) (w : World) : Prop := D = (fun k => k = g) ∧ V1 w g T (enc s)
theorem InV.start {σ : Type} {T : TypeId} {enc : σ → Value} (w : World) (s : σ) : InV w.heap.size T enc s (fun k => k = w.heap.size) (w.alloc (.cells #[enc s] T)) := ⟨rfl, V1.new _ _ _⟩
theorem steps_var {σ : Type} {F : FuncId} {g : Nat} {T : TypeId} {enc : σ → Value} {st : σ → Nd → σ × Bool} (eg : ∀ args w, (callFunc F args).run Try.prog w = .ok (.enter F args) w)
    (hc : ∀ (s : σ) (w : World) (x : NT), V1 w g T (enc s) → x.Ok w (fun k => k ≠ g) → Calls Try.prog F (#[x.val] ++ #[.pointer (some ⟨g, 0, none⟩)]) w fun e w' => e = .returned (.bool (st s x.n).2) ∧ ∃ w1, Below w.heap.size w w1 ∧ w' = w1.setCell ⟨g, 0, none⟩ (enc (st s x.n).1)) :
    Steps F #[.pointer (some ⟨g, 0, none⟩)] (InV g T enc) st (fun _ _ => True) where
  less _ _ _ := trivial
  next _ _ _ _ := trivial
  enters := eg
  lt s D w h k hk := by rw [h.1] at hk; rw [show k = g from hk]; exact h.2.lt
  keep s D w w' h hb := ⟨h.1, h.2.keep hb⟩
  call s D w x _ _ h hok := by
    obtain ⟨rfl, hv⟩ := h
    refine (hc s w x hv hok).mono ?_
    rintro e w' ⟨he, w1, hb, rfl⟩
    exact ⟨he, _, ⟨⟨rfl, (hv.keep hb).set _⟩, kx_set hb g _, fun k hk => .inl hk⟩⟩
/-- What is so counted. -/
def sizeSt (s : Int) (_ : Nd) : Int × Bool := (wrap64 (s + 1), true)
theorem size_vis : ∀ (l : List Nd) (s : Int), 0 ≤ s → s + l.length ≤ 4611686018427387904 → visL sizeSt s l = (s + l.length, true)
  | [], s, _, _ => by simp [visL]
  | n :: r, s, h0, h1 => by
    have e : wrap64 (s + 1) = s + 1 := by
      unfold wrap64
      rw [List.length_cons] at h1
      omega
    rw [visL_cons]
    show visL sizeSt (wrap64 (s + 1)) r = _
    rw [List.length_cons] at h1
    rw [e, size_vis r (s + 1) (by omega) (by omega), List.length_cons]
    congr 1
    omega
set_option maxRecDepth 100000 in
set_option maxHeartbeats 2000000 in
theorem size_step (g : Nat) : Steps 28 #[.pointer (some ⟨g, 0, none⟩)] (InV g 3 (fun s : Int => Value.int .i64 s)) sizeSt (fun _ _ => True) :=
  steps_var (enters_of Try.func28 (by kernel_rfl) rfl) fun s w x hv hok => by
    obtain ⟨o, b, v, A, c, k⟩ := x
    obtain ⟨x0, x1, x2, x3, x4, x5, rfl⟩ := six hok.six
    have HB := Lib.hid (below_new w (.cells #[.int .i64 o, .int .i64 x0, .int .i64 x1, .int .i64 x2, .int .i64 x3, .int .i64 x4, .int .i64 x5, .int .i64 v, .slice A k.len c] 26))
    have c1 := (hv.keep HB.out).cell
    have f1 := (hv.keep HB.out).free
    rw [NT.val_lit]
    clear hok hv
    show Calls _ _ #[_, _] _ _
    go_enter Try.func28, Try.ntmps28
    go_wp2
    go_ret
    exact ⟨rfl, _, HB.out, rfl⟩
set_option maxRecDepth 100000 in
set_option maxHeartbeats 2000000 in
theorem size_any (x : NT) (w : World) (ok : Nat → Prop) (hok : x.Ok w ok) (hs : x.size ≤ 1000000) : Calls Try.prog 14 #[x.val] w (Gives (.int .i64 x.size) w) := by
  obtain ⟨o, b, v, A, c, k⟩ := x
  obtain ⟨x0, x1, x2, x3, x4, x5, rfl⟩ := six hok.six
  have HB := Lib.hid (below_new w (.cells #[.int .i64 o, .int .i64 x0, .int .i64 x1, .int .i64 x2, .int .i64 x3, .int .i64 x4, .int .i64 x5, .int .i64 v, .slice A k.len c] 26))
  have HB2 := Lib.hid (HB.out.alloc HB.out.size (.cells #[.int .i64 0] 3))
  have hsz : (w.alloc (.cells #[.int .i64 o, .int .i64 x0, .int .i64 x1, .int .i64 x2, .int .i64 x3, .int .i64 x4, .int .i64 x5, .int .i64 v, .slice A k.len c] 26)).heap.size = w.heap.size + 1 := by simp
  have CE := Lib.hid (eachNode_any (size_step (w.heap.size + 1)) _ (show NT.size _ ≤ 2000000 by omega) _ (Nat.le_refl _) (0 : Int) _ _ trivial (by have := InV.start (T := 3) (enc := fun s : Int => Value.int .i64 s) (w.alloc (.cells #[.int .i64 o, .int .i64 x0, .int .i64 x1, .int .i64 x2, .int .i64 x3, .int .i64 x4, .int .i64 x5, .int .i64 v, .slice A k.len c] 26)) (0 : Int); rwa [hsz] at this)
    (hok.keep (fun j _ hj => HB2.out.block j hj) HB2.out.size (fun j _ hj => by show ¬ j = w.heap.size + 1; omega)))
  rw [size_vis _ _ (by omega) (by rw [ME.Nd.pre_length, NT.size_n]; omega), ME.Nd.pre_length, NT.size_n, NT.val_lit] at CE
  rw [NT.val_lit]
  clear hok hs
  go_enter Try.func14, Try.ntmps14
  go_wp2_with fail
  refine CE.out.mono ?_
  rintro ev w1 ⟨rfl, D1, h1⟩
  obtain ⟨rfl, hv⟩ := h1.inv
  have B1 := Lib.hid (show Below w.heap.size w w1 from HB2.out.trans ⟨h1.kx.os, h1.kx.tape, h1.kx.output, h1.kx.size, fun j hj => h1.kx.block j (by have := HB2.out.size; omega) (by show ¬ j = w.heap.size + 1; omega)⟩)
  have c1 := hv.cell
  clear h1 hv CE HB HB2
  go_wp2
  go_ret
  exact ⟨by simp, B1.out⟩
end Go.Proofs.Ytpemamkhaiiaaaa
