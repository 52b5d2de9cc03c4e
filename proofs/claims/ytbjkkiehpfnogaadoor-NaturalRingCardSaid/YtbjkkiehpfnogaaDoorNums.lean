/- Small contracts: no claim of its own. -/
import Derived.Test.YtbjkkiehpfnogaaDoorTrim
namespace Go.Proofs.YtbjkkiehpfnogaaDoor
open Go.RowKit
theorem trim_num (A : Option Addr) (n c : Nat) (xs : List Nat) (a : Nat) (w : World) (h : Num w A n c xs a) :
    Calls Tryd.prog 38 #[.slice A n c] w fun e w' => e = .returned (.slice A n n) ∧ w = w' :=
  (trim_any A n c xs w h.toLst).mono fun e w' ⟨k, hk, he, ht, hv, hw⟩ => by
    have e1 := dval_inj _ _ (fun d hd => h.lt d (List.mem_of_mem_take hd)) h.lt ht h.tight hv
    have e2 : (xs.take k).length = xs.length := by rw [e1]
    rw [List.length_take, h.len] at e2
    have e3 : k = n := by have := h.len; omega
    subst e3
    exact ⟨he, hw⟩
theorem Num.caps {w : World} {A : Option Addr} {n c : Nat} {xs : List Nat} {a : Nat} (h : Num w A n c xs a) : Num w A n n xs a :=
  ⟨⟨h.reads, h.len, Nat.le_refl _, h.room, h.lt⟩, h.tight, h.val⟩
theorem Num.caps' {w : World} {A : Option Addr} {n c c' : Nat} {xs : List Nat} {a : Nat} (h : Num w A n c xs a) (h1 : n ≤ c') : Num w A n c' xs a :=
  ⟨⟨h.reads, h.len, h1, h.room, h.lt⟩, h.tight, h.val⟩
theorem Lst.new (w : World) (cs : Array Value) (t : TypeId) (n c : Nat) (xs : List Nat) (h : cs.toList.take n = Dg xs) (hn : xs.length = n) (hc : n ≤ c) (hr : n ≤ 35184372088832) (hl : ∀ d ∈ xs, d < 4294967296) :
    Lst (w.alloc (.cells cs t)) (some ⟨w.heap.size, 0, none⟩) n c xs := by
  refine ⟨⟨by rw [Dg_length, hn]; omega, fun _ => ⟨_, rfl, by simp, fun j u hu => ?_⟩⟩, hn, hc, hr, hl⟩
  have hj : j < xs.length := by
    have := (List.getElem?_eq_some_iff.1 hu).1
    rwa [Dg_length] at this
  rw [← h, List.getElem?_take_of_lt (by omega)] at hu
  have : (⟨w.heap.size, 0, none⟩ : Addr).add j = ⟨w.heap.size, j, none⟩ := by unfold Addr.add; split <;> simp_all
  rw [this, cell_of_row _ _ j cs t (0, 0) (heap_alloc_new w _)]
  simpa using hu
theorem Lst.cut {w : World} {A : Option Addr} {n c : Nat} {xs : List Nat} (h : Lst w A n c xs) {k : Nat} (hk : k ≤ xs.length) : Lst w A k k (xs.take k) :=
  ⟨by rw [← Dg_take]; exact h.reads.take (by rw [← h.len]; exact hk), by rw [List.length_take]; omega, Nat.le_refl _, by have := h.cap; have := h.room; have := h.len; omega, fun d hd => h.lt d (List.mem_of_mem_take hd)⟩
/-- What trim hands back is a number. -/
theorem Trims.gives {A : Option Addr} {n c a : Nat} {xs : List Nat} {W w w' : World} {e : Ending} (h : Lst w A n c xs) (ha : dval xs = a) (hb : Below W.heap.size W w) (ht : Trims A xs w e w') : GivesNum a W e w' := by
  obtain ⟨k, hk, rfl, h1, h2, rfl⟩ := ht
  exact ⟨A, k, k, xs.take k, rfl, ⟨h.cut hk, h1, h2.trans ha⟩, hb⟩
theorem GivesNum.eq {a b : Nat} (h : a = b) {w w' : World} {e : Ending} (g : GivesNum a w e w') : GivesNum b w e w' := h ▸ g
set_option maxHeartbeats 400000 in
theorem fromUint_any (x : Nat) (hx : x < 18446744073709551616) (w : World) :
    Calls Tryd.prog 36 #[.int .u64 x] w (GivesNum x w) := by
  have HX := Lib.hid hx
  clear hx
  have L : Lst (w.alloc (.cells #[.int .u32 ((x : Int) % 4294967296), .int .u32 ((x : Int) / 4294967296 % 4294967296)] 46)) (some ⟨w.heap.size, 0, none⟩) 2 2 [x % 4294967296, x / 4294967296 % 4294967296] :=
    Lst.new w _ _ 2 2 _ (by simp [Dg]) rfl (by decide) (by decide) (by intro d hd; simp at hd; omega)
  have hv : dval [x % 4294967296, x / 4294967296 % 4294967296] = x := by have := HX.out; simp only [dval]; omega
  have HL := Lib.hid L
  have HV := Lib.hid hv
  clear L hv
  go_enter Tryd.func36, Tryd.ntmps36
  go_wp2_with fail
  refine (trim_any _ 2 2 _ _ HL.out).mono ?_
  rintro e w' ht
  have g := Lib.hid (ht.gives (W := w) HL.out HV.out ((Below.refl _ _).alloc (Nat.le_refl _) _))
  obtain ⟨k, hk, rfl, h1, h2, rfl⟩ := ht
  clear hk h1 h2
  go_wp2
  go_ret
  exact g.out
end Go.Proofs.YtbjkkiehpfnogaaDoor
