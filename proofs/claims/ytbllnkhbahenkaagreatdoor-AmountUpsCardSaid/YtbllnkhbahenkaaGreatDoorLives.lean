/- The contract of the law's 'lives': no claim of its own. -/
import Derived.Test.YtbllnkhbahenkaaGreatDoorMul
import Derived.Test.YtbllnkhbahenkaaGreatDoorFormat
import Derived.Test.YtbllnkhbahenkaaGreatDoorParse
import Derived.Test.YtbllnkhbahenkaaGreatDoorBitsN
namespace Go.Proofs.YtbllnkhbahenkaaGreatDoor
open Go.RowKit
theorem Num.new (W : World) (cs : Array Value) (t : TypeId) (xs : List Nat) (n a g : Nat) (hg : W.heap.size = g) (h : cs.toList = Dg xs) (hn : xs.length = n) (hs : n ≤ 100) (hl : ∀ d ∈ xs, d < 4294967296) (ht : Tight xs) (hv : dval xs = a) :
    Num (W.alloc (.cells cs t)) (some ⟨g, 0, none⟩) n n xs a := by
  subst hg
  exact ⟨Lst.new W cs t n n xs (by rw [h, List.take_of_length_le (by rw [Dg_length]; omega)]) hn (Nat.le_refl _) (by omega) hl, ht, hv⟩
theorem Lst.newg (W : World) (cs : Array Value) (t : TypeId) (xs : List Nat) (n g : Nat) (hg : W.heap.size = g) (h : cs.toList = Dg xs) (hn : xs.length = n) (hs : n ≤ 100) (hl : ∀ d ∈ xs, d < 4294967296) : Lst (W.alloc (.cells cs t)) (some ⟨g, 0, none⟩) n n xs := by
  subst hg
  exact Lst.new W cs t n n xs (by rw [h, List.take_of_length_le (by rw [Dg_length]; omega)]) hn (Nat.le_refl _) (by omega) hl
theorem Num.eq_ {w w' : World} {A B : Option Addr} {n c m d a : Nat} {xs ys : List Nat} (h : Num w A n c xs a) (k : Num w' B m d ys a) : xs = ys :=
  dval_inj xs ys h.lt k.lt h.tight k.tight (h.val.trans k.val.symm)
theorem below_alloc (w : World) (o : Obj) : Below w.heap.size w (w.alloc o) := (Below.refl _ _).alloc (Nat.le_refl _) _
def big : ByteArray := ⟨#[49, 56, 52, 52, 54, 55, 52, 52, 48, 55, 51, 55, 48, 57, 53, 53, 49, 54, 49, 54]⟩
theorem big_ok : parseErr big.data.toList = 0 :=
  parseErr_ok _ (by decide) (by decide) (by decide) (by intro c hc; have h : ∀ c ∈ big.data.toList, 48 ≤ c.toNat ∧ c.toNat ≤ 57 := by decide
                                                        exact h c hc)
theorem big_val : decVal big.data.toList = 18446744073709551616 := by decide +kernel
theorem text_big (s : ByteArray) (h : isText s.data.toList 18446744073709551616) : s = big := by
  have e := isText_inj _ _ _ h (big_val ▸ isText_of_ok _ big_ok)
  cases s with
  | mk d => 
    have : d = big.data := Array.toList_inj.1 e
    subst this
    rfl
end Go.Proofs.YtbllnkhbahenkaaGreatDoor
