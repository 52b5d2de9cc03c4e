/- Words for memory: a slice that reads as a list of digits. Plain theorems, no claim of their own. -/
import Derived.Test.YtbllnkhbahenkaaGreatDoorChecked
import Derived.Test.YtbllnkhbahenkaaGreatDoorMaths
import Derived.WalkKit
import Derived.Below
import Derived.Laws.OwnMore
import Derived.Deep.AppendLies
import Derived.Deep.Draws
import Derived.Maps.AppendAt
import Derived.RegionTactic
import Derived.OwnWalk
import Derived.Lib.Hide
import Derived.Deep.QuietTactic
import Derived.BigQuiet
import Derived.WalkSpells
import Derived.Outline
import Derived.Laws.CopyOwn
import Derived.StillTailTactics
namespace Go.Proofs.YtbllnkhbahenkaaGreatDoor
open Go.RowKit
theorem block_of_add (a : Addr) (n : Nat) : (a.add n).block = a.block := by unfold Addr.add; split <;> rfl
theorem add_of_add (a : Addr) (i j : Nat) : (a.add i).add j = a.add (i + j) := by
  unfold Addr.add
  by_cases hi : i = 0 <;> by_cases hj : j = 0 <;> simp [hi, hj, Nat.add_assoc]
theorem add_zero_ (a : Addr) : a.add 0 = a := by unfold Addr.add; simp

def Reads (w : World) (B size : Nat) (A : Option Addr) (n : Nat) (xs : List Value) : Prop :=
  xs.length = n * size ∧ (0 < n → ∃ ad, A = some ad ∧ ad.block < B ∧ ∀ j u, xs[j]? = some u → w.cell? (ad.add j) = some u)

section
variable {w w' : World} {B B' size n : Nat} {A : Option Addr} {xs : List Value}
theorem Reads.none_ : Reads w B size A 0 [] := ⟨by simp, fun h => absurd h (by omega)⟩
theorem Reads.at_ {k : Nat} (h : Reads w B 1 A n xs) (hk : k < n) : ∃ ad u, A = some ad ∧ ad.block < B ∧ xs[k]? = some u ∧ w.cell? (ad.add k) = some u := by
  obtain ⟨ad, e, hb, hc⟩ := h.2 (by omega)
  have hl : k < xs.length := by have := h.1; omega
  exact ⟨ad, xs[k], e, hb, List.getElem?_eq_getElem hl, hc k _ (List.getElem?_eq_getElem hl)⟩
theorem Reads.keep (h : Reads w B size A n xs) (hk : ∀ p : Addr, p.block < B → w'.cell? p = w.cell? p) : Reads w' B size A n xs :=
  ⟨h.1, fun hn => by
    obtain ⟨ad, e, hb, hc⟩ := h.2 hn
    exact ⟨ad, e, hb, fun j u hu => (hk _ (by rw [block_of_add]; exact hb)).trans (hc j u hu)⟩⟩
theorem Reads.more (h : Reads w B size A n xs) (hB : B ≤ B') : Reads w B' size A n xs :=
  ⟨h.1, fun hn => by
    obtain ⟨ad, e, hb, hc⟩ := h.2 hn
    exact ⟨ad, e, by omega, hc⟩⟩
theorem Reads.below (h : Reads w B size A n xs) (hb : Below B w w') : Reads w' B size A n xs := h.keep fun _ hp => hb.cell hp
theorem Reads.drew (h : Reads w B size A n xs) : Reads w.drew B size A n xs := h
theorem Reads.drewN (h : Reads w B size A n xs) (k : Nat) : Reads (w.drewN k) B size A n xs := h
theorem Reads.alloc (h : Reads w B size A n xs) (hB : B ≤ w.heap.size) (o : Obj) : Reads (w.alloc o) B size A n xs := h.keep fun p hp => World.cell?_alloc_lt w o p (by omega)
theorem Reads.setCell (h : Reads w B size A n xs) {p : Addr} (hB : B ≤ p.block) (u : Value) : Reads (w.setCell p u) B size A n xs :=
  h.keep fun q hq => World.cell?_setCell_other w p q u (fun e => by subst e; omega)
theorem Reads.grown (h : Reads w B size A n xs) {row : Option Nat} (hg : w.grownBy w' row) (hB : B ≤ w.heap.size) (hr : ∀ g, row = some g → B ≤ g) : Reads w' B size A n xs :=
  h.keep fun p hp => World.cell?_of_block (hg.block p.block (by omega) (fun e => by have := hr _ e.symm; omega))
theorem Reads.cut (h : Reads w B size A n xs) {k cap : Nat} (hk : k ≤ n) (hc : n ≤ cap) :
    Reads w B size (if cap = k then A else A.map (·.add (k * size))) (n - k) (xs.drop (k * size)) := by
  refine ⟨by rw [List.length_drop, h.1, Nat.sub_mul], fun hn => ?_⟩
  obtain ⟨ad, rfl, hb, hcell⟩ := h.2 (by omega)
  rw [if_neg (by omega)]
  refine ⟨ad.add (k * size), rfl, by rw [block_of_add]; exact hb, fun j u hu => ?_⟩
  rw [add_of_add]
  exact hcell _ u (by rw [← hu, List.getElem?_drop])
theorem Reads.take (h : Reads w B 1 A n xs) {k : Nat} (hk : k ≤ n) : Reads w B 1 A k (xs.take k) := by
  refine ⟨by rw [List.length_take, h.1]; omega, fun hn => ?_⟩
  obtain ⟨ad, rfl, hb, hcell⟩ := h.2 (by omega)
  refine ⟨ad, rfl, hb, fun j u hu => hcell j u ?_⟩
  rw [List.getElem?_take] at hu
  split at hu
  · exact hu
  · cases hu
theorem Reads.of_own {base : Nat} {e : TypeId} {c : Nat} (h : w.ownsRow base e size (.slice A n c) n xs) : Reads w w.heap.size size A n xs := by
  refine ⟨h.1, fun hn => ?_⟩
  obtain ⟨g, cap, hv, _, hlt⟩ := h.form hn
  have hA : A = some ⟨g, 0, none⟩ := by injection hv
  subst hA
  exact ⟨_, rfl, hlt, h.cells (g := g) rfl⟩
end

/-- Digits as values. -/
def Dg (xs : List Nat) : List Value := xs.map fun d : Nat => Value.int .u32 (d : Int)
theorem Dg_length (xs : List Nat) : (Dg xs).length = xs.length := by simp [Dg]
theorem Dg_at (xs : List Nat) (k : Nat) (h : k < xs.length) : (Dg xs)[k]? = some (.int .u32 (xs[k] : Int)) := by simp [Dg, h]
theorem Dg_take (xs : List Nat) (k : Nat) : (Dg xs).take k = Dg (xs.take k) := by simp [Dg]

/-- A slice of numbers of 32 bits that reads as 'xs'. -/
structure Lst (w : World) (A : Option Addr) (n c : Nat) (xs : List Nat) : Prop where
  reads : Reads w w.heap.size 1 A n (Dg xs)
  len : xs.length = n
  cap : n ≤ c
  room : n ≤ 35184372088832
  lt : ∀ d ∈ xs, d < 4294967296
theorem Lst.at_ {w : World} {A : Option Addr} {n c : Nat} {xs : List Nat} (h : Lst w A n c xs) {k : Nat} (hk : k < n) :
    ∃ ad, A = some ad ∧ ad.block < w.heap.size ∧ w.cell? (ad.add k) = some (.int .u32 ((xs.getD k 0 : Nat) : Int)) := by
  obtain ⟨ad, u, e, hb, hx, hc⟩ := h.reads.at_ hk
  refine ⟨ad, e, hb, ?_⟩
  have hl : k < xs.length := by rw [h.len]; exact hk
  rw [Dg_at xs k hl] at hx
  injection hx with hx
  rw [hc, ← hx]
  simp [hl]
theorem Lst.getD_lt {w : World} {A : Option Addr} {n c : Nat} {xs : List Nat} (h : Lst w A n c xs) (k : Nat) : xs.getD k 0 < 4294967296 := by
  rcases Nat.lt_or_ge k xs.length with hk | hk
  · rw [List.getD_eq_getElem?_getD, List.getElem?_eq_getElem hk]; exact h.lt _ (List.getElem_mem hk)
  · rw [List.getD_eq_getElem?_getD, List.getElem?_eq_none hk]; decide
theorem Lst.keep {w w' : World} {A : Option Addr} {n c : Nat} {xs : List Nat} (h : Lst w A n c xs) (hb : Below w.heap.size w w') : Lst w' A n c xs :=
  ⟨(h.reads.below hb).more hb.size, h.len, h.cap, h.room, h.lt⟩
theorem Lst.drew {w : World} {A : Option Addr} {n c : Nat} {xs : List Nat} (h : Lst w A n c xs) : Lst w.drew A n c xs := ⟨h.reads, h.len, h.cap, h.room, h.lt⟩
theorem quiet_add {P : Program} {f : FuncId} {args : Array Value} {w : World} {a n : Nat} {v : Value}
    (h : Calls P f args (w.drewN (a + n)) fun e w' => e = .returned v ∧ ∃ m, w' = (w.drewN (a + n)).drewN m) :
    Calls P f args (w.drewN (a + n)) fun e w'' => e = .returned v ∧ ∃ m, w'' = w.drewN (a + m) :=
  h.mono fun _ _ ⟨he, m, hm⟩ => ⟨he, n + m, by rw [hm, World.drewN_drewN, Nat.add_assoc]⟩
theorem quiet_add_left {P : Program} {f : FuncId} {args : Array Value} {w : World} {a n : Nat} {v : Value}
    (h : Calls P f args (w.drewN (a + n)) fun e w' => e = .returned v ∧ w.drewN (a + n) = w') :
    Calls P f args (w.drewN (a + n)) fun e w'' => e = .returned v ∧ ∃ m, w'' = w.drewN (a + m) :=
  h.mono fun _ _ ⟨he, hm⟩ => ⟨he, n, hm.symm⟩
theorem quiet_left {P : Program} {f : FuncId} {args : Array Value} {w : World} {n : Nat} {v : Value}
    (h : Calls P f args (w.drewN n) fun e w' => e = .returned v ∧ w.drewN n = w') : Calls P f args (w.drewN n) fun e w'' => e = .returned v ∧ ∃ m, w'' = w.drewN m :=
  h.mono fun _ _ ⟨he, hm⟩ => ⟨he, n, hm.symm⟩
/-- A slice that holds the number a, tight. -/
structure Num (w : World) (A : Option Addr) (n c : Nat) (xs : List Nat) (a : Nat) : Prop extends Lst w A n c xs where
  tight : Tight xs
  val : dval xs = a
theorem Num.keep {w w' : World} {A : Option Addr} {n c : Nat} {xs : List Nat} {a : Nat} (h : Num w A n c xs a) (hb : Below w.heap.size w w') : Num w' A n c xs a :=
  ⟨h.toLst.keep hb, h.tight, h.val⟩
/-- A call hands back a slice that holds the number a; nothing that was there has turned. -/
def GivesNum (a : Nat) (w : World) (e : Ending) (w' : World) : Prop := ∃ A n c xs, e = .returned (.slice A n c) ∧ Num w' A n c xs a ∧ Below w.heap.size w w'
end Go.Proofs.YtbllnkhbahenkaaGreatDoor
/- The contract of natural.trim: no claim of its own. -/
namespace Go.Proofs.YtbllnkhbahenkaaGreatDoor
open Go.RowKit
/-- What trim hands back of a list: its first k digits, the last of them not 0. -/
def Trims (A : Option Addr) (xs : List Nat) (w : World) (e : Ending) (w' : World) : Prop :=
  ∃ k, k ≤ xs.length ∧ e = .returned (.slice A k k) ∧ Tight (xs.take k) ∧ dval (xs.take k) = dval xs ∧ w = w'
theorem tight_take (xs : List Nat) (k : Nat) (hk : k ≤ xs.length) (h : 0 < k → xs.getD (k - 1) 0 ≠ 0) : Tight (xs.take k) := by
  rcases Nat.eq_zero_or_pos k with h0 | h0
  · left; simp [h0]
  · right
    rw [List.length_take, Nat.min_eq_left hk]
    have := h h0
    rw [List.getD_eq_getElem?_getD] at this ⊢
    rwa [List.getElem?_take_of_lt (by omega)]
set_option maxRecDepth 100000 in
set_option maxHeartbeats 400000 in
theorem trim_any (A : Option Addr) (n c : Nat) (xs : List Nat) (w : World) (h : Lst w A n c xs) :
    Calls Tryz.prog 80 #[.slice A n c] w (Trims A xs w) := by
  have hc := h.cap
  have hm := h.room
  have H := Lib.hid h
  clear h
  go_enter Tryz.func80, Tryz.ntmps80
  go_wp2
  go_loop [3] (fun i => ∃ k : Nat, k ≤ n ∧ i = .int .i64 k ∧ Hid (∀ j, k ≤ j → xs.getD j 0 = 0)) (fun i => (intOf i).toNat)
  case atStart => exact ⟨n, Nat.le_refl _, rfl, Lib.hid fun j hj => by rw [List.getD_eq_getElem?_getD, List.getElem?_eq_none (by have := H.out.len; omega)]; rfl⟩
  case round =>
    obtain ⟨k, hk, rfl, hz⟩ := hrel
    have fin : (0 < k → xs.getD (k - 1) 0 ≠ 0) → Trims A xs w (.returned (.slice A k k)) w := fun h =>
      ⟨k, by rw [H.out.len]; exact hk, rfl, tight_take xs k (by rw [H.out.len]; exact hk) h, dval_take xs k hz.out, rfl⟩
    by_cases h0 : 0 < k
    · obtain ⟨ad, rfl, hb, hcell⟩ := H.out.at_ (k := k - 1) (by omega)
      by_cases hd : xs.getD (k - 1) 0 = 0
      · rw [hd] at hcell
        have HD := Lib.hid hd
        have FIN := Lib.hid fin
        clear hd fin
        go_wp2
        go_round
        case rel => exact ⟨k - 1, by omega, by go_num, Lib.hid fun j hj => by
          rcases Nat.lt_or_ge j k with h1 | h1
          · rw [show j = k - 1 by omega]; exact HD.out
          · exact hz.out j h1⟩
        case measure => simp [intOf]; omega
      · have f1 := fin fun _ => hd
        have F1 := Lib.hid f1
        clear f1 fin
        generalize xs.getD (k - 1) 0 = d at hcell hd
        have hne : ((d : Int) == 0) = false := by simpa using hd
        clear hd
        go_wp2
        go_ret
        exact F1.out
    · have f1 := fin fun h => absurd h h0
      have F1 := Lib.hid f1
      clear f1 fin
      have hk0 : ¬ (0 : Int) < (k : Int) := by omega
      go_wp2
      go_ret
      exact F1.out
end Go.Proofs.YtbllnkhbahenkaaGreatDoor
/- Small contracts: no claim of its own. -/
namespace Go.Proofs.YtbllnkhbahenkaaGreatDoor
open Go.RowKit
theorem trim_num (A : Option Addr) (n c : Nat) (xs : List Nat) (a : Nat) (w : World) (h : Num w A n c xs a) :
    Calls Tryz.prog 80 #[.slice A n c] w fun e w' => e = .returned (.slice A n n) ∧ w = w' :=
  (trim_any A n c xs w h.toLst).mono fun e w' ⟨k, hk, he, ht, hv, hw⟩ => by
    have e1 := dval_inj _ _ (fun d hd => h.lt d (List.mem_of_mem_take hd)) h.lt ht h.tight hv
    have e2 : (xs.take k).length = xs.length := by rw [e1]
    rw [List.length_take, h.len] at e2
    have e3 : k = n := by have := h.len; omega
    subst e3
    exact ⟨he, hw⟩
theorem Num.caps {w : World} {A : Option Addr} {n c : Nat} {xs : List Nat} {a : Nat} (h : Num w A n c xs a) : Num w A n n xs a :=
  ⟨⟨h.reads, h.len, Nat.le_refl _, h.room, h.lt⟩, h.tight, h.val⟩
theorem Num.caps' {w : World} {A : Option Addr} {n c c' : Nat} {xs : List Nat} {a : Nat} (h : Num w A n c xs a) (h1 : n ≤ c') : Num w A n c' xs a :=
  ⟨⟨h.reads, h.len, h1, h.room, h.lt⟩, h.tight, h.val⟩
theorem Lst.new (w : World) (cs : Array Value) (t : TypeId) (n c : Nat) (xs : List Nat) (h : cs.toList.take n = Dg xs) (hn : xs.length = n) (hc : n ≤ c) (hr : n ≤ 35184372088832) (hl : ∀ d ∈ xs, d < 4294967296) :
    Lst (w.alloc (.cells cs t)) (some ⟨w.heap.size, 0, none⟩) n c xs := by
  refine ⟨⟨by rw [Dg_length, hn]; omega, fun _ => ⟨_, rfl, by simp, fun j u hu => ?_⟩⟩, hn, hc, hr, hl⟩
  have hj : j < xs.length := by
    have := (List.getElem?_eq_some_iff.1 hu).1
    rwa [Dg_length] at this
  rw [← h, List.getElem?_take_of_lt (by omega)] at hu
  have : (⟨w.heap.size, 0, none⟩ : Addr).add j = ⟨w.heap.size, j, none⟩ := by unfold Addr.add; split <;> simp_all
  rw [this, cell_of_row _ _ j cs t (0, 0) (heap_alloc_new w _)]
  simpa using hu
theorem Lst.cut {w : World} {A : Option Addr} {n c : Nat} {xs : List Nat} (h : Lst w A n c xs) {k : Nat} (hk : k ≤ xs.length) : Lst w A k k (xs.take k) :=
  ⟨by rw [← Dg_take]; exact h.reads.take (by rw [← h.len]; exact hk), by rw [List.length_take]; omega, Nat.le_refl _, by have := h.cap; have := h.room; have := h.len; omega, fun d hd => h.lt d (List.mem_of_mem_take hd)⟩
/-- What trim hands back is a number. -/
theorem Trims.gives {A : Option Addr} {n c a : Nat} {xs : List Nat} {W w w' : World} {e : Ending} (h : Lst w A n c xs) (ha : dval xs = a) (hb : Below W.heap.size W w) (ht : Trims A xs w e w') : GivesNum a W e w' := by
  obtain ⟨k, hk, rfl, h1, h2, rfl⟩ := ht
  exact ⟨A, k, k, xs.take k, rfl, ⟨h.cut hk, h1, h2.trans ha⟩, hb⟩
theorem GivesNum.eq {a b : Nat} (h : a = b) {w w' : World} {e : Ending} (g : GivesNum a w e w') : GivesNum b w e w' := h ▸ g
set_option maxRecDepth 100000 in
set_option maxHeartbeats 400000 in
theorem fromUint_any (x : Nat) (hx : x < 18446744073709551616) (w : World) :
    Calls Tryz.prog 59 #[.int .u64 x] w (GivesNum x w) := by
  have HX := Lib.hid hx
  clear hx
  have L : Lst (w.alloc (.cells #[.int .u32 ((x : Int) % 4294967296), .int .u32 ((x : Int) / 4294967296 % 4294967296)] 52)) (some ⟨w.heap.size, 0, none⟩) 2 2 [x % 4294967296, x / 4294967296 % 4294967296] :=
    Lst.new w _ _ 2 2 _ (by simp [Dg]) rfl (by decide) (by decide) (by intro d hd; simp at hd; omega)
  have hv : dval [x % 4294967296, x / 4294967296 % 4294967296] = x := by have := HX.out; simp only [dval]; omega
  have HL := Lib.hid L
  have HV := Lib.hid hv
  clear L hv
  go_enter Tryz.func59, Tryz.ntmps59
  go_wp2_with fail
  refine (trim_any _ 2 2 _ _ HL.out).mono ?_
  rintro e w' ht
  have g := Lib.hid (ht.gives (W := w) HL.out HV.out ((Below.refl _ _).alloc (Nat.le_refl _) _))
  obtain ⟨k, hk, rfl, h1, h2, rfl⟩ := ht
  clear hk h1 h2
  go_wp2
  go_ret
  exact g.out
end Go.Proofs.YtbllnkhbahenkaaGreatDoor
/- A window in a row of digits that the call may write: no claim of its own. -/
namespace Go.Proofs.YtbllnkhbahenkaaGreatDoor
open Go.RowKit
structure Win (w : World) (g : Nat) (pre win post : List Nat) : Prop where
  blk : w.heap[g]? = some (.cells (Dg (pre ++ win ++ post)).toArray 52 (0, 0))
  lt : ∀ d ∈ win, d < 4294967296
section
variable {w w' : World} {g : Nat} {pre win post : List Nat}
theorem Win.size (h : Win w g pre win post) : g < w.heap.size := (Array.getElem?_eq_some_iff.1 h.blk).1
theorem addr_add (g o j : Nat) : (⟨g, o, none⟩ : Addr).add j = ⟨g, o + j, none⟩ := by unfold Addr.add; split <;> simp_all
theorem Win.cell (h : Win w g pre win post) {off : Nat} (ho : pre.length = off) {k : Nat} (hk : k < win.length) : w.cell? ⟨g, off + k, none⟩ = some (.int .u32 ((win.getD k 0 : Nat) : Int)) := by
  rw [cell_of_row w g (off + k) _ _ (0, 0) h.blk]
  simp only [Dg, List.getElem?_toArray, List.getElem?_map]
  rw [List.append_assoc, List.getElem?_append_right (by omega), List.getElem?_append_left (by omega), show off + k - pre.length = k by omega, List.getElem?_eq_getElem hk]
  simp [hk]
theorem Win.frozen (h : Win w g pre win post) (i : Nat) : w.frozen? ⟨g, i, none⟩ = false := by
  have := h.blk
  simp [World.frozen?, this]
theorem Win.drew (h : Win w g pre win post) : Win w.drew g pre win post := ⟨h.blk, h.lt⟩
theorem Win.drewN (h : Win w g pre win post) (n : Nat) : Win (w.drewN n) g pre win post := ⟨h.blk, h.lt⟩
theorem Win.set (h : Win w g pre win post) {off : Nat} (ho : pre.length = off) {k : Nat} (hk : k < win.length) (d : Nat) (hd : d < 4294967296) :
    Win (w.setCell ⟨g, off + k, none⟩ (.int .u32 (d : Int))) g pre (win.set k d) post := by
  refine ⟨?_, lt_set h.lt k d hd⟩
  have := h.blk
  simp [World.setCell, Array.getElem?_modify, this, Dg, List.map_set]
  rw [List.set_append_right _ _ (by simp; omega), List.set_append_left _ _ (by simp; omega)]
  simp [← ho]
theorem grown_set (w : World) (g o : Nat) (u : Value) : w.grownBy (w.setCell ⟨g, o, none⟩ u) (some g) :=
  ⟨rfl, rfl, rfl, by simp [World.setCell], fun k _ hk => Below.heap_setCell _ _ _ _ (by rintro rfl; exact hk rfl)⟩
theorem grown_drew (w : World) (r : Option Nat) : w.grownBy w.drew r := ⟨rfl, rfl, rfl, Nat.le_refl _, fun _ _ _ => rfl⟩
theorem grown_drewN (w : World) (r : Option Nat) (n : Nat) : w.grownBy (w.drewN n) r := ⟨rfl, rfl, rfl, Nat.le_refl _, fun _ _ _ => rfl⟩
theorem grown_trans {a b c : World} {r : Option Nat} (h : a.grownBy b r) (k : b.grownBy c r) : a.grownBy c r :=
  ⟨k.os.trans h.os, k.tape.trans h.tape, k.output.trans h.output, Nat.le_trans h.size k.size, fun i hi hne => (k.block i (Nat.lt_of_lt_of_le hi h.size) hne).trans (h.block i hi hne)⟩
theorem grown_below {a b : World} {g B : Nat} (h : a.grownBy b (some g)) (hg : B ≤ g) (hB : B ≤ a.heap.size) : Below B a b :=
  ⟨h.os, h.tape, h.output, h.size, fun k hk => h.block k (by omega) (by intro e; injection e with e; omega)⟩
/-- A list that lies elsewhere stays. -/
theorem Lst.off {A : Option Addr} {n c : Nat} {xs : List Nat} (h : Lst w A n c xs) (hg : w.grownBy w' (some g)) (hne : 0 < n → ∀ ad, A = some ad → ad.block ≠ g) : Lst w' A n c xs := by
  refine ⟨⟨h.reads.1, fun hn => ?_⟩, h.len, h.cap, h.room, h.lt⟩
  obtain ⟨ad, e, hb, hc⟩ := h.reads.2 hn
  refine ⟨ad, e, Nat.lt_of_lt_of_le hb hg.size, fun j u hu => ?_⟩
  rw [World.cell?_of_block (w := w)]
  · exact hc j u hu
  · rw [block_of_add]
    exact hg.block _ hb (by intro e'; injection e' with e'; exact hne hn ad e e')
theorem Lst.ne {A : Option Addr} {n c : Nat} {xs : List Nat} (h : Lst w A n c xs) (hg : w.heap.size ≤ g) : 0 < n → ∀ ad, A = some ad → ad.block ≠ g := fun hn ad e => by
  obtain ⟨ad', e', hb, _⟩ := h.at_ hn
  rw [e'] at e
  injection e with e
  subst e
  omega
theorem Win.off {g' : Nat} (h : Win w g pre win post) (hg : w.grownBy w' (some g')) (hne : g ≠ g') : Win w' g pre win post :=
  ⟨(hg.block g h.size (by intro e; injection e with e; exact hne e)).trans h.blk, h.lt⟩
theorem Win.keep (h : Win w g pre win post) (hb : Below w.heap.size w w') : Win w' g pre win post := ⟨(hb.block g h.size).trans h.blk, h.lt⟩
/-- The row as a list that reads. -/
theorem Win.lst (h : Win w g pre win post) {off c : Nat} (ho : pre.length = off) (hc : win.length ≤ c) (hr : win.length ≤ 35184372088832) : Lst w (some ⟨g, off, none⟩) win.length c win := by
  refine ⟨⟨by rw [Dg_length]; omega, fun _ => ⟨_, rfl, h.size, fun j u hu => ?_⟩⟩, rfl, hc, hr, h.lt⟩
  have hj : j < win.length := by
    have := (List.getElem?_eq_some_iff.1 hu).1
    rwa [Dg_length] at this
  rw [addr_add, h.cell ho hj, ← hu]
  simp [Dg, hj]
end
end Go.Proofs.YtbllnkhbahenkaaGreatDoor
/- Rows that the call has made, as windows: no claim of its own. -/
namespace Go.Proofs.YtbllnkhbahenkaaGreatDoor
open Go.RowKit
theorem infoU32 : (Tryz.prog.info? 52).map (fun i => (i.zero, i.size, i.bytes)) = some (some (.int .u32 0), 1, 4) := by kernel_rfl
theorem sizeU32 : (Tryz.prog.info? 52).map (·.size) = some 1 := by kernel_rfl
theorem madeU32 (n : Nat) : (madeCells #[Value.int .u32 0] n).toList = Dg (List.replicate n 0) := by
  have h : ∀ i : Nat, (#[Value.int .u32 0] : Array Value)[i % 1]! = .int .u32 0 := fun i => by rw [Nat.mod_one]; rfl
  simp [madeCells, Dg, h, List.map_const']
theorem own_win {w : World} {base g n : Nat} {xs : List Nat} (h : w.ownsRow base 52 1 (.slice (some ⟨g, 0, none⟩) n n) n (Dg xs)) (hl : ∀ d ∈ xs, d < 4294967296) : Win w g [] xs [] := by
  refine ⟨?_, hl⟩
  rcases h.2 with ⟨h1, _⟩ | ⟨g', cap, cur, h1, _, hh, _, _, hs, ht⟩
  · cases h1
  · injection h1 with h1 h2 h3
    injection h1 with h1
    injection h1 with h1
    subst h1 h3
    have hc : cur = (Dg xs).toArray := by
      rw [List.take_of_length_le (by simp [hs])] at ht
      rw [← ht]
    rw [hh, hc]
    simp
theorem made_win {w : World} {base g n : Nat} (h : w.ownsRow base 52 1 (.slice (some ⟨g, 0, none⟩) n n) n (madeCells #[Value.int .u32 0] n).toList) : Win w g [] (List.replicate n 0) [] := by
  rw [madeU32] at h
  exact own_win h (by intro d hd; have := (List.mem_replicate.1 hd).2; omega)
theorem split3 (row : List Nat) (i l : Nat) : row.take i ++ (row.drop i).take l ++ row.drop (i + l) = row := by
  rw [List.append_assoc, ← List.drop_drop, List.take_append_drop, List.take_append_drop]
theorem Win.part {w : World} {g : Nat} {row : List Nat} (h : Win w g [] row []) (i l : Nat) : Win w g (row.take i) ((row.drop i).take l) (row.drop (i + l)) :=
  ⟨by rw [split3]; simpa using h.blk, fun d hd => h.lt d (List.mem_of_mem_drop (List.mem_of_mem_take hd))⟩
theorem Win.join {w w' : World} {g : Nat} {row win : List Nat} {i l : Nat} (h : Win w g [] row []) (k : Win w' g (row.take i) win (row.drop (i + l))) : Win w' g [] (row.take i ++ win ++ row.drop (i + l)) [] :=
  ⟨by simpa using k.blk, fun d hd => by
    rcases List.mem_append.1 hd with hd | hd
    · rcases List.mem_append.1 hd with hd | hd
      · exact h.lt d (List.mem_of_mem_take hd)
      · exact k.lt d hd
    · exact h.lt d (List.mem_of_mem_drop hd)⟩
theorem dval_part (row win : List Nat) (i l : Nat) (h : i + l ≤ row.length) (hl : win.length = l) :
    dval (row.take i ++ win ++ row.drop (i + l)) + 4294967296 ^ i * dval ((row.drop i).take l) = dval row + 4294967296 ^ i * dval win := by
  have e := congrArg dval (split3 row i l)
  rw [dval_append, dval_append] at e
  rw [dval_append, dval_append, ← e]
  have h1 : (List.take i row).length = i := by simp; omega
  have h2 : (List.take i row ++ win).length = i + l := by simp; omega
  have h3 : (List.take i row ++ List.take l (List.drop i row)).length = i + l := by simp; omega
  rw [h1, h2, h3]
  omega
end Go.Proofs.YtbllnkhbahenkaaGreatDoor
