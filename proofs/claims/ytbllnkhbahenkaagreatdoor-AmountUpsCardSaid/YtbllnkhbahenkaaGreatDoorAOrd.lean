/- SortL, ACmp, ACmpO, AOrd, joined: no claim of its own. -/
import Derived.Shelf.SlSortCmp.NoneTotal
import Derived.Test.YtbllnkhbahenkaaGreatDoorBase
import Derived.Test.YtbllnkhbahenkaaGreatDoorAF
import Derived.Deep.RegionHeld3
import Derived.BigQuiet
import Derived.Laws.EntriesVeiled
namespace Go.Proofs.YtbllnkhbahenkaaGreatDoor
open Go.Shelf
def sortL_ren : Go.Shelf.Ren := ⟨fun | 6 => 102 | 15 => 122 | 14 => 121 | 28 => 111 | 29 => 149 | 20 => 141 | 21 => 142 | 22 => 143 | 23 => 144 | 24 => 145 | 25 => 146 | 26 => 147 | 27 => 148 | 46 => 160 | 47 => 161 | 48 => 162 | 49 => 163 | 50 => 164 | 57 => 168 | n => n, fun | 22 => 84 | 24 => 3 | 25 => 111 | 3 => 3 | 39 => 104 | 0 => 0 | 53 => 52 | 55 => 74 | 4 => 4 | 46 => 147 | 45 => 146 | 50 => 151 | 5 => 5 | 9 => 9 | 66 => 157 | 70 => 161 | 76 => 163 | 77 => 164 | n => n, fun | n => n⟩
theorem sortL : Go.Proofs.SlLaysF.n6 Tryz.prog sortL_ren := {
  mixed := by kernel_rfl
  f6 := ⟨Tryz.f102.name, by decide, Tryz.func102.trans (congrArg some (by kernel_rfl))⟩
  f14 := ⟨Tryz.f121.name, by decide, Tryz.func121.trans (congrArg some (by kernel_rfl))⟩
  f15 := Tryz.func122.trans (congrArg some (by kernel_rfl))
  f20 := ⟨Tryz.f141.name, by decide, Tryz.func141.trans (congrArg some (by kernel_rfl))⟩
  f21 := ⟨Tryz.f142.name, by decide, Tryz.func142.trans (congrArg some (by kernel_rfl))⟩
  f22 := ⟨Tryz.f143.name, by decide, Tryz.func143.trans (congrArg some (by kernel_rfl))⟩
  f23 := ⟨Tryz.f144.name, by decide, Tryz.func144.trans (congrArg some (by kernel_rfl))⟩
  f24 := ⟨Tryz.f145.name, by decide, Tryz.func145.trans (congrArg some (by kernel_rfl))⟩
  f25 := ⟨Tryz.f146.name, by decide, Tryz.func146.trans (congrArg some (by kernel_rfl))⟩
  f26 := ⟨Tryz.f147.name, by decide, Tryz.func147.trans (congrArg some (by kernel_rfl))⟩
  f27 := ⟨Tryz.f148.name, by decide, Tryz.func148.trans (congrArg some (by kernel_rfl))⟩
  f28 := Tryz.func111.trans (congrArg some (by kernel_rfl))
  f29 := Tryz.func149.trans (congrArg some (by kernel_rfl))
  f46 := ⟨Tryz.f160.name, by decide, Tryz.func160.trans (congrArg some (by kernel_rfl))⟩
  f47 := Tryz.func161.trans (congrArg some (by kernel_rfl))
  f48 := Tryz.func162.trans (congrArg some (by kernel_rfl))
  f49 := ⟨Tryz.f163.name, by decide, Tryz.func163.trans (congrArg some (by kernel_rfl))⟩
  f50 := ⟨Tryz.f164.name, by decide, Tryz.func164.trans (congrArg some (by kernel_rfl))⟩
  f57 := ⟨Tryz.f168.name, by decide, Tryz.func168.trans (congrArg some (by kernel_rfl))⟩
  t0 := Tryz.underlying0
  a0 := Tryz.isAgg0
  z0 := Tryz.sizeOf0
  v0 := Tryz.zeroValue0
  t3 := Tryz.underlying3
  a3 := Tryz.isAgg3
  z3 := Tryz.sizeOf3
  v3 := Tryz.zeroValue3
  t4 := Tryz.underlying4
  a4 := Tryz.isAgg4
  z4 := Tryz.sizeOf4
  v4 := Tryz.zeroValue4
  t5 := Tryz.underlying5
  a5 := Tryz.isAgg5
  z5 := Tryz.sizeOf5
  v5 := Tryz.zeroValue5
  t9 := Tryz.underlying9
  a9 := Tryz.isAgg9
  z9 := Tryz.sizeOf9
  v9 := Tryz.zeroValue9
  t22 := Tryz.underlying84
  a22 := Tryz.isAgg84
  z22 := Tryz.sizeOf84
  v22 := Tryz.zeroValue84
  a24 := Tryz.isAgg3
  z24 := Tryz.sizeOf3
  t25 := Tryz.underlying111
  a25 := Tryz.isAgg111
  z25 := Tryz.sizeOf111
  v25 := Tryz.zeroValue111
  t39 := Tryz.underlying104
  a39 := Tryz.isAgg104
  z39 := Tryz.sizeOf104
  v39 := Tryz.zeroValue104
  t45 := Tryz.underlying146
  a45 := Tryz.isAgg146
  z45 := Tryz.sizeOf146
  v45 := Tryz.zeroValue146
  t46 := Tryz.underlying147
  a46 := Tryz.isAgg147
  z46 := Tryz.sizeOf147
  v46 := Tryz.zeroValue147
  t50 := Tryz.underlying151
  a50 := Tryz.isAgg151
  z50 := Tryz.sizeOf151
  v50 := Tryz.zeroValue151
  t53 := Tryz.underlying52
  a53 := Tryz.isAgg52
  z53 := Tryz.sizeOf52
  v53 := Tryz.zeroValue52
  t55 := Tryz.underlying74
  a55 := Tryz.isAgg74
  z55 := Tryz.sizeOf74
  v55 := Tryz.zeroValue74
  t66 := Tryz.underlying157
  a66 := Tryz.isAgg157
  z66 := Tryz.sizeOf157
  v66 := Tryz.zeroValue157
  t70 := Tryz.underlying161
  a70 := Tryz.isAgg161
  z70 := Tryz.sizeOf161
  v70 := Tryz.zeroValue161
  t76 := Tryz.underlying163
  a76 := Tryz.isAgg163
  z76 := Tryz.sizeOf163
  v76 := Tryz.zeroValue163
  t77 := Tryz.underlying164
  a77 := Tryz.isAgg164
  z77 := Tryz.sizeOf164
  v77 := Tryz.zeroValue164 }
end Go.Proofs.YtbllnkhbahenkaaGreatDoor
namespace Go.Proofs.YtbllnkhbahenkaaGreatDoor
open Go.RowKit Go.Shelf Go.Lib Go.Sort MA
/-- What the closures have captured. -/
structure Cx (w : World) (B : Nat) (A : Option Addr) (n c : Nat) (ws : List Int) (t W : Nat) : Prop where
  bt : Blk w B [.int .i64 t] 2
  bw : Blk w (B + 1) [.slice A n c] 55
  bs : Blk w (B + 2) [.int .i64 W] 2
  reads : Reads w B 1 A n (ws.map (Value.int .i64))
  len : ws.length = n
  ok : ws.all okW = true
section
variable {w w' : World} {B : Nat} {A : Option Addr} {n c : Nat} {ws : List Int} {t W : Nat}
theorem Cx.keep (h : Cx w B A n c ws t W) (hb : Below w.heap.size w w') : Cx w' B A n c ws t W :=
  ⟨h.bt.keep hb, h.bw.keep hb, h.bs.keep hb, h.reads.below (hb.mono (Nat.le_of_lt h.bt.lt)), h.len, h.ok⟩
theorem Cx.drewN (h : Cx w B A n c ws t W) (q : Nat) : Cx (w.drewN q) B A n c ws t W := ⟨h.bt, h.bw, h.bs, h.reads, h.len, h.ok⟩
theorem Cx.keepG (h : Cx w B A n c ws t W) {g : Nat} (hg : w.grownBy w' (some g)) (hB : B + 3 ≤ g) : Cx w' B A n c ws t W :=
  ⟨h.bt.keepG hg (by omega), h.bw.keepG hg (by omega), h.bs.keepG hg (by omega), h.reads.grown hg (Nat.le_of_lt h.bt.lt) (fun k e => by injection e with e; omega), h.len, h.ok⟩
end
set_option maxRecDepth 100000 in
set_option maxHeartbeats 1000000 in
theorem rem_any (i : Nat) (w : World) (B : Nat) (A : Option Addr) (n c : Nat) (ws : List Int) (t W : Nat) (h : Cx w B A n c ws t W) (hi : i < n) (_hn : n ≤ 40) (_hc : n ≤ c) (ht : t ≤ 1000000) (hW : 0 < W) (hW2 : W ≤ 40000000) :
    Calls Tryz.prog 101 #[.int .i64 i, .pointer (some ⟨B, 0, none⟩), .pointer (some ⟨B + 1, 0, none⟩), .pointer (some ⟨B + 2, 0, none⟩)] w fun e w' => e = .returned (.int .i64 (rem t (wN ws) W i : Nat)) ∧ ∃ q, w' = w.drewN q := by
  obtain ⟨ad, u, rfl, hb, hx, hcell⟩ := h.reads.at_ hi
  have hl : i < ws.length := by rw [h.len]; exact hi
  have hwc := wN_cast h.ok hl
  have hwl := wN_le h.ok i
  rw [List.getElem?_map, List.getElem?_eq_getElem hl] at hx
  injection hx with hx
  rw [getD_at hl] at hwc
  rw [← hx, ← hwc] at hcell
  have c0 : w.cell? ⟨B, 0, none⟩ = some (.int .i64 t) := h.bt.cell rfl
  have c1 : w.cell? ⟨B + 1, 0, none⟩ = some (.slice (some ad) n c) := h.bw.cell rfl
  have c2 : w.cell? ⟨B + 2, 0, none⟩ = some (.int .i64 W) := h.bs.cell rfl
  have R : rem t (wN ws) W i = (t * wN ws i) % W := rfl
  rw [R]
  clear hx hwc hb h R u hl
  generalize wN ws i = x at *
  have hp : t * x ≤ 1000000 * 1000000 := Nat.mul_le_mul ht hwl
  have e1 : IntKind.i64.wrap ((t : Int) * (x : Int)) = ((t * x : Nat) : Int) := by rw [show ((t : Int) * (x : Int)) = ((t * x : Nat) : Int) by push_cast; rfl]; exact IntWalk.i64_in _ (by omega)
  generalize t * x = p at *
  have e2 : ((p : Nat) : Int).tmod (W : Int) = ((p % W : Nat) : Int) := by rw [Int.tmod_eq_emod_of_nonneg (by omega)]; rfl
  have e2' : ((p : Nat) : Int) % (W : Int) = ((p % W : Nat) : Int) := rfl
  have hm : p % W < W := Nat.mod_lt _ hW
  have hz : ((W : Int) == 0) = false := beq_eq_false_iff_ne.2 (by omega)
  generalize p % W = m at *
  go_enter Tryz.func101, Tryz.ntmps101
  go_wp2
  go_quiet (fail)
  go_wp2
  go_ret
  exact ⟨rfl, _, rfl⟩
/-- The comparison's answer. -/
def cfo (r : Nat → Nat) (i j : Nat) : Int := or2 (cmp3 (r j) (r i)) (cmp3 i j)
theorem cfo_lt (r : Nat → Nat) (i j : Nat) : decide (cfo r i j < 0) = before r i j := by
  rw [Bool.eq_iff_iff, before_iff, decide_eq_true_eq]
  unfold cfo or2 cmp3
  by_cases h1 : (r j : Int) < r i
  · simp [h1]; omega
  · by_cases h2 : (r i : Int) < r j
    · simp [h1, h2]; omega
    · by_cases h3 : (i : Int) < j
      · simp [h1, h2, h3]; omega
      · by_cases h4 : (j : Int) < i
        · simp [h1, h2, h3, h4]; omega
        · simp [h1, h2, h3, h4]; omega
theorem or_at (W : World) (a b : Int) (g : Nat) (hg : g = W.heap.size) : Calls Tryz.prog 104 #[.slice (some ⟨g, 0, none⟩) 2 2] (W.alloc (.cells #[.int .i64 a, .int .i64 b] 3)) fun e w' => e = .returned (.int .i64 (or2 a b)) ∧ W.alloc (.cells #[.int .i64 a, .int .i64 b] 3) = w' := by
  subst hg
  have H := Blk.new W #[.int .i64 a, .int .i64 b] 3
  exact or_any _ a b _ (H.cell rfl) (H.cell rfl)
end Go.Proofs.YtbllnkhbahenkaaGreatDoor
namespace Go.Proofs.YtbllnkhbahenkaaGreatDoor
open Go.RowKit Go.Shelf Go.Lib Go.Sort MA
/-- The captured variables and the closure that the comparison calls. -/
structure Cf (w : World) (B bf : Nat) (A : Option Addr) (n c : Nat) (ws : List Int) (t W : Nat) : Prop where
  cx : Cx w B A n c ws t W
  fn : Blk w bf [.func (.func 101) #[] #[.pointer (some ⟨B, 0, none⟩), .pointer (some ⟨B + 1, 0, none⟩), .pointer (some ⟨B + 2, 0, none⟩)]] 107
section
variable {w : World} {B bf : Nat} {A : Option Addr} {n c : Nat} {ws : List Int} {t W : Nat}
theorem Cf.drewN (h : Cf w B bf A n c ws t W) (q : Nat) : Cf (w.drewN q) B bf A n c ws t W := ⟨h.cx.drewN q, h.fn⟩
theorem Cf.drew (h : Cf w B bf A n c ws t W) : Cf w.drew B bf A n c ws t W := h.drewN 1
theorem Cf.alloc (h : Cf w B bf A n c ws t W) (o : Obj) : Cf (w.alloc o) B bf A n c ws t W := ⟨h.cx.keep (below_new _ _), h.fn.alloc o⟩
theorem Cf.cell (h : Cf w B bf A n c ws t W) : w.cell? ⟨bf, 0, none⟩ = some (.func (.func 101) #[] #[.pointer (some ⟨B, 0, none⟩), .pointer (some ⟨B + 1, 0, none⟩), .pointer (some ⟨B + 2, 0, none⟩)]) := h.fn.cell rfl
end
set_option maxRecDepth 100000 in
set_option maxHeartbeats 1000000 in
theorem cmpO_any (i j : Nat) (w : World) (B bf : Nat) (A : Option Addr) (n c : Nat) (ws : List Int) (t W : Nat) (h : Cf w B bf A n c ws t W)
    (hi : i < n) (hj : j < n) (hn : n ≤ 40) (hc : n ≤ c) (ht : t ≤ 1000000) (hW : 0 < W) (hW2 : W ≤ 40000000) :
    Calls Tryz.prog 103 #[.int .i64 i, .int .i64 j, .pointer (some ⟨bf, 0, none⟩)] w fun e w' => e = .returned (.int .i64 (cfo (rem t (wN ws) W) i j)) ∧ ∃ q os', w' = grow (w.drewN q) os' := by
  have RI := Lib.hid (fun (W' : World) (k : Cf W' B bf A n c ws t W) => rem_any i W' B A n c ws t W k.cx hi hn hc ht hW hW2)
  have RJ := Lib.hid (fun (W' : World) (k : Cf W' B bf A n c ws t W) => rem_any j W' B A n c ws t W k.cx hj hn hc ht hW hW2)
  have FC := h.drew.cell
  have I := Lib.hid h
  have EQ : Hid (cfo (rem t (wN ws) W) i j = or2 (cmp3 (rem t (wN ws) W j) (rem t (wN ws) W i)) (cmp3 i j)) := Lib.hid rfl
  generalize cfo (rem t (wN ws) W) i j = cf at *
  generalize rem t (wN ws) W i = x at *
  generalize rem t (wN ws) W j = y at *
  clear h
  go_enter Tryz.func103, Tryz.ntmps103
  go_wp2_with fail
  go_region_held3 (fun w' => w'.cell? ⟨bf, 0, none⟩ = some (.func (.func 101) #[] #[.pointer (some ⟨B, 0, none⟩), .pointer (some ⟨B + 1, 0, none⟩), .pointer (some ⟨B + 2, 0, none⟩)])) (first | (with_reducible exact FC) | (with_reducible exact (I.out.drewN _).cell) | (with_reducible exact ((I.out.drewN _).alloc _).cell)) (first | (go_at_call 101; (first | (with_reducible refine (RJ.out _ I.out.drew).mono ?_) | (with_reducible refine (RJ.out _ (I.out.drewN _)).mono ?_) | (with_reducible refine (RI.out _ I.out.drew).mono ?_) | (with_reducible refine (RI.out _ (I.out.drewN _)).mono ?_)); rintro e w1 ⟨rfl, q1, rfl⟩) | (go_at_call 105; refine (cmp64_any _ _ _).mono ?_; rintro e w1 ⟨rfl, rfl⟩) | (go_at_call 106; refine (cmpInt_any _ _ _).mono ?_; rintro e w1 ⟨rfl, rfl⟩) | (go_at_call 104; refine (or_at _ _ _ _ rfl).mono ?_; rintro e w1 ⟨rfl, rfl⟩))
  go_wp2
  go_ret
  exact ⟨by rw [EQ.out]; rfl, _, _, alloc_eq_grow _ _⟩
end Go.Proofs.YtbllnkhbahenkaaGreatDoor
namespace Go.Proofs.YtbllnkhbahenkaaGreatDoor
open Go.RowKit Go.Shelf Go.Sort MA
theorem grownBy_sortW {α : Type} [Inhabited α] (enc : α → Value) {w : World} {g off n : Nat} {os : Array Obj} (d : Array α) : w.grownBy (sortWorld enc w g off n d os) (some g) := by
  unfold sortWorld
  refine ⟨rfl, rfl, rfl, by simp, fun k hk hne => ?_⟩
  rw [heap_grow_old _ _ (by simpa using hk)]
  have : g ≠ k := fun e => hne (by rw [e])
  simp [putRow, mapBlock, Sort.ahead, Array.getElem?_modify, this]
theorem heap_sortW {α : Type} [Inhabited α] (enc : α → Value) {w : World} {g n : Nat} {os : Array Obj} {cs : List Value} {t : TypeId} (d : Array α) (h : Blk w g cs t) (hs : cs.length = d.size) : Blk (sortWorld enc w g 0 n d os) g (d.toList.map enc) t := by
  have hb : w.heap[g]? = some (.cells cs.toArray t (0, 0)) := h
  unfold Blk sortWorld
  rw [heap_grow_old _ _ (by simpa using h.lt)]
  have e : putCells enc 0 d cs.toArray = (d.toList.map enc).toArray := by
    apply Array.ext_getElem?
    intro i
    by_cases hi : i < d.size
    · simp [putCells, hi, show i < cs.length by omega]
    · rw [Array.getElem?_eq_none (by simp [putCells]; omega), Array.getElem?_eq_none (by simp; omega)]
  rw [← e]
  simp [putRow, mapBlock, Sort.ahead, Array.getElem?_modify, hb, onCells]
/-- An index as a value. -/
def encF (n : Nat) (i : Fin n) : Value := .int .i64 (i.val : Int)
theorem swo_before (r : Nat → Nat) (n : Nat) : SWO (ltOf fun x y : Fin n => cfo r x.val y.val) where
  irrefl x := by unfold ltOf; rw [cfo_lt]; exact before_irrefl r _
  trans x y z h1 h2 := by unfold ltOf at *; rw [cfo_lt] at *; exact before_trans h1 h2
  ntrans x y z h1 h2 := by
    unfold ltOf at *; rw [cfo_lt] at *
    rw [Bool.eq_false_iff, ne_eq, before_iff] at *
    omega
theorem lt_before (r : Nat → Nat) (n : Nat) (x y : Fin n) : ltOf (fun x y : Fin n => cfo r x.val y.val) x y = before r x.val y.val := cfo_lt r _ _
/-- The order that the sort makes. -/
def ordOf (r : Nat → Nat) (n : Nat) : List Nat := ((List.finRange n).mergeSort fun x y => !before r y.val x.val).map (·.val)
theorem ordOf_ord (r : Nat → Nat) (n : Nat) : Ord r n (ordOf r n) := by
  unfold ordOf
  have hp := List.mergeSort_perm (List.finRange n) fun x y : Fin n => !before r y.val x.val
  have hs := List.pairwise_mergeSort (le := fun x y : Fin n => !before r y.val x.val) (fun a b c h1 h2 => by
    simp only [Bool.not_eq_true', Bool.eq_false_iff, ne_eq, before_iff] at *; omega) (fun a b => by
    rw [Bool.or_eq_true]
    by_cases e : before r b.val a.val = true
    · right; simp [before_asymm e]
    · left; simp [e]) (List.finRange n)
  generalize ((List.finRange n).mergeSort fun x y => !before r y.val x.val) = s at *
  have hn : s.Pairwise (· ≠ ·) := hp.nodup_iff.2 (List.nodup_finRange n)
  refine ⟨?_, ?_⟩
  · refine (hp.map _).trans ?_
    have : (List.finRange n).map (·.val) = List.range n := by
      apply List.ext_getElem
      · simp
      · intro i h1 h2; simp
    rw [this]
  · rw [List.pairwise_map]
    refine (List.Pairwise.and hs hn).imp ?_
    rintro a b ⟨h1, h2⟩
    rcases before_total (r := r) (fun e => h2 (Fin.ext e) : a.val ≠ b.val) with h | h
    · exact h
    · simp [h] at h1
/-- What byRemainder hands back. -/
def GivesOrd (r : Nat → Nat) (n : Nat) (w : World) (e : Ending) (w' : World) : Prop :=
  ∃ (g : Nat) (s : List Nat), e = .returned (.slice (some ⟨g, 0, none⟩) n n) ∧ Ord r n s ∧ Blk w' g (s.map fun i : Nat => Value.int .i64 (i : Int)) 3 ∧ w.heap.size ≤ g ∧ Below w.heap.size w w'
/-- What holds while the indices are laid. -/
structure Fi (w wr : World) (B n k : Nat) (A : Option Addr) (c : Nat) (ws : List Int) (t W : Nat) : Prop where
  cx : Cx wr B A n c ws t W
  arr : Blk wr (B + 3) (F (fun i => if i < k then (i : Int) else 0) n) 3
  bel : Below w.heap.size w wr
  hB : w.heap.size = B
theorem Fi.store {w wr : World} {B n k : Nat} {A : Option Addr} {c : Nat} {ws : List Int} {t W : Nat} (h : Fi w wr B n k A c ws t W) : Fi w (wr.setCell ⟨B + 3, k, none⟩ (.int .i64 (k : Int))) B n (k + 1) A c ws t W := by
  refine ⟨h.cx.keepG (grown_set _ _ _ _) (Nat.le_refl _), ?_, h.bel.setCell (p := ⟨B + 3, k, none⟩) (by have := h.hB; show w.heap.size ≤ B + 3; omega) _, h.hB⟩
  have := h.arr.set k (.int .i64 (k : Int))
  rwa [F_set _ (fun i => if i < k + 1 then (i : Int) else 0) (k : Int) (fun i hi => by
    by_cases e : i = k
    · subst e; simp
    · rw [if_neg e]
      by_cases h1 : i < k
      · rw [if_pos h1, if_pos (by omega)]
      · rw [if_neg h1, if_neg (by omega)])] at this
theorem infoInt : (Tryz.prog.info? 3).map (fun i => (i.zero, i.size, i.bytes)) = some (some (.int .i64 0), 1, 8) := by kernel_rfl
theorem Blk.to {w : World} {b : Nat} {cs cs' : List Value} {t : TypeId} (h : Blk w b cs t) (e : cs = cs') : Blk w b cs' t := e ▸ h
theorem Blk.of_own {w : World} {B g n : Nat} {e : TypeId} {xs : List Value} (h : w.ownsRow B e 1 (.slice (some ⟨g, 0, none⟩) n n) n xs) : Blk w g xs e := by
  rcases h.2 with ⟨e, _⟩ | ⟨g', cap, cur, e, hB, hh, _, _, hs, ht⟩
  · cases e
  · cases e
    unfold Blk
    rw [hh, ← ht, List.take_of_length_le (by simp [hs])]
theorem zeros (n : Nat) : (madeCells (Value.int .i64 0).cells (n * 1)).toList = F (fun _ => 0) n := by
  show (madeCells #[Value.int .i64 0] (n * 1)).toList = _
  rw [toList_madeCells_one, Nat.mul_one]
  unfold F
  apply List.ext_getElem
  · simp
  · intro i h1 h2; simp
theorem Cx.new (w : World) {A : Option Addr} {n c : Nat} {ws : List Int} (h : Wts w A n c ws) (hok : ws.all okW = true) (t W : Nat) :
    Cx (((w.alloc (.cells #[.int .i64 t] 2)).alloc (.cells #[.slice A n c] 55)).alloc (.cells #[.int .i64 W] 2)) w.heap.size A n c ws t W := by
  refine ⟨((Blk.new w #[.int .i64 t] 2).alloc _).alloc _, ?_, ?_, ((h.reads.alloc (Nat.le_refl _) _).alloc (by simp) _).alloc (by simp; omega) _, h.len, hok⟩
  · have := (Blk.new (w.alloc (.cells #[.int .i64 t] 2)) #[.slice A n c] 55).alloc (.cells #[.int .i64 W] 2)
    rwa [show (w.alloc (.cells #[.int .i64 t] 2)).heap.size = w.heap.size + 1 by simp] at this
  · have := Blk.new ((w.alloc (.cells #[.int .i64 t] 2)).alloc (.cells #[.slice A n c] 55)) #[.int .i64 W] 2
    rwa [show ((w.alloc (.cells #[.int .i64 t] 2)).alloc (.cells #[.slice A n c] 55)).heap.size = w.heap.size + 2 by simp] at this
theorem Cf.keepG {w w' : World} {B bf : Nat} {A : Option Addr} {n c : Nat} {ws : List Int} {t W : Nat} (h : Cf w B bf A n c ws t W) {g : Nat} (hg : w.grownBy w' (some g)) (hB : B + 3 ≤ g) (hne : bf ≠ g) : Cf w' B bf A n c ws t W := ⟨h.cx.keepG hg hB, h.fn.keepG hg hne⟩
set_option maxRecDepth 100000 in
set_option maxHeartbeats 1000000 in
theorem sort_any (w : World) (B bf : Nat) (A : Option Addr) (n c : Nat) (ws : List Int) (t W : Nat) (h : Cf w B bf A n c ws t W) (ha : Blk w (B + 3) (F (fun i => (i : Int)) n) 3) (hne : bf ≠ B + 3) (hn0 : 0 < n) (hn : n ≤ 40) (hc : n ≤ c) (ht : t ≤ 1000000) (hW : 0 < W) (hW2 : W ≤ 40000000) :
    Calls Tryz.prog 102 #[.slice (some ⟨B + 3, 0, none⟩) n n, .func (.func 103) #[] #[.pointer (some ⟨bf, 0, none⟩)]] w fun e w' =>
      e = .returned (.tuple #[]) ∧ Blk w' (B + 3) ((ordOf (rem t (wN ws) W) n).map fun i : Nat => Value.int .i64 (i : Int)) 3 ∧ w.grownBy w' (some (B + 3)) := by
  letI : Inhabited (Fin n) := ⟨⟨0, hn0⟩⟩
  have hd : (List.finRange n).toArray.size = n := by simp
  have eg : ∀ args w, (callFunc 103 args).run Tryz.prog w = .ok (.enter 103 args) w := enters_of Tryz.func103 (by kernel_rfl) rfl
  have hcmp : CmpLays1 Tryz.prog 103 #[.pointer (some ⟨bf, 0, none⟩)] (encF n) (fun x y : Fin n => cfo (rem t (wN ws) W) x.val y.val) (B + 3) 0 (List.finRange n).toArray.size w :=
    fun m os dk _ x y => cmpO_any x.val y.val _ B bf A n c ws t W (h.keepG (grownBy_sortW (encF n) dk) (Nat.le_refl _) hne) x.2 y.2 hn hc ht hW hW2
  have hH : Holds (encF n) w (B + 3) 0 (List.finRange n).toArray := by
    intro j hj
    have hj' : j < n := by simpa using hj
    refine ⟨?_, ha.frozen _⟩
    rw [Nat.zero_add, ha.cell (F_at _ hj')]
    simp [encF, hj']
  have hS := Any.slices_SortFunc_total sortL (encF n) (fun _ => rfl) (fun x y : Fin n => cfo (rem t (wN ws) W) x.val y.val) (swo_before _ n) 103 #[.pointer (some ⟨bf, 0, none⟩)] (B + 3) 0 n (List.finRange n).toArray w eg hcmp hH ha.lt (by rw [hd]; omega)
    (fun x y h1 h2 => by
      rw [lt_before] at h1 h2
      by_cases e : x.val = y.val
      · exact Fin.ext e
      · rcases before_total (r := rem t (wN ws) W) e with k | k
        · rw [k] at h1; cases h1
        · rw [k] at h2; cases h2)
  rw [hd] at hS
  refine Calls.mono hS ?_
  rintro e w' ⟨rfl, m, os, rfl⟩
  have e1 : (fun x y : Fin n => !ltOf (fun x y : Fin n => cfo (rem t (wN ws) W) x.val y.val) y x) = fun x y : Fin n => !before (rem t (wN ws) W) y.val x.val := by
    funext x y; rw [lt_before]
  refine ⟨rfl, ?_, grownBy_sortW (encF n) _⟩
  have := heap_sortW (encF n) (n := m) (os := os) ((List.finRange n).mergeSort fun x y : Fin n => !ltOf (fun x y : Fin n => cfo (rem t (wN ws) W) x.val y.val) y x).toArray ha (by simp [F_len])
  rw [e1] at this ⊢
  have e2 : ((List.finRange n).mergeSort fun x y : Fin n => !before (rem t (wN ws) W) y.val x.val).toArray.toList.map (encF n) = (ordOf (rem t (wN ws) W) n).map fun i : Nat => Value.int .i64 (i : Int) := by
    unfold ordOf
    rw [List.map_map]
    rfl
  rw [e2] at this
  exact this
set_option maxRecDepth 100000 in
set_option maxHeartbeats 2000000 in
theorem byRemainder_any (A : Option Addr) (n c : Nat) (ws : List Int) (t W : Nat) (w : World) (h : Wts w A n c ws) (hok : ws.all okW = true) (hn0 : 0 < n) (ht : t ≤ 1000000) (hW : 0 < W) (hW2 : W ≤ 40000000) :
    Calls Tryz.prog 68 #[.int .i64 t, .slice A n c, .int .i64 W] w (GivesOrd (rem t (wN ws) W) n w) := by
  have hc := h.cap
  have hn := h.fewW
  have hmf : ∀ (fn : Fn) (first cap : Array Value) (w : World), (Instr.makeFunc fn first cap).run Tryz.prog w = .ok (.func fn first cap) w := fun _ _ _ _ => rfl
  obtain ⟨i0, hi0, hz0, hz1, hz2⟩ := info_parts infoInt
  have CX := Cx.new w h hok t W
  have B3 : Below w.heap.size w (((w.alloc (.cells #[.int .i64 t] 2)).alloc (.cells #[.slice A n c] 55)).alloc (.cells #[.int .i64 W] 2)) := (((Below.refl _ _).alloc (Nat.le_refl _) _).alloc (by simp) _).alloc (by simp; omega) _
  obtain ⟨w4, hmk, hown, hg⟩ := run_makeSlice_full (P := Tryz.prog) (((w.alloc (.cells #[.int .i64 t] 2)).alloc (.cells #[.slice A n c] 55)).alloc (.cells #[.int .i64 W] 2)) w.heap.size 84 3 i0 (.int .i64 0) 1 Tryz.underlying84 hi0 hz0 hz1 .i64 .i64 n (by omega) (by rw [hz2]; omega) (by unfold maxLen; omega) (by simp; omega)
  have I0 : Hid (Fi w w4 w.heap.size n 0 A c ws t W) := Lib.hid (by
    refine ⟨CX.keep ((Below.refl _ _).grown hg (Nat.le_refl _) (fun k e => by cases e)), ?_, B3.grown hg B3.size (fun k e => by cases e), rfl⟩
    have := Blk.of_own hown
    rw [zeros] at this
    rw [show (((w.alloc (.cells #[.int .i64 t] 2)).alloc (.cells #[.slice A n c] 55)).alloc (.cells #[.int .i64 W] 2)).heap.size = w.heap.size + 3 by simp] at this
    rw [F_congr (g := fun _ => 0) (fun i _ => by simp)]
    exact this)
  rw [show (((w.alloc (.cells #[.int .i64 t] 2)).alloc (.cells #[.slice A n c] 55)).alloc (.cells #[.int .i64 W] 2)).heap.size = w.heap.size + 3 by simp] at hmk
  clear h hok CX B3 hown hg
  obtain ⟨B, hB⟩ : ∃ B, w.heap.size = B := ⟨_, rfl⟩
  rw [hB] at I0 hmk
  have c4 : w4.cell? ⟨B + 1, 0, none⟩ = some (.slice A n c) := I0.out.cx.bw.cell rfl
  go_enter Tryz.func68, Tryz.ntmps68
  go_wp2
  go_loopw [15] (fun i wr => ∃ k : Nat, k ≤ n ∧ i = .int .i64 k ∧ Hid (Fi w wr B n k A c ws t W)) (fun i _ => n - (intOf i).toNat)
  case atStart => exact ⟨0, by omega, rfl, I0⟩
  case round =>
    clear I0 c4 hmk
    obtain ⟨k, hk, rfl, hi⟩ := hrel
    by_cases hlt : k < n
    · have d1 := hi.out.arr.cell (F_at _ hlt)
      have f1 := hi.out.arr.frozen k
      have I1 := Lib.hid hi.out.store
      rw [if_neg (Nat.lt_irrefl _)] at d1
      clear hi
      go_wp2
      go_roundw
      case rel => exact ⟨k + 1, by omega, by go_num, I1⟩
      case measure => simp [intOf]; omega
    · obtain rfl : k = n := by omega
      have hsz := hi.out.bel.size
      have hlt4 := hi.out.arr.lt
      obtain ⟨bf, hbf⟩ : ∃ bf, wr.heap.size = bf := ⟨_, rfl⟩
      have FN := Blk.new wr #[.func (.func 101) #[] #[.pointer (some ⟨B, 0, none⟩), .pointer (some ⟨B + 1, 0, none⟩), .pointer (some ⟨B + 1 + 1, 0, none⟩)]] 107
      rw [hbf] at FN
      have BN := below_new wr (.cells #[.func (.func 101) #[] #[.pointer (some ⟨B, 0, none⟩), .pointer (some ⟨B + 1, 0, none⟩), .pointer (some ⟨B + 1 + 1, 0, none⟩)]] 107)
      have SC := Lib.hid (sort_any _ B bf A k c ws t W ⟨hi.out.cx.keep BN, FN⟩ ((hi.out.arr.keep BN).to (F_congr fun i hi' => by rw [if_pos hi'])) (by omega) hn0 hn hc ht hW hW2)
      have BB := Lib.hid (hi.out.bel.trans (BN.mono hsz))
      clear BN
      clear hi FN
      go_wp2_with fail
      refine SC.out.mono ?_
      rintro e w6 ⟨rfl, hA, hG⟩
      have FF : Hid (GivesOrd (rem t (wN ws) W) k w (.returned (.slice (some ⟨B + 3, 0, none⟩) k k)) w6) := Lib.hid ⟨B + 3, _, rfl, ordOf_ord _ _, hA, by omega, BB.out.grown hG BB.out.size (fun g e => by injection e with e; omega)⟩
      clear hA hG
      go_wp2
      go_ret
      exact FF.out
end Go.Proofs.YtbllnkhbahenkaaGreatDoor
