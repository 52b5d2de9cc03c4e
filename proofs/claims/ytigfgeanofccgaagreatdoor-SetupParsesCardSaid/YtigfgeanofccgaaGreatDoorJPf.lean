/- UPFmt0, UPFmt1, joined: no claim of its own. -/
import Derived.Test.YtigfgeanofccgaaGreatDoorJTab
import Derived.Test.YtigfgeanofccgaaGreatDoorJSh
import Derived.Test.YtigfgeanofccgaaGreatDoorJPc
import Derived.Test.YtigfgeanofccgaaGreatDoorJMu
import Derived.Test.YtigfgeanofccgaaGreatDoorJRk
namespace Go.Proofs.YtigfgeanofccgaaGreatDoor
open Go.RowKit
open MU (Su Cp As)
theorem digI_any (v : Int) (h0 : -9223372036854775808 ≤ v) (h1 : v ≤ 9223372036854775807) (w : World) (ht : Tab w) :
    Calls Tryz.prog 24 #[.int .i64 v] w (Gives (.string (str (MU.num v))) w) := by
  have C := Lib.hid (fmtInt_any v h0 h1 w ht)
  clear ht
  go_enter Tryz.func24, Tryz.ntmps24
  go_wp2_with fail
  refine C.out.mono ?_
  rintro e w1 ⟨rfl, hb⟩
  have B := Lib.hid hb
  clear hb
  go_wp2
  go_ret
  exact ⟨rfl, B.out⟩
theorem digL_any (v : Int) (h0 : -9223372036854775808 ≤ v) (h1 : v ≤ 9223372036854775807) (w : World) (ht : Tab w) :
    Calls Tryz.prog 25 #[.int .i64 v] w (Gives (.string (str (MU.num v))) w) := by
  have C := Lib.hid (fmtInt_any v h0 h1 w ht)
  clear ht
  go_enter Tryz.func25, Tryz.ntmps25
  go_wp2_with fail
  refine C.out.mono ?_
  rintro e w1 ⟨rfl, hb⟩
  have B := Lib.hid hb
  clear hb
  go_wp2
  go_ret
  exact ⟨rfl, B.out⟩
theorem join_W : ∀ ws : List (List UInt8), Lib.join ws [32] = MU.joinW ws
  | [] => rfl
  | [w] => Lib.join_one w [32]
  | w :: v :: r => by
    have ih := join_W (v :: r)
    rw [MU.joinW_cons, ← ih, Lib.join_cons, Lib.join_cons]
    simp [Lib.joinTail]
theorem Only.of_below {b : Nat} {w w' : World} (hb : Below w.heap.size w w') (hlt : b < w.heap.size) : Only b w w' :=
  ⟨hb.mono (Nat.le_of_lt hlt), fun k _o hk _ _ => (hb.block k (Array.getElem?_eq_some_iff.1 hk).1).trans hk⟩
/-- The words in a block of their own. -/
def Wrow (w : World) (b : Nat) (ws : List (List UInt8)) : Prop := w.heap[b]? = some (.cells (ws.map fun x => Value.string (str x)).toArray 9 (0, 0))
/-- What the writing of a line leaves. -/
def Wrt (Bb : Nat) (tx : List UInt8) (w : World) (e : Ending) (w' : World) : Prop := e = .returned (.tuple #[]) ∧ Bld Bb tx w' ∧ Only Bb w w'
set_option maxRecDepth 100000 in
set_option maxHeartbeats 1000000 in
theorem write_any (Bb bk n : Nat) (tx : List UInt8) (ws : List (List UInt8)) (w : World) (h : Bld Bb tx w) (hr : Wrow w bk ws) (hn : ws.length = n) (hs : n ≤ 100) (hl : (MU.joinW ws).length + tx.length ≤ 10000) :
    Calls Tryz.prog 20 #[.slice (some ⟨bk, 0, none⟩) n n, .pointer (some ⟨Bb, 0, none⟩)] w (Wrt Bb (tx ++ MU.joinW ws ++ [10]) w) := by
  have hmap : (ws.map str).map (fun x : ByteArray => x.data.toList) = ws := by
    rw [List.map_map]
    conv => rhs; rw [← List.map_id ws]
    exact List.map_congr_left fun x _ => str_data x
  have JS := join_some bk 0 n (ws.map str) ⟨#[32]⟩ w (fun j x hx => by
      rw [List.getElem?_map] at hx
      obtain ⟨y, hy, rfl⟩ := Option.map_eq_some_iff.1 hx
      rw [Nat.zero_add, cell_of_row _ _ _ _ _ _ hr]
      simp [hy]) (Array.getElem?_eq_some_iff.1 hr).1 (by rw [List.length_map]; omega) (by rw [List.length_map]; omega)
    (by rw [hmap, show (⟨#[32]⟩ : ByteArray).data.toList = [32] from rfl, join_W]; omega)
  rw [hmap, show (⟨#[32]⟩ : ByteArray).data.toList = [32] from rfl, join_W, List.length_map, hn] at JS
  change Calls _ _ _ _ (Gives (.string (str (MU.joinW ws))) w) at JS
  have HJ := Lib.hid JS
  have HB := Lib.hid h
  have hlt := h.lt
  have W1 := Lib.hid (fun w' (hb : Below w.heap.size w w') => writeString_any Bb tx (str (MU.joinW ws)) w' (HB.out.keep hb) (by rw [str_size]; omega) (by have := hb.size; omega))
  have W2 := Lib.hid (fun w' (hb : Bld Bb (tx ++ MU.joinW ws) w') => writeByte_any Bb (tx ++ MU.joinW ws) 10 w' hb (by rw [List.length_append]; omega))
  rw [str_data] at W1
  clear JS hmap hr h hn hs hl
  generalize str (MU.joinW ws) = sj at *
  generalize MU.joinW ws = jw at *
  have ten : ((10 : UInt8).toNat : Int) = 10 := rfl
  rw [ten] at W2
  clear ten
  go_enter Tryz.func20, Tryz.ntmps20
  go_wp2_with fail
  refine HJ.out.mono ?_
  rintro e1 w1 ⟨rfl, hb⟩
  have B1 := Lib.hid hb
  clear hb
  go_wp2_with fail
  refine (W1.out _ B1.out).mono ?_
  rintro e2 w2 ⟨rfl, hbl, hon⟩
  have L2 := Lib.hid hbl
  have O2 := Lib.hid ((Only.of_below B1.out hlt).trans hon)
  clear hbl hon
  go_wp2_with fail
  refine (W2.out _ L2.out).mono ?_
  rintro e3 w3 ⟨rfl, hbl, hon⟩
  have L3 := Lib.hid hbl
  have O3 := Lib.hid (O2.out.trans hon)
  clear hbl hon
  go_wp2
  go_end0
  exact ⟨rfl, L3.out, O3.out⟩
end Go.Proofs.YtigfgeanofccgaaGreatDoor
namespace Go.Proofs.YtigfgeanofccgaaGreatDoor
open Go.RowKit
namespace MU
/-- Lines, each with its line feed. -/
def linesT (ws : List (List (List UInt8))) : List UInt8 := (ws.map joinW).flatMap fun l => l ++ [10]
theorem textS_lines (s : Su) : textS s = linesT (wordsS s) := rfl
theorem linesT_append (a b : List (List (List UInt8))) : linesT (a ++ b) = linesT a ++ linesT b := by unfold linesT; rw [List.map_append, List.flatMap_append]
theorem linesT_one (w : List (List UInt8)) : linesT [w] = joinW w ++ [10] := by simp [linesT]
/-- The lines behind pre, k elements of l being written. -/
def TX {α : Type} (pre : List UInt8) (f : α → List (List UInt8)) (l : List α) (k : Nat) : List UInt8 := pre ++ linesT ((l.take k).map f)
theorem TX_zero {α : Type} (pre : List UInt8) (f : α → List (List UInt8)) (l : List α) : TX pre f l 0 = pre := by simp [TX, linesT]
theorem TX_step {α : Type} {pre : List UInt8} {f : α → List (List UInt8)} {l : List α} {k : Nat} {x : α} (h : l[k]? = some x) : TX pre f l k ++ joinW (f x) ++ [10] = TX pre f l (k + 1) := by
  unfold TX
  rw [List.take_add_one, h]
  simp only [Option.toList, List.map_append, List.map_cons, List.map_nil]
  rw [linesT_append, linesT_one]
  simp
theorem TX_end {α : Type} {pre : List UInt8} {f : α → List (List UInt8)} {l : List α} {k : Nat} (h : l.length ≤ k) : TX pre f l k = pre ++ linesT (l.map f) := by unfold TX; rw [List.take_of_length_le h]
theorem TX_le {α : Type} {pre : List UInt8} {f : α → List (List UInt8)} {l : List α} {k : Nat} {x : α} (h : l[k]? = some x) : (joinW (f x)).length + (TX pre f l k).length ≤ (pre ++ linesT (l.map f)).length := by
  have e := TX_step (pre := pre) (f := f) h
  have e2 : pre ++ linesT (l.map f) = TX pre f l (k + 1) ++ linesT ((l.drop (k + 1)).map f) := by
    unfold TX
    rw [List.append_assoc, ← linesT_append, ← List.map_append, List.take_append_drop]
  rw [e2, ← e]
  simp only [List.length_append]
  omega
end MU
open MU (Su Cp As)
/-- What lies while a text is written. -/
structure Fr (wo : World) (v1 v2 v3 v4 : Value) (Bb : Nat) (tx : List UInt8) (wr : World) : Prop where
  box : TB wr wo.heap.size 27 v1 v2 v3 v4
  bld : Bld Bb tx wr
  below : Below wo.heap.size wo wr
  sep : wo.heap.size < Bb
/-- And the element at hand. -/
structure Fw (wo : World) (v1 v2 v3 v4 : Value) (Bb : Nat) (tx : List UInt8) (bp : Nat) (o : Obj) (wr : World) : Prop where
  fr : Fr wo v1 v2 v3 v4 Bb tx wr
  el : wr.heap[bp]? = some o
  sep : Bb < bp
section
variable {wo wr wr' : World} {v1 v2 v3 v4 : Value} {Bb bp : Nat} {tx tx' : List UInt8} {o : Obj}
theorem Fr.keep (h : Fr wo v1 v2 v3 v4 Bb tx wr) (hb : Below wr.heap.size wr wr') : Fr wo v1 v2 v3 v4 Bb tx wr' :=
  ⟨h.box.keep hb, h.bld.keep hb, h.below.trans (hb.mono h.below.size), h.sep⟩
theorem Fr.wrote (h : Fr wo v1 v2 v3 v4 Bb tx wr) (hb : Bld Bb tx' wr') (ho : Only Bb wr wr') : Fr wo v1 v2 v3 v4 Bb tx' wr' :=
  ⟨(ho.below.block _ h.sep).trans h.box, hb, h.below.trans (ho.below.mono (Nat.le_of_lt h.sep)), h.sep⟩
theorem Fw.keep (h : Fw wo v1 v2 v3 v4 Bb tx bp o wr) (hb : Below wr.heap.size wr wr') : Fw wo v1 v2 v3 v4 Bb tx bp o wr' :=
  ⟨h.fr.keep hb, (hb.block bp (Array.getElem?_eq_some_iff.1 h.el).1).trans h.el, h.sep⟩
theorem Fw.wrote (h : Fw wo v1 v2 v3 v4 Bb tx bp o wr) (hb : Bld Bb tx' wr') (ho : Only Bb wr wr') (hT : ∀ c fz, o ≠ .cells c 5 fz) : Fw wo v1 v2 v3 v4 Bb tx' bp o wr' :=
  ⟨h.fr.wrote hb ho, ho.others bp o h.el (fun e => by have := h.sep; injection e with e; omega) hT, h.sep⟩
theorem Fw.alloc (h : Fw wo v1 v2 v3 v4 Bb tx bp o wr) (x : Obj) : Fw wo v1 v2 v3 v4 Bb tx bp o (wr.alloc x) := h.keep (below_new _ _)
end
end Go.Proofs.YtigfgeanofccgaaGreatDoor
