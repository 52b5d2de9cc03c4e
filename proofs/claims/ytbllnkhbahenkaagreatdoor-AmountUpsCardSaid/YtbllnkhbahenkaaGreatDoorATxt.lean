/- Words for texts: no claim of its own. -/
import Derived.Test.YtbllnkhbahenkaaGreatDoorAF
import Derived.Test.YtbllnkhbahenkaaGreatDoorAMath
import Derived.IntWalk
import Derived.Laws.BytesArg
import Derived.BigRegion
namespace Go.Proofs.YtbllnkhbahenkaaGreatDoor
open Go.RowKit
theorem below_drawn (w : World) : Below w.heap.size w w.drew := (Below.refl _ _).drew
/-- The text of a list of bytes. -/
def str (l : List UInt8) : ByteArray := ⟨l.toArray⟩
theorem str_data (l : List UInt8) : (str l).data.toList = l := by simp [str]
theorem str_size (l : List UInt8) : (str l).size = l.length := by simp [str, ByteArray.size]
theorem bytes_ext (s t : ByteArray) (h : s.data.toList = t.data.toList) : s = t := by
  cases s with
  | mk d =>
    cases t with
    | mk e =>
      have : d = e := Array.toList_inj.1 h
      rw [this]
theorem str_self (s : ByteArray) : str s.data.toList = s := bytes_ext _ _ (str_data _)
theorem append_data (s t : ByteArray) : (s ++ t).data.toList = s.data.toList ++ t.data.toList := by simp
theorem str_append (l m : List UInt8) : str l ++ str m = str (l ++ m) := bytes_ext _ _ (by rw [append_data, str_data, str_data, str_data])
/-- Bytes as values. -/
def Cb (l : List UInt8) : List Value := l.map fun b => Value.int .u8 (b.toNat : Int)
theorem Cb_length (l : List UInt8) : (Cb l).length = l.length := by simp [Cb]
theorem infoByte : (Tryz.prog.info? 5).map (fun i => (i.zero, i.size, i.bytes)) = some (some (.int .u8 0), 1, 1) := by kernel_rfl
/-- The call's own row of bytes. -/
def OwnC (w : World) (B : Nat) (v : Value) (l : List UInt8) : Prop := w.ownsRow B 5 1 v l.length (Cb l)
theorem OwnC.nil (w : World) (B : Nat) : OwnC w B (.slice none 0 0) [] := World.ownsRow_nil _ _ _ _
theorem OwnC.app {w wr w1 : World} {B : Nat} {v v' : Value} {out : List UInt8} {u : Int} {o : Obj} (h : OwnC wr B v out) (hB : Below B w wr) (hs : B ≤ wr.heap.size) (hown : w1.ownsRow B 5 1 v' (out.length + 1) (Cb out ++ [.int .u8 u]))
    {b : UInt8} (hu : u = (b.toNat : Int)) (hg : (wr.alloc o).grownBy w1 v.ownBlock) : OwnC w1 B v' (out ++ [b]) ∧ Below B w w1 := by
  subst hu
  refine ⟨?_, (hB.alloc hs o).grown hg (by simp; omega) (fun k hk => (World.ownsRow.lt h k hk).1)⟩
  unfold OwnC
  simpa [Cb] using hown
/-- The text of a row of bytes. -/
theorem OwnC.text {w : World} {B : Nat} {v : Value} {l : List UInt8} (h : OwnC w B v l) (hl : 0 < l.length) : (convert 80 9 v).run Tryz.prog w = .ok (.string (str l)) w := by
  rcases h.2 with ⟨rfl, h0⟩ | ⟨g, cap, cur, rfl, hg, hh, hc, hm, hsz, ht⟩
  · omega
  · have conv := run_convert_bytes_arg (P := Tryz.prog) w 80 5 Tryz.underlying80 Tryz.underlying5 g 0 l.length cap (l.map fun b => (b.toNat : Int)) (by simp) (fun i hi' => by
      rw [Nat.zero_add, cell_of_row w g i cur _ (0, 0) hh]
      have e : cur.toList[i]? = (Cb l)[i]? := by
        have : (cur.toList.take (l.length * 1))[i]? = (Cb l)[i]? := by rw [ht]
        rw [List.getElem?_take_of_lt (by omega)] at this
        exact this
      rw [Array.getElem?_toList] at e
      rw [e]
      simp [Cb, hi']) 9 Tryz.underlying9
    rw [conv]
    have : strOfNums (l.map fun b => (b.toNat : Int)) = str l := bytes_ext _ _ (by
      rw [strOfNums_data, str_data, List.map_map]
      have : ((fun n : Int => UInt8.ofNat n.toNat) ∘ fun b : UInt8 => (b.toNat : Int)) = id := by funext x; simp
      rw [this, List.map_id])
    rw [this]
theorem ret_i {k : IntKind} {a b : Int} (h : a = b) : Ending.returned (.int k a) = .returned (.int k b) := by rw [h]
theorem ret_s {a b : ByteArray} (h : a = b) : Ending.returned (.string a) = .returned (.string b) := by rw [h]
/-- The text of one byte in a row of its own. -/
theorem byte_at {W : World} {g : Nat} {y : Int} {b : UInt8} (h : W.heap[g]? = some (.cells #[.int .u8 y] 5 (0, 0))) (hb : y = (b.toNat : Int)) : (convert 80 9 (.slice (some ⟨g, 0, none⟩) 1 1)).run Tryz.prog W = .ok (.string (str [b])) W := by
  subst hb
  have h : OwnC W 0 (.slice (some ⟨g, 0, none⟩) 1 1) [b] :=
    ⟨rfl, .inr ⟨g, 1, #[.int .u8 (b.toNat : Int)], rfl, Nat.zero_le _, h, by simp, by simp [maxLen], by simp, by simp [Cb]⟩⟩
  exact h.text (by simp)
theorem fin_a {w w1 : World} {o : Obj} (hb : Below (w.alloc o).drew.heap.size (w.alloc o).drew w1) : Below w.heap.size w w1 := ((below_new w o).drew).trans (hb.mono ((below_new w o).drew).size)
theorem fin_b {w w1 : World} {o : Obj} (hb : Below w.drew.heap.size w.drew w1) : Below w.heap.size w (w1.alloc o) := (((Below.refl w.heap.size w).drew).trans hb).alloc (((Below.refl w.heap.size w).drew).trans hb).size o
end Go.Proofs.YtbllnkhbahenkaaGreatDoor
