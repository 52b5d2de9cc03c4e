/- Words for the walks of chapter 4. Plain theorems, no claim of their own. -/
import Derived.Test.YtebfnbnaheolgaaCmp
import Derived.Test.YtebfnbnaheolgaaBase
import Derived.Test.YtebfnbnaheolgaaMathW
import Derived.Laws.BytesArg
import Derived.BigRegion
namespace Go.Proofs.Ytebfnbnaheolgaa
open Go.RowKit
theorem below_new (w : World) (o : Obj) : Below w.heap.size w (w.alloc o) := (Below.refl _ _).alloc (Nat.le_refl _) _
theorem below_drawn (w : World) : Below w.heap.size w w.drew := (Below.refl _ _).drew
/-- The text of a list of bytes. -/
def str (l : List UInt8) : ByteArray := ⟨l.toArray⟩
theorem str_data (l : List UInt8) : (str l).data.toList = l := by simp [str]
theorem str_size (l : List UInt8) : (str l).size = l.length := by simp [str, ByteArray.size]
theorem bytes_ext (s t : ByteArray) (h : s.data.toList = t.data.toList) : s = t := by
  cases s with
  | mk d =>
    cases t with
    | mk e =>
      have : d = e := Array.toList_inj.1 h
      rw [this]
theorem str_self (s : ByteArray) : str s.data.toList = s := bytes_ext _ _ (str_data _)
theorem append_data (s t : ByteArray) : (s ++ t).data.toList = s.data.toList ++ t.data.toList := by simp
theorem str_append (l m : List UInt8) : str l ++ str m = str (l ++ m) := bytes_ext _ _ (by rw [append_data, str_data, str_data, str_data])
/-- Bytes as values. -/
def Cb (l : List UInt8) : List Value := l.map fun b => Value.int .u8 (b.toNat : Int)
theorem Cb_length (l : List UInt8) : (Cb l).length = l.length := by simp [Cb]
theorem infoByte : (Try.prog.info? 5).map (fun i => (i.zero, i.size, i.bytes)) = some (some (.int .u8 0), 1, 1) := by kernel_rfl
/-- The call's own row of bytes. -/
def OwnC (w : World) (B : Nat) (v : Value) (l : List UInt8) : Prop := w.ownsRow B 5 1 v l.length (Cb l)
theorem OwnC.nil (w : World) (B : Nat) : OwnC w B (.slice none 0 0) [] := World.ownsRow_nil _ _ _ _
theorem OwnC.app {w wr w1 : World} {B : Nat} {v v' : Value} {out : List UInt8} {u : Int} {o : Obj} (h : OwnC wr B v out) (hB : Below B w wr) (hs : B ≤ wr.heap.size) (hown : w1.ownsRow B 5 1 v' (out.length + 1) (Cb out ++ [.int .u8 u]))
    {b : UInt8} (hu : u = (b.toNat : Int)) (hg : (wr.alloc o).grownBy w1 v.ownBlock) : OwnC w1 B v' (out ++ [b]) ∧ Below B w w1 := by
  subst hu
  refine ⟨?_, (hB.alloc hs o).grown hg (by simp; omega) (fun k hk => (World.ownsRow.lt h k hk).1)⟩
  unfold OwnC
  simpa [Cb] using hown
/-- The text of a row of bytes. -/
theorem OwnC.text {w : World} {B : Nat} {v : Value} {l : List UInt8} (h : OwnC w B v l) (hl : 0 < l.length) : (convert 52 9 v).run Try.prog w = .ok (.string (str l)) w := by
  rcases h.2 with ⟨rfl, h0⟩ | ⟨g, cap, cur, rfl, hg, hh, hc, hm, hsz, ht⟩
  · omega
  · have conv := run_convert_bytes_arg (P := Try.prog) w 52 5 Try.underlying52 Try.underlying5 g 0 l.length cap (l.map fun b => (b.toNat : Int)) (by simp) (fun i hi' => by
      rw [Nat.zero_add, cell_of_row w g i cur _ (0, 0) hh]
      have e : cur.toList[i]? = (Cb l)[i]? := by
        have : (cur.toList.take (l.length * 1))[i]? = (Cb l)[i]? := by rw [ht]
        rw [List.getElem?_take_of_lt (by omega)] at this
        exact this
      rw [Array.getElem?_toList] at e
      rw [e]
      simp [Cb, hi']) 9 Try.underlying9
    rw [conv]
    have : strOfNums (l.map fun b => (b.toNat : Int)) = str l := bytes_ext _ _ (by
      rw [strOfNums_data, str_data, List.map_map]
      have : ((fun n : Int => UInt8.ofNat n.toNat) ∘ fun b : UInt8 => (b.toNat : Int)) = id := by funext x; simp
      rw [this, List.map_id])
    rw [this]
end Go.Proofs.Ytebfnbnaheolgaa
