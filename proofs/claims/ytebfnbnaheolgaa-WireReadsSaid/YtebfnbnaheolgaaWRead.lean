/- A reader in memory; the contracts of Err, Left, Fail, NewReader: no claim of its own. -/
import Derived.Test.YtebfnbnaheolgaaWDec
import Derived.SliceStrings
namespace Go.Proofs.Ytebfnbnaheolgaa
open Go.RowKit
/-- Block g is a reader that has the bytes l left, and the error e. -/
def RP (w : World) (g : Nat) (l : List UInt8) (e : Int) : Prop := w.heap[g]? = some (.cells #[.string (str l), .int .i64 e] 59 (0, 0))
theorem RP.lt {w : World} {g : Nat} {l : List UInt8} {e : Int} (h : RP w g l e) : g < w.heap.size := (Array.getElem?_eq_some_iff.1 h).1
theorem RP.keep {w w1 : World} {g : Nat} {l : List UInt8} {e : Int} (h : RP w g l e) (hb : Below w.heap.size w w1) : RP w1 g l e := (hb.block g h.lt).trans h
theorem RP.off {w w1 : World} {g g' : Nat} {l : List UInt8} {e : Int} (h : RP w g l e) (hg : w.grownBy w1 (some g')) (hne : g ≠ g') : RP w1 g l e := (hg.block g h.lt (by intro e; injection e with e; exact hne e)).trans h
theorem RP.facts {w : World} {g : Nat} {l : List UInt8} {e : Int} (h : RP w g l e) : w.cell? ⟨g, 0, none⟩ = some (.string (str l)) ∧ w.cell? ⟨g, 1, none⟩ = some (.int .i64 e) ∧ w.frozen? ⟨g, 0, none⟩ = false ∧ w.frozen? ⟨g, 1, none⟩ = false := by
  have h' : w.heap[g]? = some (.cells #[.string (str l), .int .i64 e] 59 (0, 0)) := h
  refine ⟨?_, ?_, ?_, ?_⟩
  all_goals first | (rw [cell_of_row w g _ _ _ _ h']; rfl) | simp [World.frozen?, h']
theorem RP.rest {w : World} {g : Nat} {l l' : List UInt8} {e : Int} (h : RP w g l e) {s : ByteArray} (hs : s = str l') : RP (w.setCell ⟨g, 0, none⟩ (.string s)) g l' e := by
  subst hs
  have h' : w.heap[g]? = some (.cells #[.string (str l), .int .i64 e] 59 (0, 0)) := h
  have := heap_setCell_same w g 0 _ _ (.string (str l')) h'
  unfold RP
  rw [this]; rfl
theorem RP.err {w : World} {g : Nat} {l : List UInt8} {e : Int} (h : RP w g l e) (k : Int) : RP (w.setCell ⟨g, 1, none⟩ (.int .i64 k)) g l k := by
  have h' : w.heap[g]? = some (.cells #[.string (str l), .int .i64 e] 59 (0, 0)) := h
  have := heap_setCell_same w g 1 _ _ (.int .i64 k) h'
  unfold RP
  rw [this]; rfl
/-- A method hands back v, leaves l and e; nothing but the reader has turned. -/
def Rd (v : Value) (g : Nat) (l : List UInt8) (e : Int) (w : World) (en : Ending) (w' : World) : Prop := en = .returned v ∧ RP w' g l e ∧ w.grownBy w' (some g)
/-- A reader with an error, or none. -/
def Dead (w : World) (v : Value) (e : Int) : Prop := (v = .pointer none ∧ e = 6) ∨ ∃ g, v = .pointer (some ⟨g, 0, none⟩) ∧ RP w g [] e ∧ e ≠ 0
theorem Dead.ne {w : World} {v : Value} {e : Int} (h : Dead w v e) : e ≠ 0 := by
  rcases h with ⟨_, rfl⟩ | ⟨_, _, _, h⟩
  · decide
  · exact h
theorem Dead.keep {w w1 : World} {v : Value} {e : Int} (h : Dead w v e) (hb : Below w.heap.size w w1) : Dead w1 v e := by
  rcases h with h | ⟨g, h1, h2, h3⟩
  · exact .inl h
  · exact .inr ⟨g, h1, h2.keep hb, h3⟩
set_option maxRecDepth 100000 in
theorem newReader_any (s : ByteArray) (w : World) :
    Calls Try.prog 13 #[.string s] w fun e w' => e = .returned (.pointer (some ⟨w.heap.size, 0, none⟩)) ∧ w' = w.alloc (.cells #[.string s, .int .i64 0] 59) := by
  go_enter Try.func13, Try.ntmps13
  go_wp2
  go_ret
  exact ⟨rfl, rfl⟩
theorem RP.new (w : World) (s : ByteArray) : RP (w.alloc (.cells #[.string s, .int .i64 0] 59)) w.heap.size s.data.toList 0 := by
  unfold RP; rw [str_self]; exact heap_new w _
set_option maxRecDepth 100000 in
theorem err_live (g : Nat) (l : List UInt8) (e : Int) (w : World) (h : RP w g l e) :
    Calls Try.prog 29 #[.pointer (some ⟨g, 0, none⟩)] w fun en w' => en = .returned (.int .i64 e) ∧ w = w' := by
  obtain ⟨h0, h1, h2, h3⟩ := h.facts
  go_enter Try.func29, Try.ntmps29
  go_wp2
  go_ret
  exact ⟨rfl, rfl⟩
set_option maxRecDepth 100000 in
theorem err_nil (w : World) :
    Calls Try.prog 29 #[.pointer none] w fun en w' => en = .returned (.int .i64 6) ∧ w = w' := by
  go_enter Try.func29, Try.ntmps29
  go_wp2
  go_ret
  exact ⟨rfl, rfl⟩
theorem err_dead (v : Value) (e : Int) (w : World) (h : Dead w v e) :
    Calls Try.prog 29 #[v] w fun en w' => en = .returned (.int .i64 e) ∧ w = w' := by
  rcases h with ⟨rfl, rfl⟩ | ⟨g, rfl, h, _⟩
  · exact err_nil w
  · exact err_live g [] e w h
set_option maxRecDepth 100000 in
theorem left_live (g : Nat) (l : List UInt8) (e : Int) (w : World) (h : RP w g l e) :
    Calls Try.prog 21 #[.pointer (some ⟨g, 0, none⟩)] w fun en w' => en = .returned (.int .i64 (l.length : Nat)) ∧ w = w' := by
  obtain ⟨h0, h1, h2, h3⟩ := h.facts
  have hs := Lib.hid (str_size l)
  generalize str l = s at *
  go_enter Try.func21, Try.ntmps21
  go_wp2
  go_ret
  exact ⟨ret_i (by rw [hs.out]), rfl⟩
set_option maxRecDepth 100000 in
theorem left_nil (w : World) :
    Calls Try.prog 21 #[.pointer none] w fun en w' => en = .returned (.int .i64 0) ∧ w = w' := by
  go_enter Try.func21, Try.ntmps21
  go_wp2
  go_ret
  exact ⟨rfl, rfl⟩
theorem left_dead (v : Value) (e : Int) (w : World) (h : Dead w v e) :
    Calls Try.prog 21 #[v] w fun en w' => en = .returned (.int .i64 0) ∧ w = w' := by
  rcases h with ⟨rfl, rfl⟩ | ⟨g, rfl, h, _⟩
  · exact left_nil w
  · exact left_live g [] e w h
set_option maxRecDepth 100000 in
theorem fail_dead (v : Value) (e k : Int) (w : World) (h : Dead w v e) :
    Calls Try.prog 32 #[v, .int .i64 k] w fun en w' => en = .returned (.tuple #[]) ∧ w = w' := by
  have E := Lib.hid (err_dead v e w h)
  have n0 : (e != 0) = true := bne_iff_ne.2 h.ne
  clear h
  go_enter Try.func32, Try.ntmps32
  go_wp2_with fail
  refine E.out.mono ?_
  rintro en w' ⟨rfl, rfl⟩
  go_wp2
  refine bodyPost_ret (v := .tuple #[]) (by simp [results, Try.results32, go_sem]) rfl ⟨rfl, rfl⟩
set_option maxRecDepth 100000 in
theorem fail_zero (g : Nat) (l : List UInt8) (w : World) (h : RP w g l 0) :
    Calls Try.prog 32 #[.pointer (some ⟨g, 0, none⟩), .int .i64 0] w fun en w' => en = .returned (.tuple #[]) ∧ w = w' := by
  have E := Lib.hid (err_live g l 0 w h)
  clear h
  go_enter Try.func32, Try.ntmps32
  go_wp2_with fail
  refine E.out.mono ?_
  rintro en w' ⟨rfl, rfl⟩
  go_wp2
  refine bodyPost_ret (v := .tuple #[]) (by simp [results, Try.results32, go_sem]) rfl ⟨rfl, rfl⟩
set_option maxRecDepth 100000 in
theorem fail_live (g : Nat) (l : List UInt8) (k : Int) (w : World) (h : RP w g l 0) (hk : k ≠ 0) :
    Calls Try.prog 32 #[.pointer (some ⟨g, 0, none⟩), .int .i64 k] w (Rd (.tuple #[]) g [] k w) := by
  have E := Lib.hid (err_live g l 0 w h)
  have n0 : (k == 0) = false := beq_eq_false_iff_ne.2 hk
  obtain ⟨h0, h1, h2, h3⟩ := h.facts
  have F := Lib.hid ((h.err k).rest (l' := []) (s := ⟨#[]⟩) rfl)
  clear h hk
  go_enter Try.func32, Try.ntmps32
  go_wp2_with fail
  refine E.out.mono ?_
  rintro en w' ⟨rfl, rfl⟩
  go_wp2
  go_end0
  exact ⟨rfl, F.out, grown_trans (grown_set _ _ _ _) (grown_set _ _ _ _)⟩
end Go.Proofs.Ytebfnbnaheolgaa
