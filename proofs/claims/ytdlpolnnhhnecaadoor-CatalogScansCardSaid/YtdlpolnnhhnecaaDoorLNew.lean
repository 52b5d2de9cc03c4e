/- A new scanner: no claim of its own. -/
import Derived.Test.YtdlpolnnhhnecaaDoorLScan
import Derived.Test.YtdlpolnnhhnecaaDoorLTok
import Derived.Lib.LazyBuf
namespace Go.Proofs.YtdlpolnnhhnecaaDoor
open Go.RowKit
/-- A copy of the tokens, in new memory. -/
def Copied (L : List Tk) (w : World) (e : Ending) (w' : World) : Prop :=
  ∃ A n c, e = .returned (.slice A n c) ∧ Tks w' A n c L ∧ (∀ ad, A = some ad → w.heap.size ≤ ad.block ∧ ad.block < w'.heap.size) ∧ Below w.heap.size w w'
set_option maxRecDepth 100000 in
set_option maxHeartbeats 1000000 in
theorem clone_any (A : Option Addr) (n c : Nat) (L : List Tk) (w : World) (h : Tks w A n c L) :
    Calls Tryd.prog 48 #[.slice A n c] w (Copied L w) := by
  have hn := h.few
  have hc := h.cap
  have hl := h.len
  rcases A with _ | ad
  · have h0 : n = 0 := by
      rcases Nat.eq_zero_or_pos n with h0 | h0
      · exact h0
      · obtain ⟨ad, e, _⟩ := h.reads.2 h0; cases e
    have hL : L = [] := List.eq_nil_of_length_eq_zero (by omega)
    subst hL
    have e1 : ∀ w' : World, (binOp .eql 44 (.slice none n c) (.slice none 0 0)).run Tryd.prog w' = .ok (.bool true) w' := fun w' => Lib.run_eql_slice_nil w' _ _ _ _ _ _ _ Tryd.underlying44
    have G : Hid (Copied [] w (.returned (.slice none 0 0)) w) := Lib.hid ⟨none, 0, 0, rfl, Tks.nil _, (fun _ h => nomatch h), Below.refl _ _⟩
    clear h hn hc hl h0
    go_enter Tryd.func48, Tryd.ntmps48
    go_wp2
    go_ret
    exact G.out
  · have e1 : ∀ w' : World, (binOp .eql 44 (.slice (some ad) n c) (.slice none 0 0)).run Tryd.prog w' = .ok (.bool false) w' := fun w' => Lib.run_eql_slice_nil w' _ _ _ _ _ _ _ Tryd.underlying44
    obtain ⟨i0, hi, hz0, hz1, hz2⟩ := info_parts infoTok
    have hne : L.length = n := hl
    have HR := Lib.hid h.reads
    have HL := Lib.hid hl
    clear h hl hne
    go_enter Tryd.func48, Tryd.ntmps48
    have O0 : Hid ((w.alloc (.cells #[] 57)).ownsRow w.heap.size 57 4 (.slice (some ⟨w.heap.size, 0, none⟩) 0 0) 0 []) := Lib.hid (World.ownsRow_made w #[] 0 (Nat.le_refl _) (Nat.zero_le _) rfl)
    go_wp2_with (at_builtin; refine wpList_append_own _ rfl _ _ 44 rfl w.heap.size 57 i0 (.agg #[.int .i64 0, .string ⟨#[]⟩, .int .i64 0, .int .i64 0]) 4 40 Tryd.underlying44 hi hz0 hz1 hz2 rfl (by decide) _ _ _ rfl O0.out ad n c (cellsTs L) rfl ?c0 ?c1 ?c2 ?c3 ?c4 ?c5 ?_)
    case c0 => rw [cellsTs_length, HL.out]
    case c1 =>
      intro j u hu
      have hp : 0 < n := by
        rcases Nat.eq_zero_or_pos n with h0 | h0
        · have : L = [] := List.eq_nil_of_length_eq_zero (by rw [HL.out]; exact h0)
          subst this; simp [cellsTs] at hu
        · exact h0
      obtain ⟨ad', ea, hb, hc'⟩ := HR.out.2 hp
      injection ea with ea
      subst ea
      rw [World.cell?_alloc_lt w _ _ (by rw [block_of_add]; exact hb)]
      exact hc' j u hu
    case c2 =>
      intro u hu
      simp only [cellsTs, List.mem_flatMap] at hu
      obtain ⟨t, _, ht⟩ := hu
      exact cellsT_one t u ht
    case c3 => unfold maxLen; omega
    case c4 => omega
    case c5 => simp
    intro v' w2 hown' hgrow _
    have O2 : OwnT 57 w2 w.heap.size v' L := by
      unfold OwnT
      rw [HL.out, ← Nat.zero_add n]
      simpa using hown'
    obtain ⟨A', c', hv, ht, hfar⟩ := O2.form2 (by rw [HL.out]; exact hn)
    rw [HL.out] at hv ht
    have B2 := Lib.hid ((below_new w (.cells #[] 57)).grown hgrow (by simp) (fun k hk => (World.ownsRow.lt O0.out k hk).1))
    have G := Lib.hid ht
    have G2 := Lib.hid hfar
    subst hv
    clear ht hfar O2 hown' hgrow
    go_wp2
    go_ret
    exact ⟨_, _, _, rfl, G.out, G2.out, B2.out⟩
/-- A new scanner of the tokens L. -/
def Fresh (L : List Tk) (w : World) (e : Ending) (w' : World) : Prop :=
  ∃ g A n c, e = .returned (.pointer (some ⟨g, 0, none⟩)) ∧ w'.heap[g]? = some (.cells #[.slice A n c, .int .i64 0] 78 (0, 0)) ∧ Tks w' A n c L ∧ (∀ ad, A = some ad → w.heap.size ≤ ad.block ∧ ad.block < g) ∧ w.heap.size ≤ g ∧ Below w.heap.size w w'
set_option maxRecDepth 100000 in
set_option maxHeartbeats 1000000 in
theorem new_any (A : Option Addr) (n c : Nat) (L : List Tk) (w : World) (h : Tks w A n c L) :
    Calls Tryd.prog 29 #[.slice A n c] w (Fresh L w) := by
  have C := Lib.hid (clone_any A n c L w h)
  clear h
  go_enter Tryd.func29, Tryd.ntmps29
  go_wp2_with fail
  refine C.out.mono ?_
  rintro e w1 ⟨A1, n1, c1, rfl, ht, hf, hb⟩
  have G : Hid (Fresh L w (.returned (.pointer (some ⟨w1.heap.size, 0, none⟩))) (w1.alloc (.cells #[.slice A1 n1 c1, .int .i64 0] 78))) :=
    Lib.hid ⟨_, A1, n1, c1, rfl, heap_new _ _, ht.keep (below_new _ _), hf, hb.size, hb.trans ((below_new _ _).mono hb.size)⟩
  clear ht hf hb C
  go_wp2
  go_ret
  exact G.out
end Go.Proofs.YtdlpolnnhhnecaaDoor
