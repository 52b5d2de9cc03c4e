/- A strings.Builder in a writer's second field: no claim of its own. -/
import Derived.Test.YtcokplikmjegcaaGreatDoorJLB
namespace Go.Proofs.YtcokplikmjegcaaGreatDoor
open Go.RowKit
theorem gset1 (w : World) (g o : Nat) (u : Value) : w.grownBy (w.setCell ⟨g, o, none⟩ u) (some g) :=
  ⟨rfl, rfl, rfl, by simp [World.setCell], fun k _ hne => by simp [World.setCell, Array.getElem?_modify]; intro h; exact absurd (by rw [h]) hne⟩
/-- Block b is a writer (its first field is P) whose text is l so far; p is what its builder's addr holds. -/
structure WrAt (b : Nat) (P p : Value) (l : List UInt8) (w : World) : Prop where
  ex : ∃ v, w.heap[b]? = some (.cells #[P, p, v] 49 (0, 0)) ∧ w.ownsRowF b 5 1 v l.length (Lib.byteCells l) ∧ v.ownBlock ≠ some b
def Wr (b : Nat) (P : Value) (l : List UInt8) (w : World) : Prop := WrAt b P (.pointer none) l w ∨ WrAt b P (.pointer (some ⟨b, 1, none⟩)) l w
theorem WrAt.lt {b : Nat} {P p : Value} {l : List UInt8} {w : World} (h : WrAt b P p l w) : b < w.heap.size := by
  obtain ⟨v, hk, _⟩ := h.ex
  exact (Array.getElem?_eq_some_iff.1 hk).1
theorem Wr.lt {b : Nat} {P : Value} {l : List UInt8} {w : World} (h : Wr b P l w) : b < w.heap.size := h.elim (fun h => h.lt) (fun h => h.lt)
theorem WrAt.keep {b : Nat} {P p : Value} {l : List UInt8} {w w' : World} (h : WrAt b P p l w) (hb : Below w.heap.size w w') : WrAt b P p l w' := by
  have hlt := h.lt
  obtain ⟨v, hk, hown, hne⟩ := h.ex
  exact ⟨v, (hb.block b hlt).trans hk, hown.kept (row := none) ⟨hb.os, hb.tape, hb.output, hb.size, fun k hk _ => hb.block k hk⟩ (by cases hv : v.ownBlock <;> simp), hne⟩
theorem Wr.keep {b : Nat} {P : Value} {l : List UInt8} {w w' : World} (h : Wr b P l w) (hb : Below w.heap.size w w') : Wr b P l w' := h.imp (fun h => h.keep hb) (fun h => h.keep hb)
theorem Wr.first {b : Nat} {P : Value} {l : List UInt8} {w : World} (h : Wr b P l w) : w.cell? ⟨b, 0, none⟩ = some P := by
  rcases h with h | h <;> (obtain ⟨v, hk, _⟩ := h.ex; rw [Lib.cell_of_heap hk]; rfl)
theorem Wr.new (w : World) (P : Value) : Wr w.heap.size P [] (w.alloc (.cells #[P, .pointer none, .slice none 0 0] 49)) :=
  .inl ⟨.slice none 0 0, heap_new _ _, ⟨rfl, .inl ⟨rfl, rfl⟩⟩, by simp [Value.ownBlock]⟩
/-- Behind an append and the store. -/
theorem WrAt.put {b : Nat} {P p v v' : Value} {l' : List UInt8} {w : World} (hb : w.heap[b]? = some (.cells #[P, p, v] 49 (0, 0))) (hown : w.ownsRowF b 5 1 v' l'.length (Lib.byteCells l')) : WrAt b P p l' (w.setCell ⟨b, 2, none⟩ v') := by
  have hne : v'.ownBlock ≠ some b := fun e => by
    rcases hown.2 with ⟨hv, _⟩ | ⟨g, cap, cur, fz, hv, _, h, _⟩
    · rw [hv] at e; cases e
    · rw [hv] at e
      have e' : g = b := Option.some.inj e
      subst e'
      rw [hb] at h
      injection h with h
      injection h with _ h _
      exact absurd h (by decide)
  refine ⟨v', heap_setCell_same w b 2 _ _ v' hb, hown.kept (row := some b) (gset1 w b 2 v') ?_, hne⟩
  cases hv : v'.ownBlock with
  | none => exact .inl rfl
  | some k => exact .inr (by rw [hv] at hne; exact hne)
set_option maxRecDepth 100000 in
set_option maxHeartbeats 1000000 in
theorem check1_used (b : Nat) (w : World) (h0 : w.cell? ⟨b, 1, none⟩ = some (.pointer (some ⟨b, 1, none⟩))) :
    Calls Tryz.prog 78 #[.pointer (some ⟨b, 1, none⟩)] w fun e w' => e = .returned (.tuple #[]) ∧ w' = w := by
  obtain ⟨j, hj, _⟩ := Option.map_eq_some_iff.1 builderX.sizeBuilder
  have HN := Lib.run_neq_ptr_same (P := Tryz.prog) (te := 47) w (tp := 44) ⟨b, 1, none⟩ Tryz.underlying44 hj
  clear hj
  go_enter Tryz.func78, Tryz.ntmps78
  go_wp2
  go_end0
  exact ⟨rfl, rfl⟩
set_option maxRecDepth 100000 in
set_option maxHeartbeats 1000000 in
theorem check1_fresh (b : Nat) (w : World) (h0 : w.cell? ⟨b, 1, none⟩ = some (.pointer none)) (hsh : w.shape? b = some (49, 3)) (hfz : w.frozen? ⟨b, 1, none⟩ = false) :
    Calls Tryz.prog 78 #[.pointer (some ⟨b, 1, none⟩)] w fun e w' => e = .returned (.tuple #[]) ∧ w' = w.setCell ⟨b, 1, none⟩ (.pointer (some ⟨b, 1, none⟩)) := by
  obtain ⟨j, hj, hjs⟩ := Option.map_eq_some_iff.1 builderX.sizeBuilder
  have HN := fun w' => Lib.run_neq_ptr_same (P := Tryz.prog) (te := 47) w' (tp := 44) ⟨b, 1, none⟩ Tryz.underlying44 hj
  have HT := Lib.run_to_unsafe (P := Tryz.prog) w ⟨b, 1, none⟩ Tryz.underlying44 Tryz.underlying136 hj (by rw [hjs]; decide) hsh (by show 1 < 3; decide)
  have HF := Lib.run_from_unsafe (P := Tryz.prog) w ⟨b, 1, none⟩ Tryz.underlying136 Tryz.underlying44 hj hsh (by kernel_rfl)
  have HE : (callFunc 111 #[.pointer (some ⟨b, 1, none⟩)]).run Tryz.prog w = .ok (.value (.pointer (some ⟨b, 1, none⟩))) w := by
    rw [run_callFunc_extern Tryz.func111 (by kernel_rfl) (by kernel_rfl) (by kernel_rfl) (e := Extern.AbiNoEscape.same) (by kernel_rfl)]
    rfl
  clear hj hjs
  go_enter Tryz.func78, Tryz.ntmps78
  go_wp2
  go_end0
  exact ⟨rfl, rfl⟩
theorem check1_any (b : Nat) (P : Value) (l : List UInt8) (w : World) (h : Wr b P l w) :
    Calls Tryz.prog 78 #[.pointer (some ⟨b, 1, none⟩)] w fun e w' => e = .returned (.tuple #[]) ∧ WrAt b P (.pointer (some ⟨b, 1, none⟩)) l w' ∧ Only b w w' := by
  rcases h with h | h
  · obtain ⟨v, hk, hown, hne⟩ := h.ex
    refine (check1_fresh b w (by rw [Lib.cell_of_heap hk]; rfl) (by simp [World.shape?, hk]) (Lib.frozen_of_heap hk 1)).mono ?_
    rintro e w' ⟨rfl, rfl⟩
    refine ⟨rfl, ⟨v, heap_setCell_same w b 1 _ _ _ hk, hown.kept (row := some b) (gset1 w b 1 _) ?_, hne⟩, (Below.refl b w).setCell (p := ⟨b, 1, none⟩) (Nat.le_refl _) _, (Lib.OthersKept.refl _ _ w).setCell ⟨b, 1, none⟩ rfl _⟩
    cases hv : v.ownBlock with
    | none => exact .inl rfl
    | some k => exact .inr (by rw [hv] at hne; exact hne)
  · obtain ⟨v, hk, _⟩ := h.ex
    refine (check1_used b w (by rw [Lib.cell_of_heap hk]; rfl)).mono ?_
    rintro e w' ⟨rfl, rfl⟩
    exact ⟨rfl, h, Only.refl _ _⟩
def Wrote1 (v : Value) (b : Nat) (P : Value) (l : List UInt8) (w : World) (e : Ending) (w' : World) : Prop := e = .returned v ∧ Wr b P l w' ∧ Only b w w'
set_option maxRecDepth 100000 in
set_option maxHeartbeats 2000000 in
theorem writeString1 (b : Nat) (P : Value) (l : List UInt8) (s : ByteArray) (w : World) (h : Wr b P l w) (hlen : l.length + s.size ≤ 100000000) :
    Calls Tryz.prog 46 #[.pointer (some ⟨b, 1, none⟩), .string s] w (Wrote1 (.tuple #[.int .i64 (s.size : Int), .nilIface]) b P (l ++ s.data.toList) w) := by
  obtain ⟨i0, hi, hz0, hz1, hz2⟩ := info_parts builderExtra.infoByte
  have C := Lib.hid (check1_any b P l w h)
  have BL := Lib.hid (Lib.byteCells_length l)
  have hblt := h.lt
  clear h
  go_enter Tryz.func46, Tryz.ntmps46
  go_wp2_with fail
  refine C.out.mono ?_
  rintro e w1 ⟨rfl, h1, hO⟩
  have HO := Lib.hid hO
  have hs1 := hO.below.size
  have hlt := h1.lt
  obtain ⟨v, hbk, hown, hne⟩ := h1.ex
  have HK := Lib.hid hbk
  have HN := Lib.hid hne
  have HW := Lib.hid hown
  have c1 : w1.cell? ⟨b, 1, none⟩ = some (.pointer (some ⟨b, 1, none⟩)) := by rw [Lib.cell_of_heap hbk]; rfl
  have c2 : w1.cell? ⟨b, 2, none⟩ = some v := by rw [Lib.cell_of_heap hbk]; rfl
  clear hO hbk hne hown C h1
  go_wp2_with (at_builtin; refine Lib.wpList_append_own_stringF _ rfl _ _ 45 9 rfl b 5 i0 Tryz.underlying45 Tryz.underlying9 hi hz0 hz1 hz2 _ _ _ rfl HW.out s rfl ?c3 ?c4 ?c5 ?_)
  case c3 => have := BL.out; unfold maxLen; omega
  case c4 => have := BL.out; omega
  case c5 => omega
  intro v' w2 hown' hgrow _
  have hb2 : w2.heap[b]? = some (.cells #[P, .pointer (some ⟨b, 1, none⟩), v] 49 (0, 0)) := by
    rw [hgrow.block b hlt (fun e => HN.out e.symm)]
    exact HK.out
  have d1 : w2.cell? ⟨b, 1, none⟩ = some (.pointer (some ⟨b, 1, none⟩)) := by rw [Lib.cell_of_heap hb2]; rfl
  have d2 : w2.cell? ⟨b, 2, none⟩ = some v := by rw [Lib.cell_of_heap hb2]; rfl
  have f2 : w2.frozen? ⟨b, 2, none⟩ = false := Lib.frozen_of_heap hb2 2
  have F : Hid (Wr b P (l ++ s.data.toList) (w2.setCell ⟨b, 2, none⟩ v') ∧ Only b w (w2.setCell ⟨b, 2, none⟩ v')) := Lib.hid (by
    refine ⟨.inr ?_, HO.out.trans ⟨?_, ((Lib.OthersKept.refl _ _ w1).grown hgrow (Lib.ownsRowF_kind HW.out)).setCell ⟨b, 2, none⟩ rfl _⟩⟩
    · refine WrAt.put hb2 ?_
      have e : Lib.byteCells (l ++ s.data.toList) = Lib.byteCells l ++ Lib.strCells s := by rw [Lib.byteCells_append]; rfl
      have hlen2 : (l ++ s.data.toList).length = l.length + s.size := by rw [List.length_append]; rfl
      rw [e, hlen2]
      exact hown'
    · exact ((Below.refl b w1).grown hgrow (by omega) (fun k hk => (HW.out.lt k hk).1)).setCell (p := ⟨b, 2, none⟩) (Nat.le_refl _) _)
  obtain ⟨ao, n', cap, rfl⟩ : ∃ ao n' cap, v' = .slice ao n' cap := by
    rcases hown'.2 with ⟨hv, _⟩ | ⟨g, cap, cur, fz, hv, _⟩
    · exact ⟨_, _, _, hv⟩
    · exact ⟨_, _, _, hv⟩
  clear hown' hgrow hb2
  go_wp2
  go_ret2
  exact ⟨rfl, F.out.1, F.out.2⟩
set_option maxRecDepth 100000 in
set_option maxHeartbeats 2000000 in
theorem writeByte1 (b : Nat) (P : Value) (l : List UInt8) (c : UInt8) (w : World) (h : Wr b P l w) (hlen : l.length + 1 ≤ 100000000) :
    Calls Tryz.prog 79 #[.pointer (some ⟨b, 1, none⟩), .int .u8 (c.toNat : Int)] w (Wrote1 .nilIface b P (l ++ [c]) w) := by
  obtain ⟨i0, hi, hz0, hz1, hz2⟩ := info_parts builderExtra.infoByte
  have C := Lib.hid (check1_any b P l w h)
  have BL := Lib.hid (Lib.byteCells_length l)
  have BO := Lib.hid (show Lib.byteCells (l ++ [c]) = Lib.byteCells l ++ [.int .u8 (c.toNat : Int)] by rw [Lib.byteCells_append]; rfl)
  have hcl := c.toNat_lt
  have hblt := h.lt
  clear h
  generalize c.toNat = cn at *
  go_enter Tryz.func79, Tryz.ntmps79
  go_wp2_with fail
  refine C.out.mono ?_
  rintro e w1 ⟨rfl, h1, hO⟩
  have HO := Lib.hid hO
  have hs1 := hO.below.size
  have hlt := h1.lt
  obtain ⟨v, hbk, hown, hne⟩ := h1.ex
  have HK := Lib.hid hbk
  have HN := Lib.hid hne
  have HW := Lib.hid hown
  have c1 : w1.cell? ⟨b, 1, none⟩ = some (.pointer (some ⟨b, 1, none⟩)) := by rw [Lib.cell_of_heap hbk]; rfl
  have c2 : w1.cell? ⟨b, 2, none⟩ = some v := by rw [Lib.cell_of_heap hbk]; rfl
  clear hO hbk hne hown C h1
  go_wp2_with (at_builtin; refine wpList_append_ownF _ rfl _ _ 45 rfl b 5 i0 (.int .u8 0) 1 1 Tryz.underlying45 hi hz0 hz1 hz2 rfl (by decide) _ _ _ rfl (HW.out.alloc _) ⟨w1.heap.size, 0, none⟩ 1 1 [.int .u8 (cn : Int)] rfl rfl ?c1 ?c2 ?c3 ?c4 ?c5 ?_)
  case c1 =>
    intro j u hj
    match j, hj with
    | 0, hj => simp at hj; subst hj; simp [Addr.add]
  case c2 => intro u hu; simp at hu; subst hu; rfl
  case c3 => have := BL.out; unfold maxLen; omega
  case c4 => have := BL.out; omega
  case c5 => simp; omega
  intro v' w2 hown' hgrow _
  have hb2 : w2.heap[b]? = some (.cells #[P, .pointer (some ⟨b, 1, none⟩), v] 49 (0, 0)) := by
    rw [hgrow.block b (by simp; omega) (fun e => HN.out e.symm), Lib.alloc_old w1 _ b hlt]
    exact HK.out
  have d1 : w2.cell? ⟨b, 1, none⟩ = some (.pointer (some ⟨b, 1, none⟩)) := by rw [Lib.cell_of_heap hb2]; rfl
  have d2 : w2.cell? ⟨b, 2, none⟩ = some v := by rw [Lib.cell_of_heap hb2]; rfl
  have f2 : w2.frozen? ⟨b, 2, none⟩ = false := Lib.frozen_of_heap hb2 2
  have F : Hid (Wr b P (l ++ [c]) (w2.setCell ⟨b, 2, none⟩ v') ∧ Only b w (w2.setCell ⟨b, 2, none⟩ v')) := Lib.hid (by
    refine ⟨.inr ?_, HO.out.trans ⟨?_, (((Lib.OthersKept.refl _ _ w1).alloc _).grown hgrow (Lib.ownsRowF_kind (HW.out.alloc _))).setCell ⟨b, 2, none⟩ rfl _⟩⟩
    · refine WrAt.put hb2 ?_
      rw [BO.out, List.length_append]
      exact hown'
    · exact (((Below.refl b w1).alloc (by omega) _).grown hgrow (by simp; omega) (fun k hk => (HW.out.lt k hk).1)).setCell (p := ⟨b, 2, none⟩) (Nat.le_refl _) _)
  obtain ⟨ao, n', cap, rfl⟩ : ∃ ao n' cap, v' = .slice ao n' cap := by
    rcases hown'.2 with ⟨hv, _⟩ | ⟨g, cap, cur, fz, hv, _⟩
    · exact ⟨_, _, _, hv⟩
    · exact ⟨_, _, _, hv⟩
  clear hown' hgrow hb2
  go_wp2
  go_ret
  exact ⟨rfl, F.out.1, F.out.2⟩
set_option maxRecDepth 100000 in
set_option maxHeartbeats 2000000 in
theorem appendRune_any (B : Nat) (v : Value) (l : List UInt8) (c : UInt8) (hc : c.toNat < 128) (w1 : World) (h : w1.ownsRowF B 5 1 v l.length (Lib.byteCells l)) (hB : B ≤ w1.heap.size) (hlen : l.length + 1 ≤ 100000000) :
    Calls Tryz.prog 112 #[v, .int .i32 (c.toNat : Int)] w1 fun e w2 => ∃ ao n cap, e = .returned (.slice ao n cap) ∧ w2.ownsRowF B 5 1 (.slice ao n cap) (l.length + 1) (Lib.byteCells (l ++ [c])) ∧ (w1.alloc (.cells #[.int .u8 (c.toNat : Int)] 5)).grownBy w2 v.ownBlock := by
  obtain ⟨i0, hi, hz0, hz1, hz2⟩ := info_parts builderExtra.infoByte
  have BL := Lib.hid (Lib.byteCells_length l)
  have BO := Lib.hid (show Lib.byteCells (l ++ [c]) = Lib.byteCells l ++ [.int .u8 (c.toNat : Int)] by rw [Lib.byteCells_append]; rfl)
  have HW := Lib.hid h
  clear h
  obtain ⟨cn, hcn⟩ : ∃ cn, c.toNat = cn := ⟨_, rfl⟩
  rw [hcn] at hc BO ⊢
  clear hcn
  have w1_ : IntKind.u8.wrap (cn : Int) = cn := by unfold IntKind.wrap; simp [IntKind.bits, IntKind.signed]; omega
  have w2_ : IntKind.u32.wrap (cn : Int) = cn := by unfold IntKind.wrap; simp [IntKind.bits, IntKind.signed]; omega
  have hle : decide ((cn : Int) ≤ 127) = true := decide_eq_true (by omega)
  go_enter Tryz.func112, Tryz.ntmps112
  go_wp2_with (at_builtin; refine wpList_append_ownF _ rfl _ _ 45 rfl B 5 i0 (.int .u8 0) 1 1 Tryz.underlying45 hi hz0 hz1 hz2 rfl (by decide) _ _ _ rfl (HW.out.alloc _) ⟨w1.heap.size, 0, none⟩ 1 1 [.int .u8 (cn : Int)] rfl rfl ?c1 ?c2 ?c3 ?c4 ?c5 ?_)
  case c1 =>
    intro j u hj
    match j, hj with
    | 0, hj => simp at hj; subst hj; simp [Addr.add]
  case c2 => intro u hu; simp at hu; subst hu; rfl
  case c3 => have := BL.out; unfold maxLen; omega
  case c4 => have := BL.out; omega
  case c5 => simp; omega
  intro v' w2 hown' hgrow _
  rw [← BO.out] at hown'
  have HR := Lib.hid hown'
  have HG := Lib.hid hgrow
  obtain ⟨ao, n', cap, rfl⟩ : ∃ ao n' cap, v' = .slice ao n' cap := by
    rcases hown'.2 with ⟨hv, _⟩ | ⟨g, cap, cur, fz, hv, _⟩
    · exact ⟨_, _, _, hv⟩
    · exact ⟨_, _, _, hv⟩
  clear hown' hgrow
  go_wp2
  go_ret
  exact ⟨_, _, _, rfl, HR.out, HG.out⟩
set_option maxRecDepth 100000 in
set_option maxHeartbeats 2000000 in
theorem writeRune1 (b : Nat) (P : Value) (l : List UInt8) (c : UInt8) (hc : c.toNat < 128) (w : World) (h : Wr b P l w) (hlen : l.length + 1 ≤ 100000000) :
    Calls Tryz.prog 81 #[.pointer (some ⟨b, 1, none⟩), .int .i32 (c.toNat : Int)] w fun e w' => ∃ n : Int, Wrote1 (.tuple #[.int .i64 n, .nilIface]) b P (l ++ [c]) w e w' := by
  have C := Lib.hid (check1_any b P l w h)
  have hblt := h.lt
  clear h
  go_enter Tryz.func81, Tryz.ntmps81
  go_wp2_with fail
  refine C.out.mono ?_
  rintro e w1 ⟨rfl, h1, hO⟩
  have HO := Lib.hid hO
  have hs1 := hO.below.size
  have hlt := h1.lt
  obtain ⟨v, hbk, hown, hne⟩ := h1.ex
  have HK := Lib.hid hbk
  have HN := Lib.hid hne
  have HW := Lib.hid hown
  have c1 : w1.cell? ⟨b, 1, none⟩ = some (.pointer (some ⟨b, 1, none⟩)) := by rw [Lib.cell_of_heap hbk]; rfl
  have c2 : w1.cell? ⟨b, 2, none⟩ = some v := by rw [Lib.cell_of_heap hbk]; rfl
  clear hO hbk hne hown C h1
  have AR := Lib.hid (appendRune_any b v l c hc w1 HW.out (by omega) hlen)
  obtain ⟨ao0, n0, cap0, hv0⟩ : ∃ ao n' cap, v = .slice ao n' cap := by
    rcases HW.out.2 with ⟨hv, _⟩ | ⟨g, cap, cur, fz, hv, _⟩
    · exact ⟨_, _, _, hv⟩
    · exact ⟨_, _, _, hv⟩
  subst hv0
  generalize c.toNat = cn at *
  go_wp2_with fail
  refine AR.out.mono ?_
  rintro e w2 ⟨ao, n', cap, rfl, hown', hgrow⟩
  have hb2 : w2.heap[b]? = some (.cells #[P, .pointer (some ⟨b, 1, none⟩), .slice ao0 n0 cap0] 49 (0, 0)) := by
    rw [hgrow.block b (by simp; omega) (fun e => HN.out e.symm), Lib.alloc_old w1 _ b hlt]
    exact HK.out
  have d1 : w2.cell? ⟨b, 1, none⟩ = some (.pointer (some ⟨b, 1, none⟩)) := by rw [Lib.cell_of_heap hb2]; rfl
  have d2 : w2.cell? ⟨b, 2, none⟩ = some (.slice ao0 n0 cap0) := by rw [Lib.cell_of_heap hb2]; rfl
  have f2 : w2.frozen? ⟨b, 2, none⟩ = false := Lib.frozen_of_heap hb2 2
  have F : Hid (Wr b P (l ++ [c]) (w2.setCell ⟨b, 2, none⟩ (.slice ao n' cap)) ∧ Only b w (w2.setCell ⟨b, 2, none⟩ (.slice ao n' cap))) := Lib.hid (by
    refine ⟨.inr ?_, HO.out.trans ⟨?_, (((Lib.OthersKept.refl _ _ w1).alloc _).grown hgrow (Lib.ownsRowF_kind (HW.out.alloc _))).setCell ⟨b, 2, none⟩ rfl _⟩⟩
    · refine WrAt.put hb2 ?_
      rw [List.length_append]
      exact hown'
    · exact (((Below.refl b w1).alloc (by omega) _).grown hgrow (by simp; omega) (fun k hk => (HW.out.lt k hk).1)).setCell (p := ⟨b, 2, none⟩) (Nat.le_refl _) _)
  clear hown' hgrow AR hb2
  have d3 : (w2.setCell ⟨b, 2, none⟩ (.slice ao n' cap)).cell? ⟨b, 2, none⟩ = some (.slice ao n' cap) := by apply World.cell?_setCell_same; exact d2
  go_wp2
  go_ret2
  exact ⟨_, rfl, F.out.1, F.out.2⟩
set_option maxRecDepth 100000 in
set_option maxHeartbeats 2000000 in
theorem len1 (b : Nat) (P : Value) (l : List UInt8) (w : World) (h : Wr b P l w) : Calls Tryz.prog 20 #[.pointer (some ⟨b, 1, none⟩)] w fun e w' => e = .returned (.int .i64 l.length) ∧ w' = w := by
  have : ∃ p v, w.heap[b]? = some (.cells #[P, p, v] 49 (0, 0)) ∧ w.ownsRowF b 5 1 v l.length (Lib.byteCells l) := by
    rcases h with h | h <;> (obtain ⟨v, hk, ho, _⟩ := h.ex; exact ⟨_, v, hk, ho⟩)
  obtain ⟨p, v, hk, ho⟩ := this
  obtain ⟨ao, cap, rfl⟩ : ∃ ao cap, v = .slice ao l.length cap := by
    rcases ho.2 with ⟨hv, hz⟩ | ⟨g, cap, cur, fz, hv, _⟩
    · exact ⟨none, 0, by rw [hv, hz]⟩
    · exact ⟨_, _, hv⟩
  have c2 : w.cell? ⟨b, 2, none⟩ = some (.slice ao l.length cap) := by rw [Lib.cell_of_heap hk]; rfl
  clear hk ho h
  generalize l.length = n at *
  go_enter Tryz.func20, Tryz.ntmps20
  go_wp2
  go_ret
  exact ⟨rfl, rfl⟩
set_option maxRecDepth 100000 in
set_option maxHeartbeats 2000000 in
theorem string1 (b : Nat) (P : Value) (l : List UInt8) (w : World) (h : Wr b P l w) (h0 : l ≠ []) : Calls Tryz.prog 21 #[.pointer (some ⟨b, 1, none⟩)] w fun e w' => e = .returned (.string (str l)) ∧ Below b w w' := by
  have : ∃ p v, w.heap[b]? = some (.cells #[P, p, v] 49 (0, 0)) ∧ w.ownsRowF b 5 1 v l.length (Lib.byteCells l) := by
    rcases h with h | h <;> (obtain ⟨v, hk, ho, _⟩ := h.ex; exact ⟨_, v, hk, ho⟩)
  obtain ⟨p, v, hbk, hown⟩ := this
  have hl0 : l.length ≠ 0 := by simpa using h0
  obtain ⟨g, cap, cur, fz, rfl, hbg, hg, hfz, hnc, hcm, hcs, htake⟩ : ∃ g cap cur fz, v = .slice (some ⟨g, 0, none⟩) l.length cap ∧ b ≤ g ∧ w.heap[g]? = some (.cells cur 5 fz) ∧ fz.2 ≤ l.length * 1 ∧ l.length ≤ cap ∧ cap ≤ maxLen ∧ cur.size = cap * 1 ∧ cur.toList.take (l.length * 1) = Lib.byteCells l := by
    rcases hown.2 with ⟨_, hz⟩ | ⟨g, cap, cur, fz, hv, r⟩
    · exact absurd hz hl0
    · exact ⟨g, cap, cur, fz, hv, r⟩
  have c2 : w.drew.cell? ⟨b, 2, none⟩ = some (.slice (some ⟨g, 0, none⟩) l.length cap) := by
    have : w.drew.heap[b]? = some (.cells #[P, p, .slice (some ⟨g, 0, none⟩) l.length cap] 49 (0, 0)) := hbk
    rw [Lib.cell_of_heap this]; rfl
  have hSD : (Builtin.unsafeSliceData_ #[45] 91 #[.slice (some ⟨g, 0, none⟩) l.length cap]).run Tryz.prog w.drew = .ok (.pointer (some ⟨g, 0, none⟩)) w.drew :=
    Lib.run_unsafeSliceData_row _ _ _ _ _ _ (by omega)
  have hUS : (Builtin.unsafeString_ #[91, 3] 9 #[.pointer (some ⟨g, 0, none⟩), .int .i64 l.length]).run Tryz.prog w.drew = .ok (.string ⟨l.toArray⟩) (w.drew.freeze ⟨g, 0, none⟩ l.length) := by
    refine Lib.run_unsafeString_row w.drew 91 3 9 5 Tryz.underlying91 (by kernel_rfl) g cur.size (by have hg' : w.drew.heap[g]? = some (.cells cur 5 fz) := hg; simp [World.shape?, hg']) l h0 (by omega) (by unfold maxLen at hcm; omega) ?_
    intro j x hx
    have := hown.cells (g := g) rfl j (.int .u8 x.toNat) (by simp [Lib.byteCells, hx])
    exact this
  have mixed : Tryz.prog.follows .mixedOrders = true := by kernel_rfl
  have FB : Hid (Below b w (w.drew.freeze ⟨g, 0, none⟩ l.length)) := Lib.hid (Lib.below_freeze (Below.drew (Below.refl b w)) (p := ⟨g, 0, none⟩) hbg _)
  have hstr : (⟨l.toArray⟩ : ByteArray) = str l := rfl
  rw [hstr] at hUS
  clear hbk hown h hfz hnc hcm hcs htake hg
  go_enter Tryz.func21, Tryz.ntmps21
  go_wp2
  go_region_o
  all_goals (go_wp2; go_ret; exact ⟨rfl, FB.out⟩)
end Go.Proofs.YtcokplikmjegcaaGreatDoor
