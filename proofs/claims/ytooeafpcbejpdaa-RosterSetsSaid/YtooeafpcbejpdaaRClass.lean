/- Class, of the package and of the reference: no claim of its own. -/
import Derived.Test.YtooeafpcbejpdaaRFind
import Derived.Lib.AppendIntMem
namespace Go.Proofs.Ytooeafpcbejpdaa
open Go.RowKit
open MR (Bd)
theorem infoInt : (Try.prog.info? 3).map (fun i => (i.zero, i.size, i.bytes)) = some (some (.int .i64 0), 1, 8) := by kernel_rfl
theorem infoStr : (Try.prog.info? 9).map (fun i => (i.zero, i.size, i.bytes)) = some (some (.string ⟨#[]⟩), 1, 16) := by kernel_rfl
theorem lone {w : World} {b : Nat} {T : TypeId} {v : Value} (h : w.heap[b]? = some (.cells #[v] T (0, 0))) : ∀ j u, [v][j]? = some u → w.cell? ((⟨b, 0, none⟩ : Addr).add j) = some u := by
  intro j u hj
  match j, hj with
  | 0, hj =>
    simp at hj; subst hj
    rw [addr_add, cell_of_row _ _ _ _ _ _ h]; rfl
set_option maxRecDepth 100000 in
set_option maxHeartbeats 1000000 in
theorem class_any (A : Option Addr) (n c : Nat) (L : List Bd) (cl : Int) (w : World) (h : Lst bdE w A n c L) (hn : n ≤ 100) :
    Calls Try.prog 17 #[.slice A n c, .int .i64 cl] w (GivesL intE (MR.classK L cl n) w) := by
  have hc := h.cap
  have H := Lib.hid h
  clear h
  obtain ⟨i0, hi, hz0, hz1, hz2⟩ := info_parts infoInt
  go_enter Try.func17, Try.ntmps17
  go_wp2
  go_loopw [5, 10] (fun v i wr => ∃ k : Nat, k ≤ n ∧ i = .int .i64 k ∧ Hid (OwnL intE 3 wr w.heap.size v (MR.classK L cl k)) ∧ Hid (Below w.heap.size w wr)) (fun _ i _ => n - (intOf i).toNat)
  case atStart => exact ⟨0, Nat.zero_le _, rfl, Lib.hid (OwnL.nil _ _ _), Lib.hid (Below.refl _ _)⟩
  case round =>
    obtain ⟨k, hk, rfl, HO, HB⟩ := hrel
    by_cases hlt : k < n
    · obtain ⟨ad, p, rfl, q1, hfi, hbk, x0, x1, x2, x3⟩ := bd_at (H.out.keep HB.out) hlt
      have BN := Lib.hid (below_new wr (.cells #[.string (str p.name), .int .i64 p.cls, .int .i64 p.budget, .int .i64 p.points] 50))
      have B1 := Lib.hid (HB.out.trans (BN.out.mono HB.out.size))
      have O1 := Lib.hid (HO.out.keep BN.out)
      have hcl := MR.class_len L cl k
      by_cases hq : p.cls = cl
      · have ht : (p.cls == cl) = true := beq_iff_eq.2 hq
        have E := Lib.hid (MR.class_yes q1 hq)
        clear hq q1 HO HB hbk hfi BN
        obtain ⟨pn, ps, pr, pp⟩ := p
        simp only at *
        generalize str pn = s at *
        have hz : w.heap.size ≤ (wr.alloc (.cells #[.string s, .int .i64 ps, .int .i64 pr, .int .i64 pp] 50)).heap.size := B1.out.size
        have O2 := Lib.hid (O1.out.keep (below_new (wr.alloc (.cells #[.string s, .int .i64 ps, .int .i64 pr, .int .i64 pp] 50)) (.cells #[.int .i64 (k : Int)] 3)))
        have B2 := Lib.hid (B1.out.alloc hz (.cells #[.int .i64 (k : Int)] 3))
        have HX := Lib.hid (lone (heap_new (wr.alloc (.cells #[.string s, .int .i64 ps, .int .i64 pr, .int .i64 pp] 50)) (.cells #[.int .i64 (k : Int)] 3)))
        rw [World.size_alloc] at HX
        have hsz := B1.out.size
        simp only [World.size_alloc] at hsz
        clear B1 O1
        go_wp2_with (at_builtin; refine wpList_append_own _ rfl _ _ 22 rfl w.heap.size 3 i0 (.int .i64 0) 1 8 Try.underlying22 hi hz0 hz1 hz2 rfl (by decide) _ _ _ rfl O2.out.1 ⟨wr.heap.size + 1, 0, none⟩ 1 1 [.int .i64 (k : Int)] rfl rfl ?c1 ?c2 ?c3 ?c4 ?c5 ?_)
        case c1 => exact HX.out
        case c2 => intro u hu; rw [List.mem_singleton.1 hu]; rfl
        case c3 => unfold maxLen; omega
        case c4 => omega
        case c5 => simp; omega
        intro v' w2 hown' hgrow _
        have R := OwnL.app (x := (k : Int)) O2.out (by show _ ∧ _; constructor <;> omega) B2.out B2.out.size hown' hgrow
        rw [← E.out] at R
        have O3 := Lib.hid R.1
        have B3 := Lib.hid R.2
        clear R hown' hgrow O2 B2 HX E
        go_wp2
        go_roundw
        case rel => exact ⟨k + 1, by omega, by go_num, O3, B3⟩
        case measure => simp [intOf]; omega
      · have ht : (p.cls == cl) = false := beq_eq_false_iff_ne.2 hq
        rw [← MR.class_no q1 hq] at O1
        clear hq q1 HO HB hbk hfi BN
        obtain ⟨pn, ps, pr, pp⟩ := p
        simp only at *
        generalize str pn = s at *
        go_wp2
        go_roundw
        case rel => exact ⟨k + 1, by omega, by go_num, O1, B1⟩
        case measure => simp [intOf]; omega
    · obtain rfl : k = n := by omega
      have hcl := MR.class_len L cl k
      obtain ⟨A', c', rfl, hl⟩ := HO.out.form (by omega)
      have HL := Lib.hid hl
      clear hl HO
      go_wp2
      go_ret
      exact ⟨_, _, _, rfl, HL.out, HB.out⟩
set_option maxRecDepth 100000 in
set_option maxHeartbeats 1000000 in
theorem rclass_any (A : Option Addr) (n c : Nat) (L : List Bd) (cl : Int) (w : World) (h : Lst bdE w A n c L) (hn : n ≤ 100) :
    Calls Try.prog 18 #[.slice A n c, .int .i64 cl] w (GivesL intE (MR.classK L cl n) w) := by
  have hc := h.cap
  have H := Lib.hid h
  clear h
  obtain ⟨i0, hi, hz0, hz1, hz2⟩ := info_parts infoInt
  go_enter Try.func18, Try.ntmps18
  go_wp2
  go_loopw [5, 6] (fun v i wr => ∃ k : Nat, k ≤ n ∧ i = .int .i64 k ∧ Hid (OwnL intE 3 wr w.heap.size v (MR.classK L cl k)) ∧ Hid (Below w.heap.size w wr)) (fun _ i _ => n - (intOf i).toNat)
  case atStart => exact ⟨0, Nat.zero_le _, rfl, Lib.hid (OwnL.nil _ _ _), Lib.hid (Below.refl _ _)⟩
  case round =>
    obtain ⟨k, hk, rfl, HO, HB⟩ := hrel
    by_cases hlt : k < n
    · obtain ⟨ad, p, rfl, q1, hfi, hbk, x0, x1, x2, x3⟩ := bd_at (H.out.keep HB.out) hlt
      have hcl := MR.class_len L cl k
      by_cases hq : p.cls = cl
      · have ht : (p.cls == cl) = true := beq_iff_eq.2 hq
        have E := Lib.hid (MR.class_yes q1 hq)
        clear hq q1 hbk hfi
        obtain ⟨pn, ps, pr, pp⟩ := p
        simp only at *
        generalize str pn = s at *
        have O2 := Lib.hid (HO.out.keep (below_new wr (.cells #[.int .i64 (k : Int)] 3)))
        have B2 := Lib.hid (HB.out.alloc HB.out.size (.cells #[.int .i64 (k : Int)] 3))
        have HX := Lib.hid (lone (heap_new wr (.cells #[.int .i64 (k : Int)] 3)))
        have hsz := HB.out.size
        clear HB HO
        go_wp2_with (at_builtin; refine wpList_append_own _ rfl _ _ 22 rfl w.heap.size 3 i0 (.int .i64 0) 1 8 Try.underlying22 hi hz0 hz1 hz2 rfl (by decide) _ _ _ rfl O2.out.1 ⟨wr.heap.size, 0, none⟩ 1 1 [.int .i64 (k : Int)] rfl rfl ?c1 ?c2 ?c3 ?c4 ?c5 ?_)
        case c1 => exact HX.out
        case c2 => intro u hu; rw [List.mem_singleton.1 hu]; rfl
        case c3 => unfold maxLen; omega
        case c4 => omega
        case c5 => simp; omega
        intro v' w2 hown' hgrow _
        have R := OwnL.app (x := (k : Int)) O2.out (by show _ ∧ _; constructor <;> omega) B2.out B2.out.size hown' hgrow
        rw [← E.out] at R
        have O3 := Lib.hid R.1
        have B3 := Lib.hid R.2
        clear R hown' hgrow O2 B2 HX E
        go_wp2
        go_roundw
        case rel => exact ⟨k + 1, by omega, by go_num, O3, B3⟩
        case measure => simp [intOf]; omega
      · have ht : (p.cls == cl) = false := beq_eq_false_iff_ne.2 hq
        rw [← MR.class_no q1 hq] at HO
        clear hq q1 hbk hfi
        obtain ⟨pn, ps, pr, pp⟩ := p
        simp only at *
        generalize str pn = s at *
        go_wp2
        go_roundw
        case rel => exact ⟨k + 1, by omega, by go_num, HO, HB⟩
        case measure => simp [intOf]; omega
    · obtain rfl : k = n := by omega
      have hcl := MR.class_len L cl k
      obtain ⟨A', c', rfl, hl⟩ := HO.out.form (by omega)
      have HL := Lib.hid hl
      clear hl HO
      go_wp2
      go_ret
      exact ⟨_, _, _, rfl, HL.out, HB.out⟩
end Go.Proofs.Ytooeafpcbejpdaa
