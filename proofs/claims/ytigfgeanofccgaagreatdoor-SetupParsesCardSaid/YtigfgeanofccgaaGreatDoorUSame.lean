/- Setups compared with their like: the reference's Same. No claim of its own. -/
import Derived.Test.YtigfgeanofccgaaGreatDoorJUb
import Derived.Laws.StructEq
import Derived.BigQuiet
import Derived.Deep.DeepCutAuto
namespace Go.Proofs.YtigfgeanofccgaaGreatDoor
open Go.RowKit
open MU (Su Cp As)
set_option maxRecDepth 100000 in
theorem same_pr (s : ByteArray) (a b c d : Int) (w : World) : (Op.equalIn 10000 60 (.agg #[.string s, .int .i64 a, .int .i64 b, .int .i64 c, .int .i64 d]) (.agg #[.string s, .int .i64 a, .int .i64 b, .int .i64 c, .int .i64 d])).run Tryz.prog w = .ok true w := by
  have p0 : ∀ w, (part 9 #[.string s, .int .i64 a, .int .i64 b, .int .i64 c, .int .i64 d] 0).run Tryz.prog w = .ok (.string s) w := fun w => run_part_plain w (by kernel_rfl) rfl
  have p1 : ∀ w, (part 3 #[.string s, .int .i64 a, .int .i64 b, .int .i64 c, .int .i64 d] 1).run Tryz.prog w = .ok (.int .i64 a) w := fun w => run_part_plain w (by kernel_rfl) rfl
  have p2 : ∀ w, (part 2 #[.string s, .int .i64 a, .int .i64 b, .int .i64 c, .int .i64 d] 2).run Tryz.prog w = .ok (.int .i64 b) w := fun w => run_part_plain w (by kernel_rfl) rfl
  have p3 : ∀ w, (part 3 #[.string s, .int .i64 a, .int .i64 b, .int .i64 c, .int .i64 d] 3).run Tryz.prog w = .ok (.int .i64 c) w := fun w => run_part_plain w (by kernel_rfl) rfl
  have p4 : ∀ w, (part 3 #[.string s, .int .i64 a, .int .i64 b, .int .i64 c, .int .i64 d] 4).run Tryz.prog w = .ok (.int .i64 d) w := fun w => run_part_plain w (by kernel_rfl) rfl
  have eS := fun w => run_equalIn_string (P := Tryz.prog) w 9998 9 s s Tryz.underlying9
  have eI := fun w x => run_equalIn_int (P := Tryz.prog) w 9998 3 .i64 .i64 x x Tryz.underlying3
  have eJ := fun w x => run_equalIn_int (P := Tryz.prog) w 9998 2 .i64 .i64 x x Tryz.underlying2
  rw [run_equalIn_agg w 9999 _ _ _ (by unfold Program.fieldsOf; rw [Tryz.underlying60]) (by kernel_rfl)]
  simp [Program.fieldsOf, Tryz.underlying60, Op.eqFields, Sem.run_bind, p0, p1, p2, p3, p4, eS, eI, eJ]
set_option maxRecDepth 100000 in
theorem same_bd (s : ByteArray) (a b c : Int) (w : World) : (Op.equalIn 10000 64 (.agg #[.string s, .int .i64 a, .int .i64 b, .int .i64 c]) (.agg #[.string s, .int .i64 a, .int .i64 b, .int .i64 c])).run Tryz.prog w = .ok true w := by
  have p0 : ∀ w, (part 9 #[.string s, .int .i64 a, .int .i64 b, .int .i64 c] 0).run Tryz.prog w = .ok (.string s) w := fun w => run_part_plain w (by kernel_rfl) rfl
  have p1 : ∀ w, (part 3 #[.string s, .int .i64 a, .int .i64 b, .int .i64 c] 1).run Tryz.prog w = .ok (.int .i64 a) w := fun w => run_part_plain w (by kernel_rfl) rfl
  have p2 : ∀ w, (part 2 #[.string s, .int .i64 a, .int .i64 b, .int .i64 c] 2).run Tryz.prog w = .ok (.int .i64 b) w := fun w => run_part_plain w (by kernel_rfl) rfl
  have p3 : ∀ w, (part 3 #[.string s, .int .i64 a, .int .i64 b, .int .i64 c] 3).run Tryz.prog w = .ok (.int .i64 c) w := fun w => run_part_plain w (by kernel_rfl) rfl
  have eS := fun w => run_equalIn_string (P := Tryz.prog) w 9998 9 s s Tryz.underlying9
  have eI := fun w x => run_equalIn_int (P := Tryz.prog) w 9998 3 .i64 .i64 x x Tryz.underlying3
  have eJ := fun w x => run_equalIn_int (P := Tryz.prog) w 9998 2 .i64 .i64 x x Tryz.underlying2
  rw [run_equalIn_agg w 9999 _ _ _ (by unfold Program.fieldsOf; rw [Tryz.underlying64]) (by kernel_rfl)]
  simp [Program.fieldsOf, Tryz.underlying64, Op.eqFields, Sem.run_bind, p0, p1, p2, p3, eS, eI, eJ]
set_option maxRecDepth 100000 in
theorem same_cp (a b c : Int) (w : World) : (Op.equalIn 10000 66 (.agg #[.int .i64 a, .int .i64 b, .int .i64 c]) (.agg #[.int .i64 a, .int .i64 b, .int .i64 c])).run Tryz.prog w = .ok true w := by
  have p0 : ∀ w, (part 3 #[.int .i64 a, .int .i64 b, .int .i64 c] 0).run Tryz.prog w = .ok (.int .i64 a) w := fun w => run_part_plain w (by kernel_rfl) rfl
  have p1 : ∀ w, (part 3 #[.int .i64 a, .int .i64 b, .int .i64 c] 1).run Tryz.prog w = .ok (.int .i64 b) w := fun w => run_part_plain w (by kernel_rfl) rfl
  have p2 : ∀ w, (part 3 #[.int .i64 a, .int .i64 b, .int .i64 c] 2).run Tryz.prog w = .ok (.int .i64 c) w := fun w => run_part_plain w (by kernel_rfl) rfl
  have eI := fun w x => run_equalIn_int (P := Tryz.prog) w 9998 3 .i64 .i64 x x Tryz.underlying3
  rw [run_equalIn_agg w 9999 _ _ _ (by unfold Program.fieldsOf; rw [Tryz.underlying66]) (by kernel_rfl)]
  simp [Program.fieldsOf, Tryz.underlying66, Op.eqFields, Sem.run_bind, p0, p1, p2, eI]
set_option maxRecDepth 100000 in
theorem same_asd (a b c : Int) (w : World) : (Op.equalIn 10000 68 (.agg #[.int .i64 a, .int .i64 b, .int .i64 c]) (.agg #[.int .i64 a, .int .i64 b, .int .i64 c])).run Tryz.prog w = .ok true w := by
  have p0 : ∀ w, (part 3 #[.int .i64 a, .int .i64 b, .int .i64 c] 0).run Tryz.prog w = .ok (.int .i64 a) w := fun w => run_part_plain w (by kernel_rfl) rfl
  have p1 : ∀ w, (part 3 #[.int .i64 a, .int .i64 b, .int .i64 c] 1).run Tryz.prog w = .ok (.int .i64 b) w := fun w => run_part_plain w (by kernel_rfl) rfl
  have p2 : ∀ w, (part 3 #[.int .i64 a, .int .i64 b, .int .i64 c] 2).run Tryz.prog w = .ok (.int .i64 c) w := fun w => run_part_plain w (by kernel_rfl) rfl
  have eI := fun w x => run_equalIn_int (P := Tryz.prog) w 9998 3 .i64 .i64 x x Tryz.underlying3
  rw [run_equalIn_agg w 9999 _ _ _ (by unfold Program.fieldsOf; rw [Tryz.underlying68]) (by kernel_rfl)]
  simp [Program.fieldsOf, Tryz.underlying68, Op.eqFields, Sem.run_bind, p0, p1, p2, eI]
set_option maxRecDepth 100000 in
set_option maxHeartbeats 8000000 in
theorem rsame10_any (A1 : Option Addr) (n1 ac1 : Nat) (A2 : Option Addr) (n2 ac2 : Nat) (A3 : Option Addr) (n3 ac3 : Nat) (A4 : Option Addr) (n4 ac4 : Nat) (B1 : Option Addr) (m1 bc1 : Nat) (B2 : Option Addr) (m2 bc2 : Nat) (B3 : Option Addr) (m3 bc3 : Nat) (B4 : Option Addr) (m4 bc4 : Nat) (s : Su) (w : World) (h : SuAt w A1 n1 ac1 A2 n2 ac2 A3 n3 ac3 A4 n4 ac4 s) (h' : SuAt w B1 m1 bc1 B2 m2 bc2 B3 m3 bc3 B4 m4 bc4 s) :
    Calls Tryz.prog 12 #[.agg #[.slice A1 n1 ac1, .slice A2 n2 ac2, .slice A3 n3 ac3, .slice A4 n4 ac4], .agg #[.slice B1 m1 bc1, .slice B2 m2 bc2, .slice B3 m3 bc3, .slice B4 m4 bc4]] w (Gives (.bool true) w) := by
  obtain rfl : n1 = m1 := h.ps.len.symm.trans h'.ps.len
  obtain rfl : n2 = m2 := h.bs.len.symm.trans h'.bs.len
  obtain rfl : n3 = m3 := h.cs.len.symm.trans h'.cs.len
  obtain rfl : n4 = m4 := h.as_.len.symm.trans h'.as_.len
  have hn1 := h.ps.few
  have hn2 := h.bs.few
  have hn3 := h.cs.few
  have hn4 := h.as_.few
  have hc1 := h.ps.cap
  have hc2 := h.bs.cap
  have hc3 := h.cs.cap
  have hc4 := h.as_.cap
  have hd1 := h'.ps.cap
  have hd2 := h'.bs.cap
  have hd3 := h'.cs.cap
  have hd4 := h'.as_.cap
  have HB1 := Lib.hid (below_new w (.cells #[.slice A1 n1 ac1, .slice A2 n2 ac2, .slice A3 n3 ac3, .slice A4 n4 ac4] 27))
  have HB2 := Lib.hid (HB1.out.alloc HB1.out.size (.cells #[.slice B1 n1 bc1, .slice B2 n2 bc2, .slice B3 n3 bc3, .slice B4 n4 bc4] 27))
  have TX0 := Lib.hid (TB.new w 27 (.slice A1 n1 ac1) (.slice A2 n2 ac2) (.slice A3 n3 ac3) (.slice A4 n4 ac4))
  have hs1 : (w.alloc (.cells #[.slice A1 n1 ac1, .slice A2 n2 ac2, .slice A3 n3 ac3, .slice A4 n4 ac4] 27)).heap.size = w.heap.size + 1 := by simp
  have TX : Hid (TB ((w.alloc (.cells #[.slice A1 n1 ac1, .slice A2 n2 ac2, .slice A3 n3 ac3, .slice A4 n4 ac4] 27)).alloc (.cells #[.slice B1 n1 bc1, .slice B2 n2 bc2, .slice B3 n3 bc3, .slice B4 n4 bc4] 27)) w.heap.size 27 (.slice A1 n1 ac1) (.slice A2 n2 ac2) (.slice A3 n3 ac3) (.slice A4 n4 ac4)) := Lib.hid (TX0.out.keep (below_new _ _))
  have TY : Hid (TB ((w.alloc (.cells #[.slice A1 n1 ac1, .slice A2 n2 ac2, .slice A3 n3 ac3, .slice A4 n4 ac4] 27)).alloc (.cells #[.slice B1 n1 bc1, .slice B2 n2 bc2, .slice B3 n3 bc3, .slice B4 n4 bc4] 27)) (w.heap.size + 1) 27 (.slice B1 n1 bc1) (.slice B2 n2 bc2) (.slice B3 n3 bc3) (.slice B4 n4 bc4)) := Lib.hid (by have := TB.new (w.alloc (.cells #[.slice A1 n1 ac1, .slice A2 n2 ac2, .slice A3 n3 ac3, .slice A4 n4 ac4] 27)) 27 (.slice B1 n1 bc1) (.slice B2 n2 bc2) (.slice B3 n3 bc3) (.slice B4 n4 bc4); rwa [hs1] at this)
  have HH := Lib.hid (h.keep HB2.out)
  have HK := Lib.hid (h'.keep HB2.out)
  clear h h' TX0 hs1
  obtain ⟨W, hW⟩ : ∃ W, W = (w.alloc (.cells #[.slice A1 n1 ac1, .slice A2 n2 ac2, .slice A3 n3 ac3, .slice A4 n4 ac4] 27)).alloc (.cells #[.slice B1 n1 bc1, .slice B2 n2 bc2, .slice B3 n3 bc3, .slice B4 n4 bc4] 27) := ⟨_, rfl⟩
  rw [← hW] at HB2 TX TY HH HK
  have BW := Lib.hid HB2.out
  have e1 : ((n1 : Int) != (n1 : Int)) = false := by simp
  have e2 : ((n2 : Int) != (n2 : Int)) = false := by simp
  have e3 : ((n3 : Int) != (n3 : Int)) = false := by simp
  have e4 : ((n4 : Int) != (n4 : Int)) = false := by simp
  have TBX := TX
  have TBY := TY
  obtain ⟨t0, t1, t2, t3⟩ := TX.out.cells
  obtain ⟨u0, u1, u2, u3⟩ := TY.out.cells
  go_enter Tryz.func12, Tryz.ntmps12
  go_upto_region 1 with (fail)
  rw [← hW]
  clear hW HB1 HB2 TX TY
  go_wp2
  clear t0 t1 t2 t3 u0 u1 u2 u3 e1 e2 e3 e4
  go_loopw [5] (fun i wr => ∃ k q : Nat, k ≤ n1 ∧ i = .int .i64 k ∧ wr = W.drewN q) (fun i _ => n1 - (intOf i).toNat)
  case atStart => exact ⟨0, 0, Nat.zero_le _, rfl, rfl⟩
  case round =>
    obtain ⟨k, Q1, hk, rfl, rfl⟩ := hrel
    by_cases hlt : k < n1
    · obtain ⟨ad, p, rfl, e1, _, x0, x1, x2, x3, x4⟩ := HH.out.ps.at_ hlt
      obtain ⟨ad2, p2, rfl, e2, _, y0, y1, y2, y3, y4⟩ := HK.out.ps.at_ hlt
      obtain rfl : p = p2 := by rw [e1] at e2; injection e2
      have SM := same_pr (str p.name) p.supply p.reserve p.points p.group
      obtain ⟨t0, t1, t2, t3⟩ := TBX.out.cells
      obtain ⟨u0, u1, u2, u3⟩ := TBY.out.cells
      have hlt' : (k : Int) < (n1 : Int) := by omega
      clear e1 e2
      go_wp2
      go_quiet (fail)
      go_wp2
      go_roundw
      case rel => exact ⟨k + 1, _, by omega, by go_num, rfl⟩
      case measure => simp [intOf]; omega
    · have hlt' : ¬ (k : Int) < (n1 : Int) := by omega
      clear hk hlt
      obtain ⟨t0, t1, t2, t3⟩ := TBX.out.cells
      obtain ⟨u0, u1, u2, u3⟩ := TBY.out.cells
      go_wp2
      clear t0 t1 t2 t3 u0 u1 u2 u3
      go_loopw [6] (fun i wr => ∃ k q : Nat, k ≤ n2 ∧ i = .int .i64 k ∧ wr = W.drewN q) (fun i _ => n2 - (intOf i).toNat)
      case atStart => exact ⟨0, Q1, Nat.zero_le _, rfl, rfl⟩
      case round =>
        obtain ⟨k, Q2, hk, rfl, rfl⟩ := hrel
        by_cases hlt : k < n2
        · obtain ⟨ad, p, rfl, e1, _, _, x0, x1, x2, x3⟩ := bd_at HH.out.bs hlt
          obtain ⟨ad2, p2, rfl, e2, _, _, y0, y1, y2, y3⟩ := bd_at HK.out.bs hlt
          obtain rfl : p = p2 := by rw [e1] at e2; injection e2
          have SM := same_bd (str p.name) p.cls p.budget p.points
          obtain ⟨t0, t1, t2, t3⟩ := TBX.out.cells
          obtain ⟨u0, u1, u2, u3⟩ := TBY.out.cells
          have hlt' : (k : Int) < (n2 : Int) := by omega
          clear e1 e2
          go_wp2
          go_quiet (fail)
          go_wp2
          go_roundw
          case rel => exact ⟨k + 1, _, by omega, by go_num, rfl⟩
          case measure => simp [intOf]; omega
        · have hlt' : ¬ (k : Int) < (n2 : Int) := by omega
          clear hk hlt
          obtain ⟨t0, t1, t2, t3⟩ := TBX.out.cells
          obtain ⟨u0, u1, u2, u3⟩ := TBY.out.cells
          go_wp2
          clear t0 t1 t2 t3 u0 u1 u2 u3
          go_loopw [7] (fun i wr => ∃ k q : Nat, k ≤ n3 ∧ i = .int .i64 k ∧ wr = W.drewN q) (fun i _ => n3 - (intOf i).toNat)
          case atStart => exact ⟨0, Q2, Nat.zero_le _, rfl, rfl⟩
          case round =>
            obtain ⟨k, Q3, hk, rfl, rfl⟩ := hrel
            by_cases hlt : k < n3
            · obtain ⟨ad, p, rfl, e1, _, _, x0, x1, x2⟩ := cp_at HH.out.cs hlt
              obtain ⟨ad2, p2, rfl, e2, _, _, y0, y1, y2⟩ := cp_at HK.out.cs hlt
              obtain rfl : p = p2 := by rw [e1] at e2; injection e2
              have SM := same_cp p.bidder p.group p.units
              obtain ⟨t0, t1, t2, t3⟩ := TBX.out.cells
              obtain ⟨u0, u1, u2, u3⟩ := TBY.out.cells
              have hlt' : (k : Int) < (n3 : Int) := by omega
              clear e1 e2
              go_wp2
              go_quiet (fail)
              go_wp2
              go_roundw
              case rel => exact ⟨k + 1, _, by omega, by go_num, rfl⟩
              case measure => simp [intOf]; omega
            · have hlt' : ¬ (k : Int) < (n3 : Int) := by omega
              clear hk hlt
              obtain ⟨t0, t1, t2, t3⟩ := TBX.out.cells
              obtain ⟨u0, u1, u2, u3⟩ := TBY.out.cells
              go_wp2
              clear t0 t1 t2 t3 u0 u1 u2 u3
              go_loopw [8] (fun i wr => ∃ k q : Nat, k ≤ n4 ∧ i = .int .i64 k ∧ wr = W.drewN q) (fun i _ => n4 - (intOf i).toNat)
              case atStart => exact ⟨0, Q3, Nat.zero_le _, rfl, rfl⟩
              case round =>
                obtain ⟨k, Q4, hk, rfl, rfl⟩ := hrel
                by_cases hlt : k < n4
                · obtain ⟨ad, p, rfl, e1, _, _, x0, x1, x2⟩ := asd_at HH.out.as_ hlt
                  obtain ⟨ad2, p2, rfl, e2, _, _, y0, y1, y2⟩ := asd_at HK.out.as_ hlt
                  obtain rfl : p = p2 := by rw [e1] at e2; injection e2
                  have SM := same_asd p.product p.cls p.units
                  obtain ⟨t0, t1, t2, t3⟩ := TBX.out.cells
                  obtain ⟨u0, u1, u2, u3⟩ := TBY.out.cells
                  have hlt' : (k : Int) < (n4 : Int) := by omega
                  clear e1 e2
                  go_wp2
                  go_quiet (fail)
                  go_wp2
                  go_roundw
                  case rel => exact ⟨k + 1, _, by omega, by go_num, rfl⟩
                  case measure => simp [intOf]; omega
                · have hlt' : ¬ (k : Int) < (n4 : Int) := by omega
                  clear hk hlt
                  obtain ⟨t0, t1, t2, t3⟩ := TBX.out.cells
                  obtain ⟨u0, u1, u2, u3⟩ := TBY.out.cells
                  go_wp2
                  clear t0 t1 t2 t3 u0 u1 u2 u3
                  go_wp2
                  go_ret
                  exact ⟨rfl, BW.out.trans (below_drewN (Below.refl _ _) _ |>.mono BW.out.size)⟩
end Go.Proofs.YtigfgeanofccgaaGreatDoor
