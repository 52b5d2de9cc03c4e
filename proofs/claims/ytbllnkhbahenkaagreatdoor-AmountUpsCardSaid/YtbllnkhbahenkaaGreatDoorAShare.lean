/- The contract of Share: no claim of its own. -/
import Derived.Test.YtbllnkhbahenkaaGreatDoorAOrd
import Derived.Test.YtbllnkhbahenkaaGreatDoorAGive
import Derived.Test.YtbllnkhbahenkaaGreatDoorARShare
namespace Go.Proofs.YtbllnkhbahenkaaGreatDoor
open Go.RowKit MA
theorem Blk.wts {w : World} {b n : Nat} {f : Nat → Int} {t : TypeId} (h : Blk w b (F f n) t) (hn : n ≤ 40) : Wts w (some ⟨b, 0, none⟩) n n ((List.range n).map f) := Wts.of_blk h hn (Nat.le_refl _)
/-- What has been given once the first k whole parts are. -/
def fQ (t : Int) (ws : List Int) (k i : Nat) : Int := if i < k then (quo t.toNat (wN ws) ws.sum.toNat i : Int) else 0
theorem fQ_zero (t : Int) (ws : List Int) (i : Nat) : fQ t ws 0 i = 0 := if_neg (by omega)
theorem fQ_next (t : Int) (ws : List Int) (k : Nat) (q : Nat) (hq : quo t.toNat (wN ws) ws.sum.toNat k = q) (i : Nat) : fQ t ws (k + 1) i = if i = k then fQ t ws k k + q else fQ t ws k i := by
  unfold fQ
  by_cases e : i = k
  · subst e; rw [if_pos (by omega), if_pos rfl, if_neg (by omega), hq]; omega
  · rw [if_neg e]
    by_cases h1 : i < k
    · rw [if_pos (by omega), if_pos h1]
    · rw [if_neg (by omega), if_neg h1]
set_option maxRecDepth 100000 in
set_option maxHeartbeats 4000000 in
theorem share_any (t : Int) (A : Option Addr) (n c : Nat) (ws : List Int) (w : World) (h : Wts w A n c ws) :
    Calls Tryz.prog 31 #[.int .i64 t, .slice A n c] w (GivesL (shareR t ws).1 (shareR t ws).2 w) := by
  have hc := h.cap
  have hn := h.fewW
  have H := Lib.hid h
  have HL := Lib.hid h.len
  have CT := Lib.hid (fun W => check_any t W)
  have SO := Lib.hid (fun W (k : Wts W A n c ws) => sumOf_any A n c ws W k)
  clear h
  have hmf : ∀ (fn : Fn) (first cap : Array Value) (w : World), (Instr.makeFunc fn first cap).run Tryz.prog w = .ok (.func fn first cap) w := fun _ _ _ _ => rfl
  by_cases h0 : chk t = 0
  · rw [h0] at CT
    by_cases hs : (sumR ws).2 = 0
    · have SI := shareIn_of h0 hs
      have F1 : Hid (shareR t ws = (parts t ws, 0)) := Lib.hid (shareR_ok SI)
      rw [(sumR_zero hs).2.2] at SO
      have hzs : ws.sum = (ws.sum.toNat : Int) := by have := SI.sumN.2; omega
      have hsl := SI.sum_le (by rw [HL.out]; exact hn)
      have hsp := SI.div.pos
      have ht0 := SI.t0
      have ht1 := SI.t1
      have hn0 : 0 < n := by rw [← HL.out]; exact SI.pos
      have HS := Lib.hid SI
      obtain ⟨W, hW⟩ : ∃ W, ws.sum.toNat = W := ⟨_, rfl⟩
      have HWE := Lib.hid hW
      rw [hW] at hsl hsp hzs
      rw [hzs] at SO
      have hz0 : ((W : Int) == 0) = false := beq_eq_false_iff_ne.2 (by omega)
      clear hs h0 hW SI hzs
      obtain ⟨i0, hi0, hz0_, hz1, hz2⟩ := info_parts infoI64
      obtain ⟨w4, hmk, hown, hg⟩ := run_makeSlice_full (P := Tryz.prog) w w.heap.size 55 2 i0 (.int .i64 0) 1 Tryz.underlying55 hi0 hz0_ hz1 .i64 .i64 n (by omega) (by rw [hz2]; omega) (by unfold maxLen; omega) (Nat.le_refl _)
      have AR := Blk.of_own hown
      rw [zeros] at AR
      have B4 : Below w.heap.size w w4 := (Below.refl _ _).grown hg (Nat.le_refl _) (fun k e => by cases e)
      have hs4 := AR.lt
      obtain ⟨p, hp⟩ : ∃ p, w.heap.size = p := ⟨_, rfl⟩
      rw [hp] at hmk AR hs4
      obtain ⟨b, hbs⟩ : ∃ b, w4.heap.size = b := ⟨_, rfl⟩
      rw [hbs] at hs4
      have I2 := Lib.hid (Lf.zero t ws)
      have I0 : Hid (Sh w ((w4.alloc (.cells #[.slice (some ⟨p, 0, none⟩) n n] 55)).alloc (.cells #[.int .i64 t] 2)) p b n (fQ t ws 0) t) := Lib.hid (by
        have X1 := (Blk.new w4 #[.slice (some ⟨p, 0, none⟩) n n] 55).alloc (.cells #[.int .i64 t] 2)
        have X2 := Blk.new (w4.alloc (.cells #[.slice (some ⟨p, 0, none⟩) n n] 55)) #[.int .i64 t] 2
        rw [hbs] at X1
        rw [show (w4.alloc (.cells #[.slice (some ⟨p, 0, none⟩) n n] 55)).heap.size = b + 1 by simp [hbs]] at X2
        exact ⟨((AR.alloc _).alloc _).to (F_congr fun i _ => (fQ_zero t ws i).symm), X1, X2, (B4.alloc B4.size _).alloc (by have := B4.size; simp; omega) _, by omega, hs4⟩)
      clear hown hg AR B4
      go_enter Tryz.func31, Tryz.ntmps31
      go_wp2_with (first | (go_at_call 36; refine (CT.out _).mono ?_; rintro e w' ⟨rfl, rfl⟩) | (go_at_call 66; refine (SO.out _ H.out).mono ?_; rintro e w' ⟨rfl, rfl⟩))
      go_loopw [37] (fun i wr => ∃ (k : Nat) (y : Int), k ≤ n ∧ i = .int .i64 k ∧ 0 ≤ y ∧ y ≤ 1000000 ∧ Hid (Lf t ws k y) ∧ Hid (Sh w wr p b n (fQ t ws k) y)) (fun i _ => n - (intOf i).toNat)
      case atStart => exact ⟨0, t, by omega, rfl, ht0, ht1, I2, I0⟩
      case round =>
        clear I0 I2
        obtain ⟨k, y, hk, rfl, hy0, hy1, hL, hT⟩ := hrel
        by_cases hkt : k < n
        · obtain ⟨ad, rfl, hb, hcell⟩ := (H.out.keep hT.out.bel).at_ hkt
          obtain ⟨x, pp, q, r, hx, QQ⟩ := HS.out.qr k (by rw [HL.out]; exact hkt)
          rw [hx] at hcell
          have hxl := QQ.x1
          have hpl := QQ.p1
          have hql := QQ.q1
          have eqq := QQ.dq
          rw [HWE.out] at eqq
          have e1 : IntKind.i64.wrap (t * (x : Int)) = ((pp : Nat) : Int) := by
            rw [show t * (x : Int) = ((pp : Nat) : Int) by rw [QQ.e]; push_cast; rw [show ((t.toNat : Nat) : Int) = t by omega]]
            exact IntWalk.i64_in _ (by omega)
          have e3 : ((pp : Nat) : Int).tdiv (W : Int) = (q : Int) := by rw [Int.tdiv_eq_ediv_of_nonneg (by omega), ← eqq]; rfl
          have e3' : ((pp : Nat) : Int) / (W : Int) = (q : Int) := by rw [← eqq]; rfl
          have hL1 := Lib.hid (hL.out.next QQ.hq)
          have hyr := hL1.out.range HS.out (by rw [HL.out]; omega)
          have z0 : fQ t ws k k = 0 := if_neg (by omega)
          have GC := Lib.hid (give_sh (i := k) (u := (q : Int)) (g := fQ t ws (k + 1)) (m' := y - q) hT.out hkt hn (by rw [z0]; omega) (by rw [z0]; omega) (by omega) (by omega) (by omega) (by omega) (fun i _ => fQ_next t ws k q QQ.hq i) rfl)
          clear hx hb eqq QQ hL hT z0
          go_wp2_with fail
          refine GC.out.mono ?_
          rintro e w6 ⟨rfl, hS6, _⟩
          have S6 := Lib.hid hS6
          clear hS6 GC hcell
          go_wp2
          go_roundw
          case rel => exact ⟨k + 1, y - q, by omega, by go_num, hyr.1, hyr.2, hL1, S6⟩
          case measure => simp [intOf]; omega
        · obtain rfl : k = n := by omega
          have hM : y = (miss t.toNat (wN ws) k ws.sum.toNat : Int) := by
            have := hL.out
            rw [← HL.out] at this ⊢
            exact this.fin HS.out
          have hf := HS.out.div.fewW
          rw [HL.out] at hf
          have DV : Div t.toNat (wN ws) k ws.sum.toNat := by rw [← HL.out]; exact HS.out.div
          have BY := byRemainder_any A k c ws t.toNat ws.sum.toNat wr (H.out.keep hT.out.bel) HS.out.ok hn0 (by omega) DV.pos (by rw [HWE.out]; exact hsl)
          rw [show ((ws.sum.toNat : Nat) : Int) = (W : Int) by rw [HWE.out], show ((t.toNat : Nat) : Int) = t by omega] at BY
          have BYH := Lib.hid BY
          have S0 : Hid (Sh w wr p b k (fun i => (MA.partAt t.toNat (wN ws) k ws.sum.toNat 0 i : Int)) ((miss t.toNat (wN ws) k ws.sum.toNat : Nat) : Int)) := Lib.hid (hT.out.eq (fun i hi => by rw [partAt_zero]; exact if_pos hi) hM)
          have HP := Lib.hid (fun i (hi : i < k) m (hm : m ≤ miss t.toNat (wN ws) k ws.sum.toNat) => partAt_le DV hi hm)
          have PE : Hid (parts t ws = (List.range k).map fun i => (MA.partAt t.toNat (wN ws) k ws.sum.toNat (miss t.toNat (wN ws) k ws.sum.toNat) i : Int)) := Lib.hid (by unfold parts partsAt; rw [HL.out])
          clear hL hT BY DV
          generalize miss t.toNat (wN ws) k ws.sum.toNat = M at *
          subst hM
          go_wp2_with fail
          refine BYH.out.mono ?_
          rintro e w7 ⟨g, s, rfl, hO, hA, hgl, hb7⟩
          have S7 := S0.out.keep hb7
          have HOr := Lib.hid hO
          have hsl7 : s.length = k := hO.len
          have SL := Lib.hid hsl7
          have hg1 : g ≠ p ∧ g ≠ b + 1 := by
            have h1 := S0.out.arr.lt
            have h2 := S0.out.mis.lt
            omega
          have dM : w7.cell? ⟨b + 1, 0, none⟩ = some (.int .i64 (M : Int)) := S7.mis.cell rfl
          have I7 : Hid (Sh w w7 p b k (fun i => (MA.partAt t.toNat (wN ws) k ws.sum.toNat 0 i : Int)) ((M : Int) - (0 : Nat)) ∧ Blk w7 g (s.map fun i : Nat => Value.int .i64 (i : Int)) 3) := Lib.hid ⟨S7.eq (fun _ _ => rfl) (by omega), hA⟩
          clear S0 S7 hb7 hO hA BYH hsl7 hgl
          go_wp2
          go_loopw [59] (fun i wr => ∃ j : Nat, j ≤ M ∧ i = .int .i64 j ∧ Hid (Sh w wr p b k (fun i => (MA.partAt t.toNat (wN ws) k ws.sum.toNat j i : Int)) ((M : Int) - j) ∧ Blk wr g (s.map fun i : Nat => Value.int .i64 (i : Int)) 3)) (fun i _ => M - (intOf i).toNat)
          case atStart => exact ⟨0, by omega, rfl, I7⟩
          case round =>
            clear I7 dM
            obtain ⟨j, hj, rfl, hi⟩ := hrel
            by_cases hjt : j < M
            · have hjs : j < s.length := by rw [SL.out]; omega
              obtain ⟨ii, hii⟩ : ∃ ii, s[j] = ii := ⟨_, rfl⟩
              have hin : ii < k := by rw [← hii]; exact (HOr.out.mem _).1 (List.getElem_mem hjs)
              have d1 : wr.cell? ⟨g, j, none⟩ = some (.int .i64 (ii : Int)) := hi.out.2.cell (by rw [List.getElem?_map, List.getElem?_eq_getElem hjs, hii]; rfl)
              have pl := HP.out ii hin j (by omega)
              have GC := Lib.hid (give_sh (i := ii) (u := 1) (g := fun i => (MA.partAt t.toNat (wN ws) k ws.sum.toNat (j + 1) i : Int)) (m' := (M : Int) - (j + 1 : Nat)) hi.out.1 hin hn (by omega) (by show ((MA.partAt t.toNat (wN ws) k ws.sum.toNat j ii : Nat) : Int) ≤ 10000000; omega) (by omega) (by omega) (by omega) (by omega)
                (fun i hi' => by
                  show ((MA.partAt t.toNat (wN ws) k ws.sum.toNat (j + 1) i : Nat) : Int) = if i = ii then ((MA.partAt t.toNat (wN ws) k ws.sum.toNat j ii : Nat) : Int) + 1 else ((MA.partAt t.toNat (wN ws) k ws.sum.toNat j i : Nat) : Int)
                  by_cases e : i = ii
                  · subst e
                    rw [if_pos rfl]
                    have := partAt_same HOr.out hjs
                    rw [hii] at this
                    rw [this]; push_cast; rfl
                  · rw [if_neg e, partAt_other HOr.out hjs hi' (by rw [hii]; exact e)]) (by push_cast; omega))
              have HA := Lib.hid hi.out.2
              clear hi hii pl hjs
              go_wp2_with fail
              refine GC.out.mono ?_
              rintro e w8 ⟨rfl, hS8, hB8⟩
              have I8 : Hid (Sh w w8 p b k (fun i => (MA.partAt t.toNat (wN ws) k ws.sum.toNat (j + 1) i : Int)) ((M : Int) - (j + 1 : Nat)) ∧ Blk w8 g (s.map fun i : Nat => Value.int .i64 (i : Int)) 3) := Lib.hid ⟨hS8, hB8 _ _ _ HA.out hg1.1 hg1.2⟩
              clear hS8 hB8 GC d1 HA
              go_wp2
              go_roundw
              case rel => exact ⟨j + 1, by omega, by go_num, I8⟩
              case measure => simp [intOf]; omega
            · obtain rfl : j = M := by omega
              have d9 : wr.cell? ⟨b, 0, none⟩ = some (.slice (some ⟨p, 0, none⟩) k k) := hi.out.1.box.cell rfl
              have FF : Hid (GivesL (shareR t ws).1 (shareR t ws).2 w (.returned (.tuple #[.slice (some ⟨p, 0, none⟩) k k, .int .i64 0])) wr) := Lib.hid (by
                rw [F1.out, PE.out]
                exact ⟨_, _, _, rfl, hi.out.1.arr.wts hn, hi.out.1.bel⟩)
              clear hi
              go_wp2
              go_ret2
              exact FF.out
    · have hne := sumR_snd ws
      have F1 : Hid (shareR t ws = ([], (sumR ws).2)) := Lib.hid (shareR_sum h0 rfl hs)
      have hb : ((sumR ws).2 != 0) = true := by simpa using hs
      clear h0 hs hne
      generalize (sumR ws).2 = er at *
      generalize (sumR ws).1 = sm at *
      go_enter Tryz.func31, Tryz.ntmps31
      go_wp2_with (first | (go_at_call 36; refine (CT.out _).mono ?_; rintro e w' ⟨rfl, rfl⟩) | (go_at_call 66; refine (SO.out _ H.out).mono ?_; rintro e w' ⟨rfl, rfl⟩))
      go_ret2
      rw [F1.out]
      exact GivesL.nil _ _ _ (Below.refl _ _)
  · have hch : chk t = 4 := chk_bad (by
      rcases Int.lt_or_le t 0 with h | h
      · exact .inl h
      · rcases Int.lt_or_le 1000000 t with h2 | h2
        · exact .inr h2
        · exact absurd (chk_ok h h2) h0)
    have F0 : Hid (shareR t ws = ([], 4)) := Lib.hid (shareR_bad ws h0)
    rw [hch] at CT
    clear h0 hch
    go_enter Tryz.func31, Tryz.ntmps31
    go_wp2_with (go_at_call 36; refine (CT.out _).mono ?_; rintro e w' ⟨rfl, rfl⟩)
    go_ret2
    rw [F0.out]
    exact GivesL.nil _ _ _ (Below.refl _ _)
end Go.Proofs.YtbllnkhbahenkaaGreatDoor
