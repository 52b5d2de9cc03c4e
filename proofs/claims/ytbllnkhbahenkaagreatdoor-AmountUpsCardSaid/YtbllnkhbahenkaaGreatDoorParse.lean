/- The contract of timesTenPlus: no claim of its own. -/
import Derived.Test.YtbllnkhbahenkaaGreatDoorDivS
import Derived.Test.YtbllnkhbahenkaaGreatDoorBase
import Derived.Test.YtbllnkhbahenkaaGreatDoorMaths
namespace Go.Proofs.YtbllnkhbahenkaaGreatDoor
open Go.RowKit
/-- What holds after k digits. -/
def TenInv (B n : Nat) (v : Value) (xs : List Nat) (d : Nat) (w : World) (k cy : Nat) (wr : World) : Prop :=
  ∃ cur, Own wr B v cur ∧ cur.length = n ∧ Below B w wr ∧ (∀ j, k ≤ j → cur.getD j 0 = xs.getD j 0) ∧ dval cur + 4294967296 ^ k * cy = dval xs + 9 * dval (xs.take k) + d
theorem ten_math (P D r q x cy V T d S : Nat) (h1 : D + P * cy = V + 9 * T + d) (h2 : S + P * x = D + P * r) (h3 : 4294967296 * q + r = cy + 10 * x) : S + P * 4294967296 * q = V + 9 * (T + P * x) + d := by grind
theorem Own.set {w : World} {B g n c : Nat} {xs : List Nat} (h : Own w B (.slice (some ⟨g, 0, none⟩) n c) xs) (hn : xs.length = n) (k d : Nat) (hd : d < 4294967296) :
    Own (w.setCell ⟨g, k, none⟩ (.int .u32 (d : Int))) B (.slice (some ⟨g, 0, none⟩) n c) (xs.set k d) := by
  subst hn
  exact ⟨by have := (h.own.stored k (.int .u32 (d : Int))).1; simpa [Dg, List.map_set] using this, lt_set h.lt k d hd⟩
theorem Own.base {w : World} {B g n c : Nat} {xs : List Nat} (h : Own w B (.slice (some ⟨g, 0, none⟩) n c) xs) : B ≤ g := (h.own.lt g rfl).1
theorem Own.cell {w : World} {B g n c : Nat} {xs : List Nat} (h : Own w B (.slice (some ⟨g, 0, none⟩) n c) xs) (hn : xs.length = n) {k : Nat} (hk : k < n) : w.cell? ⟨g, k, none⟩ = some (.int .u32 ((xs.getD k 0 : Nat) : Int)) := by
  subst hn
  rw [h.own.cellAt k (by omega), Dg_at xs k hk]
  simp [hk]
theorem TenInv.step {B n g c : Nat} {xs : List Nat} {d : Nat} {w wr : World} {k cy x : Nat} (h : TenInv B n (.slice (some ⟨g, 0, none⟩) n c) xs d w k cy wr) (hk : k < n) (hx : xs.getD k 0 = x) (u : Int) (hu : u = (((cy + 10 * x) % 4294967296 : Nat) : Int)) :
    TenInv B n (.slice (some ⟨g, 0, none⟩) n c) xs d w (k + 1) ((cy + 10 * x) / 4294967296) (wr.setCell ⟨g, k, none⟩ (.int .u32 u)) := by
  subst hu
  obtain ⟨cur, hO, hl, hb, he, hv⟩ := h
  refine ⟨cur.set k ((cy + 10 * x) % 4294967296), hO.set hl _ _ (Nat.mod_lt _ (by decide)), by simpa using hl, hb.setCell hO.base _, fun j hj => ?_, ?_⟩
  · rw [getD_set _ _ _ _ (by omega), if_neg (by omega)]; exact he j (by omega)
  · have h1 := dval_set cur k ((cy + 10 * x) % 4294967296) (by omega)
    rw [he k (Nat.le_refl _), hx] at h1
    rw [dval_take_succ', hx, Nat.pow_succ]
    exact ten_math _ _ _ _ _ _ _ _ _ _ hv h1 (Nat.div_add_mod _ _)
theorem tight_of_ge (xs : List Nat) (hl : ∀ d ∈ xs, d < 4294967296) (h : xs.length = 0 ∨ 4294967296 ^ (xs.length - 1) ≤ dval xs) : Tight xs := by
  rcases h with h | h
  · exact .inl h
  · rcases Nat.eq_zero_or_pos xs.length with h0 | h0
    · exact .inl h0
    · right
      intro hz
      have e : dval (xs.take (xs.length - 1)) = dval xs := dval_take xs _ fun j hj => by
        rcases Nat.lt_or_ge j xs.length with h1 | h1
        · rw [show j = xs.length - 1 by omega]; exact hz
        · rw [List.getD_eq_getElem?_getD, List.getElem?_eq_none h1]; rfl
      have := dval_lt (xs.take (xs.length - 1)) fun d hd => hl d (List.mem_of_mem_take hd)
      rw [e, List.length_take, Nat.min_eq_left (by omega)] at this
      omega
theorem tight_snoc (xs : List Nat) (d : Nat) (hd : d ≠ 0) : Tight (xs ++ [d]) := by
  right; simpa [List.getD_eq_getElem?_getD] using hd
def TenGives (B n a : Nat) (w : World) (e : Ending) (w' : World) : Prop := ∃ v ys, e = .returned v ∧ Own w' B v ys ∧ ys.length ≤ n + 1 ∧ Tight ys ∧ dval ys = a ∧ Below B w w'
theorem TenInv.same {B n : Nat} {v : Value} {xs : List Nat} {d : Nat} {w wr : World} (h : TenInv B n v xs d w n 0 wr) (hn : xs.length = n) (ht : Tight xs) : TenGives B n (10 * dval xs + d) w (.returned v) wr := by
  obtain ⟨cur, hO, hl, hb, he, hv⟩ := h
  rw [List.take_of_length_le (by omega), Nat.mul_zero] at hv
  refine ⟨v, cur, rfl, hO, by omega, tight_of_ge cur hO.lt ?_, by omega, hb⟩
  rcases Nat.eq_zero_or_pos n with h0 | h0
  · left; omega
  · right
    have := dval_pos xs (by omega) ht
    rw [hn] at this
    rw [hl]
    omega
theorem TenInv.more {B n cy : Nat} {v v' : Value} {xs : List Nat} {d : Nat} {w wr w1 : World} {o : Obj} {out : List Nat} (hO : Own wr B v out) (hl : out.length = n) (hb : Below B w wr) (hv : dval out + 4294967296 ^ n * cy = dval xs + 9 * dval (xs.take n) + d) (hn : xs.length = n) (hc : cy ≠ 0) (hc2 : cy < 4294967296) (hs : B ≤ wr.heap.size) (hown : w1.ownsRow B 52 1 v' (out.length + 1) (Dg out ++ [.int .u32 (cy : Int)]))
    (hg : (wr.alloc o).grownBy w1 v.ownBlock) : TenGives B n (10 * dval xs + d) w (.returned v') w1 := by
  have R := hO.app hb hs hown rfl hc2 hg
  rw [List.take_of_length_le (by omega)] at hv
  refine ⟨v', out ++ [cy], rfl, R.1, by simp; omega, tight_snoc _ _ hc, ?_, R.2⟩
  rw [dval_append, hl]
  simp only [dval, Nat.mul_zero, Nat.add_zero]
  omega
set_option maxRecDepth 100000 in
set_option maxHeartbeats 2000000 in
theorem timesTen_any (v : Value) (xs : List Nat) (n d B : Nat) (w : World) (h : Own w B v xs) (hn : xs.length = n) (hs : n ≤ 1000000) (ht : Tight xs) (hd : d ≤ 9) (hB : B ≤ w.heap.size) :
    Calls Tryz.prog 94 #[v, .int .u32 d] w (TenGives B n (10 * dval xs + d) w) := by
  obtain ⟨i0, hi0, hz0, hz1, hz2⟩ := info_parts infoU32
  have I0 : Hid (TenInv B n v xs d w 0 d w) := Lib.hid ⟨xs, h, hn, Below.refl _ _, fun _ _ => rfl, by simp [dval]⟩
  have HT := Lib.hid ht
  have HN := Lib.hid hn
  have shape : (v = .slice none 0 0 ∧ n = 0) ∨ ∃ g c, v = .slice (some ⟨g, 0, none⟩) n c := by
    rcases h.own.2 with ⟨h1, h2⟩ | ⟨g, cap, cur, h1, _⟩
    · exact .inl ⟨h1, by omega⟩
    · exact .inr ⟨g, cap, by rw [h1, hn]⟩
  clear h ht hn
  rcases shape with ⟨rfl, rfl⟩ | ⟨g, c, rfl⟩
  all_goals
    go_enter Tryz.func94, Tryz.ntmps94
    go_wp2
  · go_loopw [5, 11] (fun cv i wr => cv = .int .u64 d ∧ i = .int .i64 0 ∧ wr = w) (fun _ _ _ => 0)
    case atStart => exact ⟨rfl, rfl, rfl⟩
    case round =>
      obtain ⟨rfl, rfl, rfl⟩ := hrel
      obtain ⟨out, hO, hl, hb, he, hv⟩ := I0.out
      have HO := Lib.hid hO
      have HL := Lib.hid hl
      have HV := Lib.hid hv
      by_cases h0 : d = 0
      · subst h0
        have F := Lib.hid (I0.out.same HN.out HT.out)
        clear hO hl hb he hv I0
        go_wp2
        go_ret
        exact F.out
      · have hd0 : 0 < d := by omega
        have HD := Lib.hid h0
        clear hO hl hb he hv I0 h0
        go_wp2_with (at_builtin; refine wpList_append_own _ rfl _ _ 23 rfl B 52 i0 (.int .u32 0) 1 4 Tryz.underlying23 hi0 hz0 hz1 hz2 rfl (by decide) _ _ _ rfl (HO.out.own.alloc _) ⟨wr.heap.size, 0, none⟩ 1 1 [.int .u32 (d : Int)] rfl rfl ?c1 ?c2 ?c3 ?c4 ?c5 ?_)
        case c1 =>
          intro j u hj
          match j, hj with
          | 0, hj => simp at hj; subst hj; simp [Addr.add]
        case c2 => intro u hu; simp at hu; subst hu; rfl
        case c3 => have := HL.out; unfold maxLen; omega
        case c4 => have := HL.out; omega
        case c5 => simp; omega
        intro v' w1 hown' hgrow _
        have F := Lib.hid (TenInv.more HO.out HL.out (Below.refl _ _) HV.out HN.out HD.out (by omega) hB hown' hgrow)
        clear hown' hgrow
        go_wp2
        go_ret
        exact F.out
  · go_loopw [5, 11] (fun cv i wr => ∃ k cy : Nat, k ≤ n ∧ cy ≤ 9 ∧ i = .int .i64 k ∧ cv = .int .u64 cy ∧ Hid (TenInv B n (.slice (some ⟨g, 0, none⟩) n c) xs d w k cy wr)) (fun _ i _ => n - (intOf i).toNat)
    case atStart => exact ⟨0, d, by omega, by omega, rfl, rfl, I0⟩
    case round =>
      obtain ⟨k, cy, hk, hcy, rfl, rfl, hi⟩ := hrel
      obtain ⟨out, hO, hl, hb, he, hv⟩ := hi.out
      have hss := hb.size
      by_cases hlt : k < n
      · have hcell := hO.cell hl hlt
        have hfk : wr.frozen? ⟨g, k, none⟩ = false := by
          have hO' := hO.own
          rw [hl] at hO'
          exact hO'.frozenAt k
        have hx := getD_lt_of hO.lt k
        rw [he k (Nat.le_refl _)] at hcell hx
        obtain ⟨x, hxe⟩ : ∃ x, xs.getD k 0 = x := ⟨_, rfl⟩
        have S := Lib.hid (hi.out.step hlt hxe (((cy : Int) + 10 * (x : Int)) % 4294967296) (by omega))
        rw [hxe] at hcell hx
        clear hO hl hb he hv hi I0 hxe
        go_wp2
        go_roundw
        case rel => exact ⟨k + 1, (cy + 10 * x) / 4294967296, by omega, by omega, by go_num, by go_num, S⟩
        case measure => simp [intOf]; omega
      · obtain rfl : k = n := by omega
        have HO := Lib.hid hO
        have HL := Lib.hid hl
        have HV := Lib.hid hv
        have HB := Lib.hid hb
        by_cases h0 : cy = 0
        · subst h0
          have F := Lib.hid (hi.out.same HN.out HT.out)
          clear hO hl hb he hv hi I0
          go_wp2
          go_ret
          exact F.out
        · have hd0 : 0 < cy := by omega
          have HD := Lib.hid h0
          clear hO hl hb he hv hi I0 h0
          go_wp2_with (at_builtin; refine wpList_append_own _ rfl _ _ 23 rfl B 52 i0 (.int .u32 0) 1 4 Tryz.underlying23 hi0 hz0 hz1 hz2 rfl (by decide) _ _ _ rfl (HO.out.own.alloc _) ⟨wr.heap.size, 0, none⟩ 1 1 [.int .u32 (cy : Int)] rfl rfl ?e1 ?e2 ?e3 ?e4 ?e5 ?_)
          case e1 =>
            intro j u hj
            match j, hj with
            | 0, hj => simp at hj; subst hj; simp [Addr.add]
          case e2 => intro u hu; simp at hu; subst hu; rfl
          case e3 => have := HL.out; unfold maxLen; omega
          case e4 => have := HL.out; omega
          case e5 => simp; omega
          intro v' w1 hown' hgrow _
          have F := Lib.hid (TenInv.more HO.out HL.out HB.out HV.out HN.out HD.out (by omega) (by omega) hown' hgrow)
          clear hown' hgrow
          go_wp2
          go_ret
          exact F.out
end Go.Proofs.YtbllnkhbahenkaaGreatDoor
/- The contract of checkDecimal: no claim of its own. -/
namespace Go.Proofs.YtbllnkhbahenkaaGreatDoor
open Go.RowKit
set_option maxRecDepth 100000 in
set_option maxHeartbeats 1000000 in
theorem checkDecimal_any (s : ByteArray) (w : World) (hs : s.size ≤ 140737488351232) :
    Calls Tryz.prog 93 #[.string s] w fun e w' => e = .returned (.int .i64 (parseErr s.data.toList : Nat)) ∧ w = w' := by
  have hl := size_list s
  by_cases h0 : s.size = 0
  · have P := Lib.hid (parseErr_short s.data.toList (by omega))
    have hz : ((s.size : Int) == 0) = true := beq_iff_eq.2 (by omega)
    clear hl h0
    go_enter Tryz.func93, Tryz.ntmps93
    go_wp2
    go_ret
    exact ⟨by rw [P.out]; rfl, rfl⟩
  · have hz : ((s.size : Int) == 0) = false := beq_eq_false_iff_ne.2 (by omega)
    have hp : 0 < s.size := by omega
    by_cases h6 : 600 < s.size
    · have P := Lib.hid (parseErr_long s.data.toList (by omega))
      clear hl h0
      go_enter Tryz.func93, Tryz.ntmps93
      go_wp2
      go_ret
      exact ⟨by rw [P.out]; rfl, rfl⟩
    · have PB := Lib.hid (parseErr_bad s.data.toList (by omega) (by omega))
      have PO := Lib.hid (parseErr_ok s.data.toList (by omega) (by omega))
      have H0 := Lib.hid (getD_zero s hp)
      have HL := Lib.hid hl
      clear hl h0
      by_cases h48 : s[0].toNat = 48
      · have e0 : s[0] = 48 := UInt8.toNat_inj.1 h48
        have E0 := Lib.hid e0
        have hb : ((s[0].toNat : Int) == 48) = true := beq_iff_eq.2 (by omega)
        clear e0 h48
        by_cases h1 : 1 < s.size
        · have P : Hid (parseErr s.data.toList = 2) := Lib.hid (PB.out (.inl ⟨by rw [H0.out, E0.out], by rw [HL.out]; exact h1⟩))
          clear PB PO
          go_enter Tryz.func93, Tryz.ntmps93
          go_wp2
          go_ret
          exact ⟨by rw [P.out]; rfl, rfl⟩
        · have P : Hid (parseErr s.data.toList = 0) := Lib.hid (PO.out (fun h => h1 (by have := h.2; rw [HL.out] at this; exact this)) (all_of_index s isDig fun j hj => by
            obtain rfl : j = 0 := by omega
            rw [E0.out]; exact ⟨by decide, by decide⟩))
          have hsz : s.size ≤ 1 := by omega
          clear PB PO
          go_enter Tryz.func93, Tryz.ntmps93
          go_wp2
          go_loop [23] (fun i => ∃ k : Nat, k ≤ s.size ∧ i = .int .i64 k) (fun i => s.size - (intOf i).toNat)
          case atStart => exact ⟨0, by omega, rfl⟩
          case round =>
            obtain ⟨k, hk, rfl⟩ := hrel
            by_cases hlt : k < s.size
            · obtain rfl : k = 0 := by omega
              have b1 : (48 : Int) ≤ (s[0].toNat : Int) := by rw [E0.out]; decide
              have b2 : (s[0].toNat : Int) ≤ 57 := by rw [E0.out]; decide
              go_wp2
              go_round
              case rel => exact ⟨1, by omega, rfl⟩
              case measure => simp [intOf]; omega
            · go_wp2
              go_ret
              exact ⟨by rw [P.out]; rfl, rfl⟩
      · have hb : ((s[0].toNat : Int) == 48) = false := beq_eq_false_iff_ne.2 (by omega)
        have N0 : Hid (¬ (s.data.toList.getD 0 0 = 48 ∧ 1 < s.data.toList.length)) := Lib.hid fun h => h48 (by
          have := h.1
          rw [H0.out] at this
          rw [this]; rfl)
        clear h48
        go_enter Tryz.func93, Tryz.ntmps93
        go_wp2
        go_loop [23] (fun i => ∃ k : Nat, k ≤ s.size ∧ i = .int .i64 k ∧ Hid (∀ (j : Nat) (hj : j < s.size), j < k → isDig s[j])) (fun i => s.size - (intOf i).toNat)
        case atStart => exact ⟨0, by omega, rfl, Lib.hid fun j hj h => by omega⟩
        case round =>
          obtain ⟨k, hk, rfl, hd⟩ := hrel
          by_cases hlt : k < s.size
          · by_cases hc1 : s[k].toNat < 48
            · have P : Hid (parseErr s.data.toList = 2) := Lib.hid (PB.out (.inr fun h => by have := (h _ (mem_index s k hlt)).1; omega))
              clear PB PO hd
              have hc : (s[k].toNat : Int) < 48 := by omega
              go_wp2
              go_ret
              exact ⟨by rw [P.out]; rfl, rfl⟩
            · have hc : (48 : Int) ≤ (s[k].toNat : Int) := by omega
              by_cases hc2 : 57 < s[k].toNat
              · have P : Hid (parseErr s.data.toList = 2) := Lib.hid (PB.out (.inr fun h => by have := (h _ (mem_index s k hlt)).2; omega))
                clear PB PO hd
                have hc' : (57 : Int) < (s[k].toNat : Int) := by omega
                go_wp2
                go_ret
                exact ⟨by rw [P.out]; rfl, rfl⟩
              · have R : Hid (∀ (j : Nat) (hj : j < s.size), j < k + 1 → isDig s[j]) := Lib.hid fun j hj h => by
                  rcases Nat.lt_or_ge j k with h1 | h1
                  · exact hd.out j hj h1
                  · obtain rfl : j = k := by omega
                    exact ⟨by omega, by omega⟩
                have hc' : (s[k].toNat : Int) ≤ 57 := by omega
                clear hd
                go_wp2
                go_round
                case rel => exact ⟨k + 1, by omega, by go_num, R⟩
                case measure => simp [intOf]; omega
          · have P : Hid (parseErr s.data.toList = 0) := Lib.hid (PO.out N0.out (all_of_index s isDig fun j hj => hd.out j hj (by omega)))
            clear PB PO hd
            go_wp2
            go_ret
            exact ⟨by rw [P.out]; rfl, rfl⟩
end Go.Proofs.YtbllnkhbahenkaaGreatDoor
/- The contract of natural.Parse: no claim of its own. -/
namespace Go.Proofs.YtbllnkhbahenkaaGreatDoor
open Go.RowKit
/-- What Parse hands back: the number, or zero and the error. -/
def GivesParse (a k : Nat) (w : World) (e : Ending) (w' : World) : Prop :=
  ∃ A n c xs, e = .returned (.tuple #[.slice A n c, .int .i64 k]) ∧ Num w' A n c xs a ∧ Below w.heap.size w w'
def ParseInv (B : Nat) (l : List UInt8) (k : Nat) (w : World) (v : Value) (wr : World) : Prop :=
  ∃ ys, Own wr B v ys ∧ ys.length ≤ k ∧ Tight ys ∧ dval ys = decVal (l.take k) ∧ Below B w wr
set_option maxRecDepth 100000 in
set_option maxHeartbeats 1000000 in
theorem parse_any (s : ByteArray) (w : World) (hs : s.size ≤ 140737488351232) :
    Calls Tryz.prog 58 #[.string s] w (GivesParse (if parseErr s.data.toList = 0 then decVal s.data.toList else 0) (parseErr s.data.toList) w) := by
  have C := Lib.hid (fun w' => checkDecimal_any s w' hs)
  by_cases hp : parseErr s.data.toList = 0
  · have hok := parseErr_zero _ hp
    have hz : s.size ≤ 600 := by have := hok.2.1; rw [size_list] at this; exact this
    have HK := Lib.hid hok
    have HP := Lib.hid hp
    have hp2 : Hid ((if parseErr s.data.toList = 0 then decVal s.data.toList else 0) = decVal s.data.toList) := Lib.hid (if_pos hp)
    have I0 : Hid (ParseInv w.heap.size s.data.toList 0 w (.slice none 0 0) w) := Lib.hid ⟨[], Own.nil _ _, by simp, .inl rfl, rfl, Below.refl _ _⟩
    clear hok hp
    go_enter Tryz.func58, Tryz.ntmps58
    go_wp2_with fail
    refine (C.out _).mono ?_
    rintro e w' ⟨rfl, rfl⟩
    rw [HP.out]
    go_wp2
    go_loopw [5, 14] (fun v i wr => ∃ k : Nat, k ≤ s.size ∧ i = .int .i64 k ∧ Hid (ParseInv w.heap.size s.data.toList k w v wr)) (fun _ i _ => s.size - (intOf i).toNat)
    case atStart => exact ⟨0, by omega, rfl, I0⟩
    case round =>
      obtain ⟨k, hk, rfl, hi⟩ := hrel
      obtain ⟨ys, hO, hl, ht, hv, hb⟩ := hi.out
      by_cases hlt : k < s.size
      · have hdig := HK.out.2.2.2 _ (mem_index s k hlt)
        have b1 : (48 : Int) ≤ (s[k].toNat : Int) := by have := hdig.1; omega
        have b2 : (s[k].toNat : Int) ≤ 57 := by have := hdig.2; omega
        have e1 : ((s[k].toNat : Int) - 48) = ((s[k].toNat - 48 : Nat) : Int) := by omega
        have HE := Lib.hid e1
        have T := Lib.hid (fun v w' h hB => timesTen_any v ys ys.length (s[k].toNat - 48) w.heap.size w' h rfl (by omega) ht (by omega) hB)
        have hss := hb.size
        have N : Hid (∀ a, a = 10 * dval ys + (s[k].toNat - 48) → a = decVal (s.data.toList.take (k + 1))) := Lib.hid fun a ha => by
          rw [ha, hv, take_snoc' s k hlt, decVal_snoc]
        have HO := Lib.hid hO
        have HB := Lib.hid hb
        clear hdig e1 hO ht hv hb hi I0
        go_wp2_with fail
        rw [HE.out]
        refine (T.out _ _ HO.out hss).mono ?_
        rintro e w1 ⟨v', zs, rfl, hO1, hl1, ht1, hv1, hb1⟩
        have R : Hid (ParseInv w.heap.size s.data.toList (k + 1) w v' w1) := Lib.hid ⟨zs, hO1, by omega, ht1, N.out _ hv1, HB.out.trans hb1⟩
        clear hO1 hl1 ht1 hv1 hb1 T N
        go_wp2
        go_roundw
        case rel => exact ⟨k + 1, by omega, by go_num, R⟩
        case measure => simp [intOf]; omega
      · obtain rfl : k = s.size := by omega
        obtain ⟨A', c', rfl, L⟩ := hO.lst (by omega)
        have F : Hid (GivesParse (decVal s.data.toList) 0 w (.returned (.tuple #[.slice A' ys.length c', .int .i64 0])) wr) := Lib.hid (by
          exact ⟨A', ys.length, c', ys, rfl, ⟨L, ht, by rw [hv, List.take_of_length_le (by rw [size_list]; omega)]⟩, hb⟩)
        clear hO hl ht hv hb hi I0 L
        go_wp2
        go_ret2
        exact F.out
  · rw [if_neg hp]
    obtain ⟨q, hq⟩ : ∃ q, parseErr s.data.toList = q := ⟨_, rfl⟩
    have C1 := Lib.hid (fun w' => checkDecimal_any s w' hs)
    rw [hq] at C1 hp
    rw [hq]
    have hb2 : (((q : Nat) : Int) != 0) = true := bne_iff_ne.2 (by omega)
    clear C hp hq
    go_enter Tryz.func58, Tryz.ntmps58
    go_wp2_with fail
    refine (C1.out _).mono ?_
    rintro e w' ⟨rfl, rfl⟩
    go_wp2
    go_ret2
    exact ⟨none, 0, 0, [], rfl, Num.zero _, Below.refl _ _⟩
end Go.Proofs.YtbllnkhbahenkaaGreatDoor
