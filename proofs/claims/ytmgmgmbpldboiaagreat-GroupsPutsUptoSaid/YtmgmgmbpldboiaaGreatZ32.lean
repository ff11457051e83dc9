/- Dld Grq: texts laid together, what is not used left out. -/
import Derived.Test.YtmgmgmbpldboiaaGreatZ31
import Derived.WalkMore
import Derived.Lib.AppendZeros
import Derived.Deep.Onto
import Derived.Test.YtmgmgmbpldboiaaGreatZ30
import Derived.Test.YtmgmgmbpldboiaaGreatZ25
namespace Go.Proofs.YtmgmgmbpldboiaaGreat.S10
open Go.RowKit

/-- Where a reader stands. -/
def atOf (w : World) (p : Nat) : Nat := match w.cell? ⟨p, 2, none⟩ with | some (.int .i64 k) => k.toNat | _ => 0
set_option maxRecDepth 100000 in
theorem atOf_is {B : Nat} {w : World} {p : Nat} {s : ByteArray} {k : Nat} (h : IsR B w p s k) : atOf w p = k := by
  have := blk_cell h.blk 2
  simp at this
  simp [atOf, this]
/-- What read answers: lengths in a slice of its own, an error; where the reader stands then. -/
def ReadPost (B : Nat) (w : World) (p : Nat) (s : ByteArray) (ans : List Nat × Nat × Nat) (e : Ending) (w' : World) : Prop :=
  ∃ v k, e = .returned (.tuple #[v, .int .i64 ans.2.2]) ∧ w'.ownsRow w.heap.size 3 1 v ans.1.length (ans.1.map iv) ∧ (ans.2.2 = 0 → k = ans.2.1) ∧ IsR B w' p s k ∧ Below B w w'

theorem take5_ok (B : Nat) (w : World) (p : Nat) (s : ByteArray) (k : Nat) (hR : IsR B w p s k) (hs : s.size ≤ 281474976710656) (hle : k + 5 ≤ 8 * s.size) : Calls Tryz.prog 86 #[.pointer (some ⟨p, 0, none⟩), .int .i64 5] w fun e w' => e = .returned (.tuple #[.int .u64 (val (((bitsB s.data.toList).drop k).take 5) : Nat), .int .i64 0]) ∧ IsR B w' p s (k + 5) ∧ Step B [p] [] w w' :=
  take_ok B w p s k 5 hR hs (by omega) hle
theorem take5_no (B : Nat) (w : World) (p : Nat) (s : ByteArray) (k : Nat) (hR : IsR B w p s k) (hs : s.size ≤ 281474976710656) (hk : k ≤ 8 * s.size) (hle : 8 * s.size < k + 5) : Calls Tryz.prog 86 #[.pointer (some ⟨p, 0, none⟩), .int .i64 5] w fun e w' => e = .returned (.tuple #[.int .u64 0, .int .i64 10]) ∧ IsR B w' p s k ∧ Step B [p] [] w w' :=
  take_short B w p s k 5 hR hs (by omega) hk hle

set_option maxHeartbeats 1600000 in
set_option maxRecDepth 100000 in
theorem read_short (B : Nat) (w : World) (p : Nat) (s : ByteArray) (a n : Nat) (hR : IsR B w p s a) (hs : s.size ≤ 2000000) (ha : a ≤ 8 * s.size) (h : 8 * s.size < a + 5) : Calls Tryz.prog 128 #[.pointer (some ⟨p, 0, none⟩), .int .i64 n] w (ReadPost B w p s ([], 0, 10)) := by
  have HT := Lib.hid (take5_no B w p s a hR (by omega) ha h)
  clear hR
  go_enter Tryz.func128, Tryz.ntmps128
  go_wp2_with fail
  go_step3
  go_wp2_with fail
  refine HT.out.mono ?_
  rintro e w1 ⟨rfl, hR1, hs1⟩
  have HR1 := Lib.hid hR1
  have HB1 := Lib.hid hs1.below
  clear hR1 hs1
  go_wp2_with fail
  go_ret2
  exact ⟨_, a, rfl, World.ownsRow_nil _ _ _ _, fun h => absurd h (by decide), HR1.out, HB1.out⟩

set_option maxHeartbeats 3200000 in
set_option maxRecDepth 100000 in
theorem read_any (B : Nat) (w : World) (p : Nat) (s : ByteArray) (a n : Nat) (hR : IsR B w p s a) (hs : s.size ≤ 2000000) (h : a + 5 ≤ 8 * s.size) (hn1 : 2 ≤ n) (hn2 : n ≤ 258) : Calls Tryz.prog 128 #[.pointer (some ⟨p, 0, none⟩), .int .i64 n] w (ReadPost B w p s (takeF ((bitsB s.data.toList).drop (a + 5)) (val (((bitsB s.data.toList).drop a).take 5)) n (a + 5) [])) := by
  obtain ⟨i3, h3, hz0, hz1, hz2⟩ := info_parts Tryz.info3
  have hmk : ∀ w1 : World, (Instr.makeSlice 22 (.int .i64 0) (.int .i64 n)).run Tryz.prog w1 = .ok (.slice (some ⟨w1.heap.size, 0, none⟩) 0 n) (w1.alloc (.cells (madeCells #[.int .i64 0] n) 3)) := by
    intro w1
    have h := run_make (P := Tryz.prog) w1 22 3 i3 (.int .i64 0) Tryz.underlying22 h3 hz0 .i64 .i64 (0 : Int) (n : Int) (by omega) (by omega) (by rw [hz2]; omega) (by omega)
    rw [hz1, Int.toNat_natCast, Nat.mul_one] at h
    exact h
  have HMK := Lib.hid hmk
  have HT := Lib.hid (take5_ok B w p s a hR (by omega) h)
  have hx5 : val (((bitsB s.data.toList).drop a).take 5) < 2 ^ 5 := val_take_lt _ _ _ _ (bit01_bitsB _) (Nat.le_refl _)
  have hlo := hR.lo
  have hpw := blk_lt hR.blk
  have HWR := Lib.hid wrong_any
  have HBL := Lib.hid (show (bitsB s.data.toList).length = 8 * s.size from bitsB_length _)
  have H01 := Lib.hid (bit01_bitsB s.data.toList)
  have HSN := Lib.hid fun (w1 : World) (br k : Nat) (h1 : IsR B w1 p s k) h2 => step_none B w1 p br s k h1 (by omega) h2
  have HSS := Lib.hid fun (w1 : World) (br k : Nat) (h1 : IsR B w1 p s k) h2 => step_stop B w1 p br s k h1 (by omega) h2
  have HSH := Lib.hid fun (w1 : World) (br k : Nat) (h1 : IsR B w1 p s k) h2 => step_half B w1 p br s k h1 (by omega) h2
  have HSM := Lib.hid fun (w1 : World) (br k d : Nat) (h1 : IsR B w1 p s k) h2 => step_move B w1 p br s k d h1 (by omega) h2
  obtain ⟨ans, hans⟩ : ∃ ans, ans = takeF ((bitsB s.data.toList).drop (a + 5)) (val (((bitsB s.data.toList).drop a).take 5)) n (a + 5) [] := ⟨_, rfl⟩
  rw [← hans]
  have hp : ∀ (v : Value) (k : Nat) (w' : World) (er : Nat), w'.ownsRow w.heap.size 3 1 v ans.1.length (ans.1.map iv) → er = ans.2.2 → (ans.2.2 = 0 → k = ans.2.1) → IsR B w' p s k → Below B w w' → ReadPost B w p s ans (.returned (.tuple #[v, .int .i64 er])) w' := fun v k w' er h1 h2 h3 h4 h5 => ⟨v, k, by rw [h2], h1, h3, h4, h5⟩
  have HP := Lib.hid hp
  generalize ReadPost B w p s ans = PO at *
  obtain ⟨x, hx⟩ : ∃ x, x = val (((bitsB s.data.toList).drop a).take 5) := ⟨_, rfl⟩
  rw [← hx] at HT hans hx5
  have hx5' : x < 32 := hx5
  have HANS := Lib.hid hans
  generalize bitsB s.data.toList = bits at *
  clear hR hmk hx hans hp hx5
  go_enter Tryz.func128, Tryz.ntmps128
  go_wp2_with fail
  go_step3
  go_wp2_with fail
  refine HT.out.mono ?_
  rintro e w1 ⟨rfl, hR1, hs1⟩
  have HR1 := Lib.hid hR1
  have HB1 := Lib.hid hs1.below
  have hz1' := hs1.size
  have hpw1 := blk_lt hR1.blk
  clear hR1 hs1 HT
  have HST := Lib.hid (stepper_any w1 p)
  go_wp2_with fail
  refine HST.out.mono ?_
  rintro e w2 ⟨rfl, hw2⟩
  obtain ⟨br, hbr⟩ : ∃ br, br = w1.heap.size := ⟨_, rfl⟩
  have hk2 : Blk w2 br 75 #[.pointer (some ⟨p, 0, none⟩)] := by rw [hw2, hbr]; exact blk_new w1 _ _
  have hR2 : IsR B w2 p s (a + 5) := by rw [hw2]; exact HR1.out.alloc _
  have hb2 : Below B w w2 := by rw [hw2]; exact HB1.out.alloc (by omega) _
  have hbr2 := blk_lt hk2
  have hpb : p < br := by omega
  have hwb : w.heap.size ≤ br := by omega
  rw [← hbr]
  have HK2 := Lib.hid hk2
  have HR2 := Lib.hid hR2
  have HB2 := Lib.hid hb2
  have hmk2 := HMK.out w2
  clear hbr hw2 hk2 hR2 hb2 HR1 HB1 HST hz1' hpw1
  go_wp2_with fail
  go_step3
  go_wp2_with fail
  clear hmk2
  go_loopw [8, 10] (fun f8 f10 wx => ∃ (now k : Nat) (o : List Nat), f8 = .int .i64 now ∧ now ≤ 31 ∧ k ≤ 8 * s.size ∧ o.length ≤ n ∧ wx.ownsRow w2.heap.size 3 1 f10 o.length (o.map iv) ∧ takeF (bits.drop k) now (n - o.length) k o = ans ∧ IsR B wx p s k ∧ Blk wx br 75 #[.pointer (some ⟨p, 0, none⟩)] ∧ Below B w wx ∧ w2.heap.size ≤ wx.heap.size) (fun _ _ wx => 8 * s.size - atOf wx p)
  case atStart =>
    have hm : (madeCells #[.int .i64 0] n).size = n * 1 := by simp [madeCells]
    have hba : Below w2.heap.size w2 (w2.alloc (.cells (madeCells #[.int .i64 0] n) 3)) := (Below.refl _ _).alloc (Nat.le_refl _) _
    exact ⟨x, a + 5, [], rfl, by omega, h, Nat.zero_le _, World.ownsRow_made w2 (madeCells #[.int .i64 0] n) n (Nat.le_refl _) (by unfold maxLen; omega) hm, HANS.out.symm, HR2.out.alloc _, blk_under hba HK2.out hbr2, HB2.out.trans (hba.mono (by omega)), hba.size⟩
  case round =>
    obtain ⟨now, k, o, rfl, hnow, hk, hon, hown, htk, hR, hbk, hb, hzw⟩ := hrel
    obtain ⟨A0, c0, rfl, hn0, hm0, hA0⟩ := own_slice hown
    clear hA0
    unfold maxLen at hm0
    obtain ⟨m, hm⟩ : ∃ m, m = o.length := ⟨_, rfl⟩
    rw [← hm] at hown hn0 hon htk ⊢
    have hat := atOf_is hR
    have HAT := Lib.hid hat
    have HM := Lib.hid hm
    have HB := Lib.hid hb
    have HTK := Lib.hid htk
    have HR := Lib.hid hR
    have HK := Lib.hid hbk
    obtain ⟨X, hX⟩ : ∃ X, X = o.map iv := ⟨_, rfl⟩
    rw [← hX] at hown
    have HX := Lib.hid hX
    have HO := Lib.hid hown
    clear hX hown hm hb htk hR hbk hat
    by_cases e : m < n
    · have d1 : decide ((m : Int) < (n : Int)) = true := decide_eq_true (by omega)
      obtain ⟨q, hq⟩ : ∃ q, n - m = q + 1 := ⟨n - m - 1, by omega⟩
      have hq2 : n - (m + 1) = q := by omega
      rw [hq] at HTK
      have HQ2 := Lib.hid hq2
      clear hq hq2
      go_wp2_with fail
      go_loopw [8, 10] (fun f8 f10 wx => ∃ (now1 k1 : Nat), f10 = .slice A0 m c0 ∧ f8 = .int .i64 now1 ∧ now1 ≤ 31 ∧ k ≤ k1 ∧ k1 ≤ 8 * s.size ∧ takeF (bits.drop k1) now1 (q + 1) k1 o = ans ∧ IsR B wx p s k1 ∧ Blk wx br 75 #[.pointer (some ⟨p, 0, none⟩)] ∧ wx.ownsRow w2.heap.size 3 1 (.slice A0 m c0) m X ∧ Below B w wx ∧ w2.heap.size ≤ wx.heap.size) (fun _ _ wx => 8 * s.size - atOf wx p)
      case atStart => exact ⟨now, k, rfl, rfl, hnow, Nat.le_refl _, hk, HTK.out, HR.out, HK.out, HO.out, HB.out, hzw⟩
      case round =>
        obtain ⟨now1, k1, rfl, rfl, hnow1, hkk, hk1, htk1, hR1, hbk1, hown1, hb1, hzw1⟩ := hrel
        have hat1 := atOf_is hR1
        have hpw1 : p < wr.heap.size := blk_lt hR1.blk
        have HAT1 := Lib.hid hat1
        have HTK1 := Lib.hid htk1
        have HW1 := Lib.hid (HWR.out wr now1)
        have HB1 := Lib.hid hb1
        have HO1 := Lib.hid hown1
        have hbr1 : br < wr.heap.size := blk_lt hbk1
        by_cases hw : (now1 : Int) < 1 ∨ 20 < (now1 : Int)
        · rw [decide_eq_true hw] at HW1
          have hfin : ans = ([], 0, 80) := by rw [← HTK1.out, takeF_bad _ _ _ _ _ (by omega)]
          have HFIN := Lib.hid hfin
          have HR1 := Lib.hid hR1
          clear hfin hw hat1 htk1 hR1 hbk1 hown1 hb1
          go_wp2_with fail
          refine HW1.out.mono ?_
          rintro e w3 ⟨rfl, rfl⟩
          go_wp2_with fail
          try rw [Exit.noGoto_ret]
          first | go_ret2 | skip
          refine HP.out (.slice none 0 0) k1 _ 80 ?_ (by rw [HFIN.out]) (fun h => absurd h (by rw [HFIN.out]; decide)) HR1.out HB1.out
          rw [HFIN.out]
          exact World.ownsRow_nil _ _ _ _
        · rw [decide_eq_false hw] at HW1
          have hnb : ¬ (now1 < 1 ∨ 20 < now1) := by omega
          by_cases hend : k1 = 8 * s.size
          · have HC := Lib.hid (HSN.out wr br k1 hR1 hbk1 hend)
            have hfin : ans = ([], 0, 10) := by rw [← HTK1.out, List.drop_of_length_le (by rw [HBL.out]; omega), takeF_nil _ _ _ _ hnb]
            have HFIN := Lib.hid hfin
            clear hfin hw hnb hat1 htk1 hR1 hbk1 hown1 hb1 hend
            go_wp2_with fail
            refine HW1.out.mono ?_
            rintro e w3 ⟨rfl, rfl⟩
            go_wp2_with fail
            refine HC.out.mono ?_
            rintro e w3 ⟨rfl, hR3, hs3⟩
            have HR3 := Lib.hid hR3
            have HB3 := Lib.hid (HB1.out.trans hs3.below)
            clear hR3 hs3
            go_wp2_with fail
            try rw [Exit.noGoto_ret]
            first | go_ret2 | skip
            refine HP.out (.slice none 0 0) k1 _ 10 ?_ (by rw [HFIN.out]) (fun h => absurd h (by rw [HFIN.out]; decide)) HR3.out HB3.out
            rw [HFIN.out]
            exact World.ownsRow_nil _ _ _ _
          · have hlt : k1 < bits.length := by rw [HBL.out]; omega
            have hdr := drop_nat hlt
            have hb2 : bits.getD k1 0 < 2 := H01.out _ (nat_mem hlt)
            by_cases h0 : bits.getD k1 0 = 0
            · have HC := Lib.hid (HSS.out wr br k1 hR1 hbk1 (by omega) h0)
              have hnx : takeF (bits.drop (k1 + 1)) now1 q (k1 + 1) (o ++ [now1]) = ans := by
                rw [← HTK1.out, hdr, h0, takeF_zero _ _ _ _ _ hnb]
              have HNX := Lib.hid hnx
              have HKP := Lib.hid fun w3 (h3 : Step B [p] [] wr w3) => ptr_kept hR1 hbk1 h3
              clear hnx hw hnb hat1 htk1 hR1 hbk1 hown1 hb1 h0 hb2 hdr hlt
              go_wp2_with fail
              refine HW1.out.mono ?_
              rintro e w3 ⟨rfl, rfl⟩
              go_wp2_with fail
              refine HC.out.mono ?_
              rintro e w3 ⟨rfl, hR3, hs3⟩
              have hO3 := hs3.row HO1.out (fun j hj => by have := (HO1.out.lt j hj).1; simp; omega) (by simp)
              have hz3 : w2.heap.size ≤ w3.heap.size := Nat.le_trans hzw1 hs3.size
              have HO3 := Lib.hid hO3
              have HK3 := Lib.hid (HKP.out w3 hs3)
              have HB3 := Lib.hid (HB1.out.trans hs3.below)
              have HR3 := Lib.hid hR3
              clear hR3 hs3 hO3
              go_wp2_with (at_builtin; refine wpList_append_own _ rfl _ _ 22 rfl w2.heap.size 3 i3 (.int .i64 0) 1 8 Tryz.underlying22 h3 hz0 hz1 hz2 rfl (by decide) _ _ _ rfl (HO3.out.alloc _) ⟨w3.heap.size, 0, none⟩ 1 1 [.int .i64 now1] rfl rfl ?c1 ?c2 ?c3 ?c4 ?c5 ?_)
              case c1 => exact cell_one _ _ _
              case c2 => intro u hu; simp at hu; subst hu; rfl
              case c3 => unfold maxLen; omega
              case c4 => omega
              case c5 => simp; omega
              intro v4 w4 hown4 hgrow4 _
              have hb4 : Below w2.heap.size w3 w4 := ((Below.refl w2.heap.size w3).alloc hz3 _).grown hgrow4 (by simp; omega) (fun k hk => (HO3.out.lt k hk).1)
              have HO4 := Lib.hid hown4
              have hR4 : IsR B w4 p s (k1 + 1) := ⟨hlo, blk_under hb4 HR3.out.blk (by omega)⟩
              have HAT4 := Lib.hid (atOf_is hR4)
              have HR4 := Lib.hid hR4
              have HK4 := Lib.hid (blk_under hb4 HK3.out (by omega))
              have HB4 := Lib.hid (HB3.out.trans (hb4.mono (by omega)))
              have hz4 : w2.heap.size ≤ w4.heap.size := Nat.le_trans hz3 hb4.size
              clear hown4 hgrow4 hb4 hR4
              go_wp2_with fail
              go_roundw
              case rel =>
                refine ⟨now1, k1 + 1, o ++ [now1], rfl, by omega, by omega, by rw [List.length_append, ← HM.out]; exact e, ?_, by rw [List.length_append, ← HM.out]; show takeF _ _ (n - (m + 1)) _ _ = ans; rw [HQ2.out]; exact HNX.out, HR4.out, HK4.out, HB4.out, hz4⟩
                rw [List.length_append, ← HM.out, List.map_append, ← HX.out]
                exact HO4.out
              case measure => rw [HAT4.out, HAT.out]; omega
            · have h1 : bits.getD k1 0 = 1 := by omega
              by_cases hlast : k1 + 1 = 8 * s.size
              · have HC := Lib.hid (HSH.out wr br k1 hR1 hbk1 hlast h1)
                have hfin : ans = ([], 0, 10) := by
                  rw [← HTK1.out, hdr, h1, List.drop_of_length_le (by rw [HBL.out]; omega), takeF_one _ _ _ _ _ hnb (by omega)]
                have HFIN := Lib.hid hfin
                clear hfin hw hnb hat1 htk1 hR1 hbk1 hown1 hb1 hend hlt hdr hb2 h0 h1 hlast
                go_wp2_with fail
                refine HW1.out.mono ?_
                rintro e w3 ⟨rfl, rfl⟩
                go_wp2_with fail
                refine HC.out.mono ?_
                rintro e w3 ⟨rfl, hR3, hs3⟩
                have HR3 := Lib.hid hR3
                have HB3 := Lib.hid (HB1.out.trans hs3.below)
                clear hR3 hs3
                go_wp2_with fail
                try rw [Exit.noGoto_ret]
                first | go_ret2 | skip
                refine HP.out (.slice none 0 0) (k1 + 1) _ 10 ?_ (by rw [HFIN.out]) (fun h => absurd h (by rw [HFIN.out]; decide)) HR3.out HB3.out
                rw [HFIN.out]
                exact World.ownsRow_nil _ _ _ _
              · have hlt2 : k1 + 1 < bits.length := by rw [HBL.out]; omega
                have hdr2 := drop_nat hlt2
                have hd2 : bits.getD (k1 + 1) 0 < 2 := H01.out _ (nat_mem hlt2)
                obtain ⟨d, hd⟩ : ∃ d, d = bits.getD (k1 + 1) 0 := ⟨_, rfl⟩
                rw [← hd] at hd2 hdr2
                have hc := HSM.out wr br k1 d hR1 hbk1 (by omega) h1 hd.symm hd2
                obtain ⟨now2, hnow2⟩ : ∃ now2, now2 = if d = 0 then now1 + 1 else now1 - 1 := ⟨_, rfl⟩
                have hnx : takeF (bits.drop (k1 + 2)) now2 (q + 1) (k1 + 2) o = ans := by
                  rw [← HTK1.out, hdr, h1, hdr2, takeF_step _ _ _ _ _ _ _ hnb (by omega), ← hnow2]
                obtain ⟨st, hst⟩ : ∃ st : Int, st = 1 - 2 * (d : Int) := ⟨_, rfl⟩
                rw [← hst] at hc
                have hst0 : (st == 0) = false := by rw [beq_eq_false_iff_ne]; omega
                have hsum : (now1 : Int) + st = (now2 : Int) := by
                  rw [hnow2]
                  by_cases hd0 : d = 0
                  · rw [if_pos hd0]; omega
                  · rw [if_neg hd0]; omega
                have hnow2b : now2 ≤ 31 := by omega
                have HC := Lib.hid hc
                have HNX := Lib.hid hnx
                have HKP := Lib.hid fun w3 (h3 : Step B [p] [] wr w3) => ptr_kept hR1 hbk1 h3
                have hk2b : k1 + 2 ≤ 8 * s.size := by omega
                clear hnx hc hw hnb hat1 htk1 hR1 hbk1 hown1 hb1 h0 h1 hb2 hdr hlt hlt2 hdr2 hd2 hd hnow2 hst hlast hend
                go_wp2_with fail
                refine HW1.out.mono ?_
                rintro e w3 ⟨rfl, rfl⟩
                go_wp2_with fail
                refine HC.out.mono ?_
                rintro e w3 ⟨rfl, hR3, hs3⟩
                have hO3 := hs3.row HO1.out (fun j hj => by have := (HO1.out.lt j hj).1; simp; omega) (by simp)
                have hz3 : w2.heap.size ≤ w3.heap.size := Nat.le_trans hzw1 hs3.size
                have HO3 := Lib.hid hO3
                have HK3 := Lib.hid (HKP.out w3 hs3)
                have HB3 := Lib.hid (HB1.out.trans hs3.below)
                have HAT3 := Lib.hid (atOf_is hR3)
                have HR3 := Lib.hid hR3
                clear hR3 hs3 hO3
                go_wp2_with fail
                go_roundw
                case rel => exact ⟨now2, k1 + 2, rfl, by go_num, hnow2b, by omega, hk2b, HNX.out, HR3.out, HK3.out, HO3.out, HB3.out, hz3⟩
                case measure => rw [HAT3.out, HAT1.out]; omega
    · obtain rfl : m = n := by omega
      have d1 : decide ((m : Int) < (m : Int)) = false := decide_eq_false (by omega)
      have hfin : ans = (o, k, 0) := by
        rw [← HTK.out, Nat.sub_self, takeF_done]
      have HFIN := Lib.hid hfin
      clear hfin
      go_wp2_with fail
      try rw [Exit.noGoto_ret]
      first | go_ret2 | skip
      refine HP.out (.slice A0 m c0) k _ 0 ?_ (by rw [HFIN.out]) (fun _ => by rw [HFIN.out]) HR.out HB.out
      rw [HFIN.out]
      show wr.ownsRow w.heap.size 3 1 (.slice A0 m c0) o.length (o.map iv)
      rw [← HM.out, ← HX.out]
      exact World.ownsRow.mono HO.out (by omega)

set_option maxHeartbeats 1600000 in
set_option maxRecDepth 100000 in
theorem ctake_place (w : World) (s : ByteArray) (at' n : Int) (hs : s.size ≤ 2000000) (h : at' < 0 ∨ 8 * (s.size : Int) < at') : Calls Tryz.prog 90 #[.string s, .int .i64 at', .int .i64 n] w (AllPost w ([], 0, 2)) := by
  have HN := Lib.hid (newR_none w s at' (by omega) h)
  have HP := Lib.hid (show AllPost w ([], 0, 2) (.returned (.tuple #[.slice none 0 0, .int .i64 0, .int .i64 2])) w from ⟨_, rfl, World.ownsRow_nil _ _ _ _, Below.refl _ _⟩)
  generalize AllPost w ([], 0, 2) = PO at *
  clear h
  go_enter Tryz.func90, Tryz.ntmps90
  go_wp2_with fail
  refine HN.out.mono ?_
  rintro e w1 ⟨rfl, rfl⟩
  go_wp2_with fail
  first | exact HP.out | (go_ret3; exact HP.out)

set_option maxHeartbeats 1600000 in
set_option maxRecDepth 100000 in
theorem ctake_many (w : World) (s : ByteArray) (at' n : Int) (hs : s.size ≤ 2000000) (h1 : 0 ≤ at') (h2 : at' ≤ 8 * (s.size : Int)) (hn : ¬ (2 ≤ n ∧ n ≤ 258)) : Calls Tryz.prog 90 #[.string s, .int .i64 at', .int .i64 n] w (AllPost w ([], 0, 2)) := by
  have HN := Lib.hid (newR_yes w s at' (by omega) h1 h2)
  have HE := Lib.hid fun w1 => enough_any w1 n
  rw [decide_eq_false hn] at HE
  have HP := Lib.hid (show ∀ w', Below w.heap.size w w' → AllPost w ([], 0, 2) (.returned (.tuple #[.slice none 0 0, .int .i64 0, .int .i64 2])) w' from fun w' h => ⟨_, rfl, World.ownsRow_nil _ _ _ _, h⟩)
  generalize AllPost w ([], 0, 2) = PO at *
  clear h1 h2 hn
  go_enter Tryz.func90, Tryz.ntmps90
  go_wp2_with fail
  refine HN.out.mono ?_
  rintro e w1 ⟨rfl, hw1⟩
  have hb1 : Below w.heap.size w w1 := by rw [hw1]; exact (Below.refl _ _).alloc (Nat.le_refl _) _
  have HPE := Lib.hid (HP.out w1 hb1)
  clear hw1 hb1
  go_wp2_with fail
  refine (HE.out _).mono ?_
  rintro e w2 ⟨rfl, rfl⟩
  go_wp2_with fail
  first | exact HPE.out | (go_ret3; exact HPE.out)

set_option maxHeartbeats 1600000 in
set_option maxRecDepth 100000 in
theorem ctake_read (w : World) (s : ByteArray) (a n : Nat) (ans : List Nat × Nat × Nat) (hs : s.size ≤ 2000000) (h2 : a ≤ 8 * s.size) (hn1 : 2 ≤ n) (hn2 : n ≤ 258) (hsm : ans.2.1 ≤ 20000000 ∧ ans.2.2 ≤ 80) (hbad : ans.2.2 ≠ 0 → ans = ([], 0, ans.2.2))
    (hread : ∀ (w1 : World) (p : Nat), IsR p w1 p s a → Calls Tryz.prog 128 #[.pointer (some ⟨p, 0, none⟩), .int .i64 n] w1 (ReadPost p w1 p s ans)) :
    Calls Tryz.prog 90 #[.string s, .int .i64 a, .int .i64 n] w (AllPost w ans) := by
  have HN := Lib.hid (newR_yes w s a (by omega) (by omega) (by omega))
  have HE := Lib.hid fun w1 => enough_any w1 n
  rw [decide_eq_true (show 2 ≤ (n : Int) ∧ (n : Int) ≤ 258 by omega)] at HE
  have HP := Lib.hid (show ∀ (v : Value) (k r : Nat) w', w'.ownsRow w.heap.size 3 1 v ans.1.length (ans.1.map iv) → k = ans.2.1 → r = ans.2.2 → Below w.heap.size w w' → AllPost w ans (.returned (.tuple #[v, .int .i64 k, .int .i64 r])) w' from fun v k r w' h0 h1 h3 h4 => ⟨v, by rw [h1, h3], h0, h4⟩)
  generalize AllPost w ans = PO at *
  have HRD := Lib.hid hread
  have HBAD := Lib.hid hbad
  have hk1 := hsm.1
  have hk2 := hsm.2
  clear hbad hread hsm
  go_enter Tryz.func90, Tryz.ntmps90
  go_wp2_with fail
  refine HN.out.mono ?_
  rintro e w1 ⟨rfl, hw1⟩
  have hb1 : Below w.heap.size w w1 := by rw [hw1]; exact (Below.refl _ _).alloc (Nat.le_refl _) _
  have hR1 : IsR w.heap.size w1 w.heap.size s a := by rw [hw1]; exact isR_new w _ (Nat.le_refl _) s a
  have HB1 := Lib.hid hb1
  have HRD1 := Lib.hid (HRD.out w1 w.heap.size hR1)
  obtain ⟨p, hp⟩ : ∃ p, p = w.heap.size := ⟨_, rfl⟩
  rw [← hp] at HRD1 ⊢
  have HPP := Lib.hid hp
  clear hw1 hb1 hR1 hp HRD
  go_wp2_with fail
  refine (HE.out _).mono ?_
  rintro e w2 ⟨rfl, rfl⟩
  go_wp2_with fail
  refine HRD1.out.mono ?_
  rintro e w3 ⟨v, k, rfl, hown, hkk, hR, hb3⟩
  have hb : Below w.heap.size w w3 := HB1.out.trans (by rw [← HPP.out]; exact hb3)
  have ho : w3.ownsRow w.heap.size 3 1 v ans.1.length (ans.1.map iv) := World.ownsRow.mono hown HB1.out.size
  have HPE := Lib.hid (HP.out v · · w3 ho)
  have HBB := Lib.hid hb
  have c0 := blk_cell hR.blk 0
  have c2 := blk_cell hR.blk 2
  simp at c0 c2
  obtain ⟨A0, c0', rfl, _, _, _⟩ := own_slice hown
  by_cases h0 : ans.2.2 = 0
  · have hk := hkk h0
    have HAT := Lib.hid (rat_yes w3 p k c0 c2)
    have HK := Lib.hid hk
    have H0 := Lib.hid h0
    rw [h0]
    clear hb3 hb ho hown hkk hR c0 c2 h0 hk
    go_wp2_with fail
    refine HAT.out.mono ?_
    rintro e w4 ⟨rfl, rfl⟩
    go_wp2_with fail
    first | exact HPE.out k 0 HK.out H0.out.symm HBB.out | (go_ret3; exact HPE.out k 0 HK.out H0.out.symm HBB.out)
  · have hans := HBAD.out h0
    have hz1 : ans.2.1 = 0 := by rw [hans]
    have hz : ans.1 = [] := by rw [hans]
    have HPE2 := Lib.hid (HP.out (.slice none 0 0) 0 ans.2.2 w3 (by rw [hz]; exact World.ownsRow_nil _ _ _ _) hz1.symm rfl hb)
    obtain ⟨r, hr⟩ : ∃ r, r = ans.2.2 := ⟨_, rfl⟩
    rw [← hr] at HPE2 hk2 h0 ⊢
    have d0 : ((r : Int) != 0) = true := by
      rw [bne_iff_ne]
      omega
    clear hb3 hb ho hown hkk hR c0 c2 hans hz1 hz hr
    go_wp2_with fail
    first | exact HPE2.out | (go_ret3; exact HPE2.out)

theorem takeF_bound : ∀ (bs : List Nat) (now n p : Nat) (out : List Nat), (takeF bs now n p out).2.2 ≠ 0 → takeF bs now n p out = ([], 0, (takeF bs now n p out).2.2)
  | bs, now, 0, p, out => by
    rw [takeF_done]
    exact fun h => absurd rfl h
  | [], now, n + 1, p, out => by
    by_cases h : now < 1 ∨ 20 < now
    · rw [takeF_bad _ _ _ _ _ h]
      exact fun _ => rfl
    · rw [takeF_nil _ _ _ _ h]
      exact fun _ => rfl
  | b :: bs, now, n + 1, p, out => by
    by_cases h : now < 1 ∨ 20 < now
    · rw [takeF_bad _ _ _ _ _ h]
      exact fun _ => rfl
    · by_cases hb : b = 0
      · subst hb
        rw [takeF_zero _ _ _ _ _ h]
        exact takeF_bound bs now n (p + 1) (out ++ [now])
      · match bs with
        | [] =>
          rw [takeF_one _ _ _ _ _ h hb]
          exact fun _ => rfl
        | d :: bs =>
          rw [takeF_step _ _ _ _ _ _ _ h hb]
          exact takeF_bound bs _ (n + 1) (p + 2) out
  termination_by bs => bs.length

theorem ctake_any (w : World) (s : ByteArray) (at' n : Int) (hs : s.size ≤ 2000000) : Calls Tryz.prog 90 #[.string s, .int .i64 at', .int .i64 n] w (AllPost w (takeAns (bitsB s.data.toList) at' n)) := by
  have hl : (bitsB s.data.toList).length = 8 * s.size := bitsB_length _
  by_cases h1 : at' < 0 ∨ 8 * (s.size : Int) < at'
  · rw [takeAns, if_pos (by omega)]
    exact ctake_place w s at' n hs h1
  · by_cases hn : 2 ≤ n ∧ n ≤ 258
    · obtain ⟨a, rfl⟩ : ∃ a : Nat, at' = a := ⟨at'.toNat, by omega⟩
      obtain ⟨m, rfl⟩ : ∃ m : Nat, n = m := ⟨n.toNat, by omega⟩
      have hsm := takeAns_small (bitsB s.data.toList) a m
      rw [hl] at hsm
      have he : takeAns (bitsB s.data.toList) (a : Int) (m : Int) = if 8 * s.size < a + 5 then ([], 0, 10) else takeF ((bitsB s.data.toList).drop (a + 5)) (val (((bitsB s.data.toList).drop a).take 5)) m (a + 5) [] := by
        rw [takeAns, if_neg (by omega), hl]
        rfl
      refine ctake_read w s a m _ hs (by omega) (by omega) (by omega) ⟨by omega, hsm.2.2⟩ ?_ ?_
      · rw [he]
        by_cases h5 : 8 * s.size < a + 5
        · rw [if_pos h5]
          exact fun _ => rfl
        · rw [if_neg h5]
          exact takeF_bound _ _ _ _ _
      · intro w1 p hR
        rw [he]
        by_cases h5 : 8 * s.size < a + 5
        · rw [if_pos h5]
          exact read_short p w1 p s a m hR hs (by omega) h5
        · rw [if_neg h5]
          exact read_any p w1 p s a m hR hs (by omega) (by omega) (by omega)
    · rw [takeAns, if_pos (by omega)]
      exact ctake_many w s at' n hs (by omega) (by omega) hn

end Go.Proofs.YtmgmgmbpldboiaaGreat.S10
namespace Go.Proofs.YtmgmgmbpldboiaaGreat
open Go.RowKit

def TabsPost (w : World) (T : Nat) (ans : List (List Nat) × Nat × Nat) (e : Ending) (w' : World) : Prop :=
  (ans.2.2 = 0 ∧ ∃ A c F C, e = .returned (.tuple #[.slice A T c, .int .i64 ans.2.1, .int .i64 0]) ∧ Lens w w' (.slice A T c) T F C ∧ (List.range T).map C = ans.1 ∧ ∀ t, t < T → (C t).length ≤ 258) ∨
  (ans.2.2 ≠ 0 ∧ e = .returned (.tuple #[.slice none 0 0, .int .i64 0, .int .i64 ans.2.2]) ∧ Below w.heap.size w w')

set_option maxHeartbeats 6400000 in
set_option maxRecDepth 100000 in
theorem ctaketabs_any (w : World) (s : ByteArray) (p n T : Nat) (hs : s.size ≤ 2000000) (hp : p ≤ 8 * s.size) (_ : n ≤ 258) (hT6 : T ≤ 6) :
    Calls Tryz.prog 52 #[.string s, .int .i64 p, .int .i64 n, .int .i64 T] w (TabsPost w T (takeT (bitsB s.data.toList) n T p [])) := by
  have hbl : (bitsB s.data.toList).length = 8 * s.size := by rw [bitsB_length]; rfl
  have HTK := Lib.hid fun (wx : World) (q : Nat) => S10.ctake_any wx s (q : Int) (n : Int) hs
  have HPL := Lib.hid fun (q : Nat) => takeAns_place (bitsB s.data.toList) (q : Int) (n : Int)
  rw [hbl] at HPL
  obtain ⟨bits, hbits⟩ : ∃ bits, bits = bitsB s.data.toList := ⟨_, rfl⟩
  rw [← hbits] at HTK HPL ⊢
  obtain ⟨ANS, hANS⟩ : ∃ ANS, ANS = takeT bits n T p [] := ⟨_, rfl⟩
  rw [← hANS]
  have HANS := Lib.hid hANS
  have HOK : Hid (∀ w' A c F C (q : Nat), ANS = ((List.range T).map C, q, 0) → Lens w w' (.slice A T c) T F C → (∀ t, t < T → (C t).length ≤ 258) → TabsPost w T ANS (.returned (.tuple #[.slice A T c, .int .i64 q, .int .i64 0])) w') := Lib.hid fun w' A c F C q h1 h2 h3 => by
    rw [h1]
    exact .inl ⟨rfl, A, c, F, C, rfl, h2, rfl, h3⟩
  have HER : Hid (∀ w' (z : Nat), z ≠ 0 → ANS = ([], 0, z) → Below w.heap.size w w' → TabsPost w T ANS (.returned (.tuple #[.slice none 0 0, .int .i64 0, .int .i64 z])) w') := Lib.hid fun w' z h0 h1 h4 => by
    rw [h1]
    exact .inr ⟨h0, rfl, h4⟩
  generalize TabsPost w T ANS = PO at *
  clear hbl hbits hANS
  go_enter Tryz.func52, Tryz.ntmps52
  go_wp2_with fail
  go_loopw [1, 11, 12, 13, 14, 16] (fun av tv s12 s13 s14 iv' wx => ∃ (i q c : Nat) (A : Option Addr) (F : Nat → Value) (C : Nat → List Nat), i ≤ T ∧ iv' = .int .i64 i ∧ av = .int .i64 q ∧ tv = .slice A i c ∧ Lens w wx (.slice A i c) i F C ∧ Hid (q ≤ 8 * s.size ∧ takeT bits n (T - i) q ((List.range i).map C) = ANS ∧ ∀ t, t < i → (C t).length ≤ 258)) (fun _ _ _ _ _ iv' _ => T - (intOf iv').toNat)
  case atStart =>
    refine ⟨0, p, 0, none, fun _ => .slice none 0 0, fun _ => [], Nat.zero_le _, rfl, rfl, rfl, Lens.nil _ _ _ _ (Below.refl _ _), ⟨hp, ?_, fun t ht => absurd ht (Nat.not_lt_zero _)⟩⟩
    rw [HANS.out, Nat.sub_zero]
    rfl
  case round =>
    rename World => wx
    obtain ⟨i, q, c, A, F, C, hi, rfl, rfl, rfl, hL, hI⟩ := hrel
    by_cases e : i < T
    · have di : decide ((i : Int) < (T : Int)) = true := decide_eq_true (by omega)
      have HT := Lib.hid (HTK.out wx q)
      have hpl := HPL.out q
      have hstep : takeT bits n (T - (i + 1) + 1) q ((List.range i).map C) = ANS := by rw [show T - (i + 1) + 1 = T - i by omega]; exact hI.out.2.1
      rw [takeT_more] at hstep
      obtain ⟨⟨X, q2, z⟩, ha⟩ : ∃ ans, ans = takeAns bits (q : Int) (n : Int) := ⟨_, rfl⟩
      rw [← ha] at HT hpl hstep
      dsimp only at hpl hstep
      have HST := Lib.hid hstep
      have HPI := Lib.hid hpl
      have HCL := Lib.hid hI.out.2.2
      have HLL := Lib.hid hL
      clear hL hI hpl hstep ha
      go_wp2_with fail
      refine HT.out.mono ?_
      rintro e w2 ⟨v2, rfl, ho2, hb2⟩
      dsimp only at ho2 ⊢
      obtain ⟨A2, c2, rfl, hc2, hm2, _⟩ := own_slice ho2
      have hbb := HLL.out.below.trans (hb2.mono HLL.out.below.size)
      by_cases ez : z = 0
      · subst ez
        have hst := HST.out
        rw [if_pos rfl] at hst
        have hXm : X.length ≤ maxLen := Nat.le_trans hc2 hm2
        have hzin : ZIn w2 A2 X.length (zL X) := zin_of (ints_of_own ho2)
        have HCK := Lib.hid (ccheck_any w2 A2 X.length c2 (zL X) hzin hXm)
        by_cases eo : LenOk (zL X)
        · rw [if_pos eo] at hst HCK
          have hXl : X.length ≤ 258 := by
            have := eo.2.1
            unfold zL at this
            rw [List.length_map] at this
            exact this
          obtain ⟨D, hD⟩ : ∃ D : Nat → List Nat, D = fun t => if t = i then X else C t := ⟨_, rfl⟩
          have hDi : D i = X := by rw [hD]; exact if_pos rfl
          have hDr : (List.range i).map C ++ [X] = (List.range (i + 1)).map D := by
            rw [List.range_succ, List.map_append, List.map_singleton, hDi]
            congr 1
            apply List.map_congr_left
            intro t ht
            have := List.mem_range.1 ht
            rw [hD]
            show C t = if t = i then X else C t
            rw [if_neg (by omega)]
          have hLD := HLL.out.same (D := D) fun t ht => by
            rw [hD]
            show C t = if t = i then X else C t
            rw [if_neg (by omega)]
          obtain ⟨A3, c3, w3, hr3, hL3, _⟩ := hLD.push (A1 := A2) (k1 := c2) (n := X.length) (by rw [hDi]; exact ho2) hb2 (by omega) (by rw [hDi])
          have HD3 : Hid (q2 ≤ 8 * s.size ∧ takeT bits n (T - (i + 1)) q2 ((List.range (i + 1)).map D) = ANS ∧ ∀ t, t < i + 1 → (D t).length ≤ 258) := Lib.hid ⟨HPI.out.1, by rw [← hDr]; exact hst, fun t ht => by
            by_cases et : t = i
            · rw [et, hDi]; exact hXl
            · rw [hD]
              show (if t = i then X else C t).length ≤ 258
              rw [if_neg et]
              exact HCL.out t (by omega)⟩
          have HR3 := Lib.hid hr3
          have HL3 := Lib.hid hL3
          obtain ⟨xl, hxl⟩ : ∃ xl, xl = X.length := ⟨_, rfl⟩
          rw [← hxl] at HCK HR3 ⊢
          clear hst hzin hXm eo hXl hD hDi hDr hLD hr3 hL3 ho2 hb2 hbb hc2 hm2 HT HST HCL HLL HPI hxl
          go_wp2_with fail
          refine HCK.out.mono ?_
          rintro e w2 ⟨rfl, rfl⟩
          go_wp2_with (at_builtin; refine Lib.wpList_append_run _ rfl (.tmp 33) (.tmp 35) 24 24 rfl (.slice A i c) (.slice (some ⟨w2.heap.size, 0, none⟩) 1 1) rfl rfl _ w3 HR3.out ?_)
          go_roundw
          case rel => exact ⟨i + 1, q2, c3, A3, _, D, by omega, by go_num, rfl, rfl, HL3.out, HD3⟩
          case measure => simp [intOf]; omega
        · rw [if_neg eo] at hst HCK
          have HE := Lib.hid (HER.out w2 80 (by omega) hst.symm hbb)
          obtain ⟨xl, hxl⟩ : ∃ xl, xl = X.length := ⟨_, rfl⟩
          rw [← hxl] at HCK ⊢
          clear hst hzin hXm eo ho2 hb2 hbb hc2 hm2 HT HST HCL HLL HPI hxl HOK HER HANS HTK HPL
          go_wp2_with fail
          refine HCK.out.mono ?_
          rintro e w2 ⟨rfl, rfl⟩
          go_wp2_with fail
          first | go_ret3 | skip
          exact HE.out
      · have hst := HST.out
        rw [if_neg ez] at hst
        have HE := Lib.hid (HER.out w2 z ez hst.symm hbb)
        have dz : ((z : Int) == 0) = false := by rw [beq_eq_false_iff_ne]; omega
        have dz2 : ((z : Int) != 0) = true := by rw [bne_iff_ne]; omega
        have dz3 : ¬ (z : Int) = 0 := by omega
        have dz4 : (z == 0) = false := by rw [beq_eq_false_iff_ne]; exact ez
        clear hst ho2 hb2 hbb hc2 hm2 HT HST HCL HLL HPI HOK HER HANS HTK HPL
        go_wp2_with fail
        first | go_ret3 | skip
        exact HE.out
    · obtain rfl : i = T := by omega
      have di : decide ((i : Int) < (i : Int)) = false := decide_eq_false (by omega)
      have hans : ANS = ((List.range i).map C, q, 0) := by rw [← hI.out.2.1, Nat.sub_self]; rfl
      have HE := Lib.hid (HOK.out wx A c F C q hans hL hI.out.2.2)
      clear hans hL hI HOK HER HANS HTK HPL
      go_wp2_with fail
      first | go_ret3 | skip
      exact HE.out

end Go.Proofs.YtmgmgmbpldboiaaGreat
