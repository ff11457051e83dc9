/- The reference of rle: Decode: plain, then walked. No conditions. -/
import Derived.Test.YtihmlhkjafajmaaEc
import Derived.Lib.AppendStr
import Derived.Laws.AppendOwn
namespace Go.Proofs.Ytihmlhkjafajmaa
open Go.RowKit

/-- What is read of a text: it and 0, or nothing and the error; o is what was read ahead of it. -/
def decR : Nat → List UInt8 → List UInt8 → List UInt8 × Nat
  | 0, o, _ => (o, 0)
  | _ + 1, o, [] => (o, 0)
  | n + 1, o, x :: l =>
    if sameN (x :: l) < 4 then (if 262144 ≤ o.length then ([], 3) else decR n (o ++ [x]) l)
    else if 262144 < o.length + 4 then ([], 3)
    else if l.length = 3 then ([], 30)
    else if 262144 < o.length + 4 + (l.getD 3 0).toNat then ([], 3)
    else decR n (o ++ (x :: l).take 4 ++ List.replicate (l.getD 3 0).toNat x) (l.drop 4)
theorem decR_nil (n : Nat) (o : List UInt8) : decR n o [] = (o, 0) := by cases n <;> rfl
theorem decR_more (n : Nat) : ∀ (m : Nat) (o l : List UInt8), l.length ≤ n → l.length ≤ m → decR n o l = decR m o l := by
  induction n with
  | zero =>
    intro m o l h _
    have : l = [] := List.eq_nil_of_length_eq_zero (by omega)
    subst this
    rw [decR_nil, decR_nil]
  | succ n ih =>
    intro m o l h h2
    cases l with
    | nil => rw [decR_nil, decR_nil]
    | cons x l =>
      cases m with
      | zero => simp at h2
      | succ m =>
        simp only [List.length_cons] at h h2
        unfold decR
        rw [ih m (o ++ [x]) l (by omega) (by omega), ih m (o ++ (x :: l).take 4 ++ List.replicate (l.getD 3 0).toNat x) (l.drop 4) (by rw [List.length_drop]; omega) (by rw [List.length_drop]; omega)]
def decL (o l : List UInt8) : List UInt8 × Nat := decR l.length o l
theorem decL_nil (o : List UInt8) : decL o [] = (o, 0) := rfl
theorem decL_cons (o : List UInt8) (x : UInt8) (l : List UInt8) : decL o (x :: l) =
    if sameN (x :: l) < 4 then (if 262144 ≤ o.length then ([], 3) else decL (o ++ [x]) l)
    else if 262144 < o.length + 4 then ([], 3)
    else if l.length = 3 then ([], 30)
    else if 262144 < o.length + 4 + (l.getD 3 0).toNat then ([], 3)
    else decL (o ++ (x :: l).take 4 ++ List.replicate (l.getD 3 0).toNat x) (l.drop 4) := by
  have h : decL o (x :: l) = decR (l.length + 1) o (x :: l) := rfl
  rw [h, decR]
  unfold decL
  rw [decR_more l.length (l.drop 4).length _ (l.drop 4) (by rw [List.length_drop]; omega) (Nat.le_refl _)]

theorem conv_row {w : World} {B : Nat} {v : Value} {l : List UInt8} (h : w.ownsRow B 5 1 v l.length (l.map bv)) : (convert 32 9 v).run Try.prog w = .ok (.string ⟨l.toArray⟩) w := by
  rcases h.2 with ⟨rfl, h0⟩ | ⟨g, cap, cur, rfl, _⟩
  · have : l = [] := List.eq_nil_of_length_eq_zero h0
    subst this
    exact run_convert_bytes_nil w 32 5 Try.underlying32 Try.underlying5 0 0 9 Try.underlying9
  · have hn : ∀ j (hj : j < l.length), w.cell? ((⟨g, 0, none⟩ : Addr).add j) = some (.int .u8 (l[j].toNat : Int)) := by
      intro j hj
      have h1 := h.cells (g := g) rfl j (.int .u8 (l[j].toNat : Int))
      exact h1 (by rw [List.getElem?_map, List.getElem?_eq_getElem hj]; rfl)
    exact run_convert_bytes_back w 32 9 5 ⟨g, 0, none⟩ cap l Try.underlying32 Try.underlying5 Try.underlying9 hn

theorem bv_cells (s : ByteArray) : Lib.strCells s = s.data.toList.map bv := rfl

set_option maxHeartbeats 1600000 in
set_option maxRecDepth 4000 in
theorem rdec_any (w : World) (s : ByteArray) :
    Calls Try.prog 13 #[.string s] w fun e w' => e = .returned (.tuple #[.string ⟨(decL [] s.data.toList).1.toArray⟩, .int .i64 (decL [] s.data.toList).2]) ∧ Below w.heap.size w w' := by
  obtain ⟨i5, h5, hz0, hz1, hz2⟩ := info_parts Try.info5
  go_enter Try.func13, Try.ntmps13
  go_wp2_with fail
  go_loopw [0, 4] (fun a v wr => ∃ (t : ByteArray) (o : List UInt8), a = .string t ∧ wr.ownsRow w.heap.size 5 1 v o.length (o.map bv) ∧ o.length ≤ 262144 ∧ t.size ≤ s.size ∧ decL o t.data.toList = decL [] s.data.toList ∧ Below w.heap.size w wr) (fun a _ _ => txtLen a)
  case atStart => exact ⟨s, [], rfl, World.ownsRow_nil _ _ _ _, by simp, Nat.le_refl _, rfl, Below.refl _ _⟩
  case round =>
    obtain ⟨t, o, rfl, hown, hol, hts, hdec, hb⟩ := hrel
    have hsize := hb.size
    by_cases h : 0 < t.size
    · have hl := list_head t h
      have hcons := decL_cons o t[0] (t.data.toList.drop 1)
      rw [← hl, hdec] at hcons
      have hsm := sameN_le t.data.toList
      have htl : t.data.toList.length = t.size := rfl
      have hd1 : (t.data.toList.drop 1).length = t.size - 1 := by rw [List.length_drop, htl]
      have HTL := Lib.hid htl
      have HD1 := Lib.hid hd1
      have HS := Lib.hid (rsame_any wr t h)
      rename_i v0 _
      obtain ⟨A0, c0, rfl, hnc0, hcm0, hA0⟩ := own_slice hown
      have HB := Lib.hid hb
      have HOWN := Lib.hid hown
      have HL := Lib.hid hl
      have HD := Lib.hid hdec
      obtain ⟨N, hN⟩ : ∃ N, N = o.length := ⟨_, rfl⟩
      rw [← hN] at HOWN hnc0 hol hcons ⊢
      have HN := Lib.hid hN
      clear hl hdec hb hA0 hown htl hd1 hN
      generalize sameN t.data.toList = q at *
      by_cases hq : q < 4
      · rw [if_pos hq] at hcons
        by_cases hbig : 262144 ≤ N
        · rw [if_pos hbig] at hcons
          have HC := Lib.hid hcons
          clear hcons
          go_wp2_with fail
          refine HS.out.mono ?_
          rintro e w1 ⟨rfl, hb1⟩
          have HB1 := Lib.hid (HB.out.trans (hb1.mono hsize))
          clear hb1
          have dd : decide ((262144 : Int) ≤ (N : Int)) = true := decide_eq_true (by omega)
          clear hbig hol
          go_wp2_with fail
          go_ret2
          exact ⟨by rw [HC.out]; rfl, HB1.out⟩
        · rw [if_neg hbig] at hcons
          have HC := Lib.hid hcons
          clear hcons
          go_wp2_with fail
          refine HS.out.mono ?_
          rintro e w1 ⟨rfl, hb1⟩
          have hown1 := (step_of_below hb1).row HOWN.out (fun _ _ => List.not_mem_nil) List.not_mem_nil
          have HB1 := Lib.hid (HB.out.trans (hb1.mono hsize))
          have hsize1 := HB1.out.size
          clear hb1
          have hnb : N < 262144 := by omega
          have HNB := Lib.hid hnb
          have dd : decide ((262144 : Int) ≤ (N : Int)) = false := decide_eq_false (by omega)
          clear hbig hol hnb
          go_wp2_with (at_builtin; refine wpList_append_own _ rfl _ _ 32 rfl w.heap.size 5 i5 (.int .u8 0) 1 1 Try.underlying32 h5 hz0 hz1 hz2 rfl (by decide) _ _ _ rfl (hown1.alloc _) ⟨w1.heap.size, 0, none⟩ 1 1 [.int .u8 t[0].toNat] rfl rfl ?c1 ?c2 ?c3 ?c4 ?c5 ?_)
          case c1 => exact cell_one_new _ _ _
          case c2 => intro u hu; simp at hu; subst hu; rfl
          case c3 => have := HNB.out; unfold maxLen; omega
          case c4 => have := HNB.out; omega
          case c5 => simp; omega
          intro v2 w2 hown2 hgrow2 _
          have hb2 : Below w.heap.size w w2 := (HB1.out.alloc hsize1 _).grown hgrow2 (by simp; omega) (fun k hk => (hown1.lt k hk).1)
          have HB2 := Lib.hid hb2
          have HOWN2 := Lib.hid hown2
          clear hb2 hown2 hgrow2 hown1
          go_wp2_with fail
          have hext : (t.extract 1 t.size).data.toList = t.data.toList.drop 1 := ext_drop t 1
          go_roundw
          case rel =>
            refine ⟨t.extract 1 t.size, o ++ [t[0]], rfl, ?_, ?_, ?_, ?_, HB2.out⟩
            · rw [List.length_append, ← HN.out, List.map_append]
              exact HOWN2.out
            · rw [List.length_append, ← HN.out]
              exact HNB.out
            · rw [ext_drop_size]; omega
            · rw [hext, ← HC.out]
          case measure => show (t.extract 1 t.size).size < t.size; rw [ext_drop_size]; omega
      · have hq4 : q = 4 := by omega
        subst hq4
        rw [if_neg hq] at hcons
        clear hq
        have hts4 : 4 ≤ t.size := by rw [← HTL.out]; omega
        clear hsm
        by_cases hA : 262144 < N + 4
        · rw [if_pos hA] at hcons
          have HC := Lib.hid hcons
          clear hcons
          go_wp2_with fail
          refine HS.out.mono ?_
          rintro e w1 ⟨rfl, hb1⟩
          have HB1 := Lib.hid (HB.out.trans (hb1.mono hsize))
          clear hb1
          have dd : decide ((262144 : Int) < (N : Int) + 4) = true := decide_eq_true (by omega)
          have dn : (N : Int) ≤ 262144 := by omega
          clear hA hol
          go_wp2_with fail
          go_ret2
          exact ⟨by rw [HC.out]; rfl, HB1.out⟩
        · rw [if_neg hA] at hcons
          go_wp2_with fail
          refine HS.out.mono ?_
          rintro e w1 ⟨rfl, hb1⟩
          have hown1 := (step_of_below hb1).row HOWN.out (fun _ _ => List.not_mem_nil) List.not_mem_nil
          have HB1 := Lib.hid (HB.out.trans (hb1.mono hsize))
          have hsize1 := HB1.out.size
          clear hb1
          have HHA := Lib.hid hA
          have HOL := Lib.hid hol
          have HCO := Lib.hid hcons
          have dd : decide ((262144 : Int) < (N : Int) + 4) = false := decide_eq_false (by omega)
          have dn : (N : Int) ≤ 262144 := by omega
          have d4 : (4 : Int) ≤ t.size := by omega
          have hx4 : (t.extract 0 4).size = 4 := by rw [ByteArray.size_extract]; omega
          clear hA hol hcons
          go_wp2_with (at_builtin; refine Lib.wpList_append_own_string _ rfl _ _ 32 9 rfl w.heap.size 5 i5 Try.underlying32 Try.underlying9 h5 hz0 hz1 hz2 _ _ _ rfl hown1 (t.extract 0 4) rfl ?c3 ?c4 ?c5 ?_)
          case c3 => have := HHA.out; unfold maxLen; omega
          case c4 => have := HHA.out; omega
          case c5 => exact hsize1
          intro v2 w2 hown2 hgrow2 _
          have hown2' : w2.ownsRow w.heap.size 5 1 v2 (N + 4) ((o ++ t.data.toList.take 4).map bv) := by
            rw [List.map_append, ← ext_take]
            exact hown2
          have hb2 : Below w.heap.size w w2 := HB1.out.grown hgrow2 hsize1 (fun k hk => (hown1.lt k hk).1)
          have HB2 := Lib.hid hb2
          have hsize2 := HB2.out.size
          have HOWN2 := Lib.hid hown2'
          clear hb2 hown2 hown2' hgrow2 hown1
          by_cases hB : t.size = 4
          · have hc := HCO.out
            rw [if_pos (by rw [HD1.out]; omega)] at hc
            have HC := Lib.hid hc
            clear hc
            have d5 : ((t.size : Int) == 4) = true := by rw [hB]; rfl
            go_wp2_with fail
            go_ret2
            exact ⟨by rw [HC.out]; rfl, HB2.out⟩
          · have hc := HCO.out
            rw [if_neg (by rw [HD1.out]; omega)] at hc
            have h4 : 4 < t.size := by omega
            have hcount : ((t.data.toList.drop 1).getD 3 0).toNat = t[4].toNat := by
              rw [List.getD_eq_getElem?_getD, List.getElem?_drop, data_get t 4 h4]
              rfl
            rw [hcount] at hc
            have HC := Lib.hid hc
            clear hc hcount
            have d5 : ((t.size : Int) == 4) = false := by
              simp only [beq_eq_false_iff_ne, ne_eq]
              omega
            obtain ⟨A2, c2, rfl, hnc2, hcm2, hA2⟩ := own_slice HOWN2.out
            have hb4 : t[4].toNat < 256 := UInt8.toNat_lt _
            clear hA2
            by_cases hC : 262144 < N + 4 + t[4].toNat
            · have hc := HC.out
              rw [if_pos hC] at hc
              have HE := Lib.hid hc
              have dc : decide ((262144 : Int) < (N : Int) + 4 + (t[4].toNat : Int)) = true := decide_eq_true (by omega)
              have HHC := Lib.hid hC
              clear hc hC dc
              go_wp2_with fail
              · go_ret2
                exact ⟨by rw [HE.out]; rfl, HB2.out⟩
              · exfalso
                have := HHC.out
                omega
            · have hc := HC.out
              rw [if_neg hC] at hc
              have HE := Lib.hid hc
              have dc : decide ((262144 : Int) < (N : Int) + 4 + (t[4].toNat : Int)) = false := decide_eq_false (by omega)
              have HHC := Lib.hid hC
              clear hc hC
              have hcnt : N + 4 + t[4].toNat ≤ 262144 := by have := HHC.out; omega
              have HCN := Lib.hid hcnt
              clear hcnt dc
              go_wp2_with fail
              · exfalso
                have := HHC.out
                omega
              rename_i hle _ _
              clear hle
              go_loopw [4, 6] (fun v i wx => ∃ m : Nat, m ≤ t[4].toNat ∧ i = .int .i64 m ∧ wx.ownsRow w.heap.size 5 1 v (N + 4 + m) ((o ++ t.data.toList.take 4 ++ List.replicate m t[0]).map bv) ∧ Below w.heap.size w wx) (fun _ i _ => t[4].toNat - (intOf i).toNat)
              case atStart => exact ⟨0, by omega, rfl, by rw [List.replicate_zero, List.append_nil]; exact HOWN2.out, HB2.out⟩
              case round =>
                obtain ⟨m, hm, rfl, hownm, hbm⟩ := hrel
                have hsizem := hbm.size
                by_cases hlt : m < t[4].toNat
                · obtain ⟨X, hX⟩ : ∃ X, X = (o ++ t.data.toList.take 4 ++ List.replicate m t[0]).map bv := ⟨_, rfl⟩
                  rw [← hX] at hownm
                  have HX := Lib.hid hX
                  clear hX
                  have hbn : (N : Int) + 4 + m < 262144 := by have := HCN.out; omega
                  go_wp2_with (at_builtin; refine wpList_append_own _ rfl _ _ 32 rfl w.heap.size 5 i5 (.int .u8 0) 1 1 Try.underlying32 h5 hz0 hz1 hz2 rfl (by decide) _ _ _ rfl (hownm.alloc _) ⟨wr.heap.size, 0, none⟩ 1 1 [.int .u8 t[0].toNat] rfl rfl ?c1 ?c2 ?c3 ?c4 ?c5 ?_)
                  case c1 => exact cell_one_new _ _ _
                  case c2 => intro u hu; simp at hu; subst hu; rfl
                  case c3 => have := HCN.out; unfold maxLen; omega
                  case c4 => have := HCN.out; omega
                  case c5 => simp; omega
                  intro v3 w3 hown3 hgrow3 _
                  have hb3 : Below w.heap.size w w3 := (hbm.alloc hsizem _).grown hgrow3 (by simp; omega) (fun k hk => (hownm.lt k hk).1)
                  have HB3 := Lib.hid hb3
                  have HOWN3 := Lib.hid hown3
                  clear hb3 hown3 hgrow3 hownm
                  go_wp2_with fail
                  go_roundw
                  case rel =>
                    refine ⟨m + 1, by omega, by go_num, ?_, HB3.out⟩
                    rw [List.replicate_succ', ← List.append_assoc, List.map_append, ← HX.out]
                    exact HOWN3.out
                  case measure => simp [intOf]; omega
                · obtain rfl : m = t[4].toNat := by omega
                  have HM := Lib.hid hownm
                  have HBM := Lib.hid hbm
                  clear hownm hbm
                  go_wp2_with fail
                  have hext : (t.extract 5 t.size).data.toList = (t.data.toList.drop 1).drop 4 := by
                    rw [ext_drop, List.drop_drop]
                  have hlen : (o ++ t.data.toList.take 4 ++ List.replicate t[4].toNat t[0]).length = N + 4 + t[4].toNat := by
                    rw [List.length_append, List.length_append, List.length_replicate, List.length_take, HTL.out, ← HN.out]
                    omega
                  go_roundw
                  case rel =>
                    refine ⟨t.extract 5 t.size, o ++ t.data.toList.take 4 ++ List.replicate t[4].toNat t[0], rfl, ?_, ?_, ?_, ?_, HBM.out⟩
                    · rw [hlen]
                      exact HM.out
                    · rw [hlen]
                      exact HCN.out
                    · rw [ext_drop_size]; omega
                    · rw [hext, ← HE.out]
                  case measure => show (t.extract 5 t.size).size < t.size; rw [ext_drop_size]; omega
    · have hz : t.size = 0 := by omega
      have ht : t.data.toList = [] := List.eq_nil_of_length_eq_zero hz
      rw [ht, decL_nil] at hdec
      have hconv := conv_row hown
      have HD := Lib.hid hdec
      have HB := Lib.hid hb
      clear hdec hb hown hol
      go_wp2_with fail
      go_ret2
      rw [← HD.out]
      exact ⟨rfl, HB.out⟩

end Go.Proofs.Ytihmlhkjafajmaa
