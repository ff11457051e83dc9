/- Pax's code: Encode. Conditions: records of at most 20000 bytes together; the tables are there. -/
import Derived.Test.YtccfjabmmecbkaaDoorPwd
import Derived.Test.YtccfjabmmecbkaaDoorPxd
import Derived.Laws.IdiomStrings
import Derived.Laws.BytesArg
import Derived.Lib.AppendStr
namespace Go.Proofs.YtccfjabmmecbkaaDoor
open Go.RowKit

set_option maxRecDepth 100000 in
theorem xconv_row {w : World} {B : Nat} {v : Value} {l : List UInt8} (h : w.ownsRow B 5 1 v l.length (l.map bv)) : (convert 40 9 v).run Tryd.prog w = .ok (.string ⟨l.toArray⟩) w := by
  rcases h.2 with ⟨rfl, h0⟩ | ⟨g, cap, cur, rfl, _⟩
  · have : l = [] := List.eq_nil_of_length_eq_zero h0
    subst this
    exact run_convert_bytes_nil w 40 5 Tryd.underlying40 Tryd.underlying5 0 0 9 Tryd.underlying9
  · have hn : ∀ j (hj : j < l.length), w.cell? ((⟨g, 0, none⟩ : Addr).add j) = some (.int .u8 (l[j].toNat : Int)) := by
      intro j hj
      have h1 := h.cells (g := g) rfl j (.int .u8 (l[j].toNat : Int))
      exact h1 (by rw [List.getElem?_map, List.getElem?_eq_getElem hj]; rfl)
    exact run_convert_bytes_back w 40 9 5 ⟨g, 0, none⟩ cap l Tryd.underlying40 Tryd.underlying5 Tryd.underlying9 hn
theorem keys_next (L : List PairB) (q : Nat) (hq : q < L.length) (h : keysK ((L.map toL).take q)) (hk : keyK (L.getD q noB).1.data.toList) : keysK ((L.map toL).take (q + 1)) := by
  rw [List.take_succ_eq_append_getElem (by rw [List.length_map]; exact hq), List.getElem_map]
  refine keysK_append h fun p hp => ?_
  rw [List.mem_singleton.1 hp]
  rw [List.getD_eq_getElem?_getD, List.getElem?_eq_getElem hq] at hk
  exact hk
theorem keys_not (L : List PairB) (q : Nat) (hq : q < L.length) (hk : ¬ keyK (L.getD q noB).1.data.toList) : ¬ keysK (L.map toL) := fun h => by
  rw [List.getD_eq_getElem?_getD, List.getElem?_eq_getElem hq] at hk
  exact hk (h _ (List.mem_map.2 ⟨L[q], List.getElem_mem hq, rfl⟩))
theorem flat_next (L : List PairB) (q : Nat) (hq : q < L.length) : flatP ((L.map toL).take (q + 1)) = flatP ((L.map toL).take q) ++ recL (toL (L.getD q noB)) := by
  rw [List.take_succ_eq_append_getElem (by rw [List.length_map]; exact hq), List.getElem_map, flatP_append, List.getD_eq_getElem?_getD, List.getElem?_eq_getElem hq]
  exact congrArg (_ ++ ·) (List.append_nil _)
theorem flat_le (l : List PairL) (q : Nat) : (flatP (l.take q)).length ≤ (flatP l).length := by
  have h := flatP_append (l.take q) (l.drop q)
  rw [List.take_append_drop] at h
  rw [h, List.length_append]
  omega
set_option maxHeartbeats 6400000 in
set_option maxRecDepth 1000000 in
theorem cpenc_any (w : World) (hT : Tabs w) (A : Option Addr) (n c : Nat) (L : List PairB) (hI : PIn w A n L) (hn : n ≤ maxLen) (hs : (flatP (L.map toL)).length ≤ 20000) :
    Calls Tryd.prog 10 #[.slice A n c] w fun e w' => e = .returned (.tuple #[.string (strF (pencA (L.map toL)).1), .int .i64 (pencA (L.map toL)).2]) ∧ Below w.heap.size w w' := by
  obtain ⟨i5, h5, hz0', hz1, hz2⟩ := info_parts Tryd.info5
  have hlen := hI.1
  have HI := Lib.hid hI
  have HTB : Hid (∀ wx : World, Below w.heap.size w wx → Tabs wx) := Lib.hid fun wx hb => hT.below hb
  have HKN := Lib.hid (keys_next L)
  have HKX := Lib.hid (keys_not L)
  have HFN := Lib.hid (flat_next L)
  have HFL := Lib.hid fun q => Nat.le_trans (flat_le (L.map toL) q) hs
  have HALL : Hid ((L.map toL).take n = L.map toL) := Lib.hid (by rw [← hlen, ← List.length_map (f := toL), List.take_length])
  have HP : Hid (∀ (X : List UInt8) (k : Nat) (w' : World), pencA (L.map toL) = (X, k) → Below w.heap.size w w' → (fun e w' => e = Ending.returned (.tuple #[.string (strF (pencA (L.map toL)).1), .int .i64 (pencA (L.map toL)).2]) ∧ Below w.heap.size w w') (.returned (.tuple #[.string (strF X), .int .i64 k])) w') := Lib.hid fun X k w' h hb => ⟨by rw [h], hb⟩
  generalize (fun e w' => e = Ending.returned (.tuple #[.string (strF (pencA (L.map toL)).1), .int .i64 (pencA (L.map toL)).2]) ∧ Below w.heap.size w w') = PO at *
  have HSZ : Hid (∀ q, q < n → (L.getD q noB).1.size + (L.getD q noB).2.size ≤ 20000) := Lib.hid fun q hq => by
    have h1 := HFL.out (q + 1)
    rw [HFN.out q (by omega), List.length_append, recL, List.length_append, prestL_length] at h1
    have h2 : (toL (L.getD q noB)).1.length = (L.getD q noB).1.size := rfl
    have h3 : (toL (L.getD q noB)).2.length = (L.getD q noB).2.size := rfl
    omega
  have HLEN := Lib.hid hlen
  unfold maxLen at hn
  clear hI hlen hT hs
  go_enter Tryd.func10, Tryd.ntmps10
  go_wp2_with fail
  go_loopw [11] (fun sn wx => ∃ q : Nat, sn = .int .i64 q ∧ q ≤ n ∧ Hid (keysK ((L.map toL).take q)) ∧ Below w.heap.size w wx) (fun sn _ => n - (intOf sn).toNat)
  case atStart => exact ⟨0, rfl, Nat.zero_le _, Lib.hid (fun p hp => by simp at hp), Below.refl _ _⟩
  case round =>
    obtain ⟨q, rfl, hqn, hkq, hbx⟩ := hrel
    have HBX := Lib.hid hbx
    by_cases eq : q < n
    · have d0 : decide ((q : Int) < (n : Int)) = true := decide_eq_true (by omega)
      obtain ⟨b, off, hA, hc⟩ := (HI.out.below hbx).2 (by omega)
      obtain ⟨c1, c2⟩ := hc q eq
      have hkn := HKN.out q (by rw [HLEN.out]; exact eq) hkq.out
      have hkx := HKX.out q (by rw [HLEN.out]; exact eq)
      obtain ⟨K, hK⟩ : ∃ K, K = (L.getD q noB).1 := ⟨_, rfl⟩
      obtain ⟨U, hU⟩ : ∃ U, U = (L.getD q noB).2 := ⟨_, rfl⟩
      rw [← hK] at c1 hkn hkx
      rw [← hU] at c2
      have hr := blk_new wr 36 #[.string K, .string U]
      have HB2 := Lib.hid (HBX.out.alloc HBX.out.size (.cells #[.string K, .string U] 36))
      have hz0 : (0 : Int) ≤ (q : Int) := by omega
      have hzn : (q : Int) < (n : Int) := by omega
      subst hA
      clear hc hK hU hbx
      go_upto_region 4 with fail
      generalize wr.alloc (.cells #[.string K, .string U] 36) = w2 at *
      have e0 := (blk_cell hr 0).trans (rfl : _ = some (Value.string K))
      have e1 := (blk_cell hr 1).trans (rfl : _ = some (Value.string U))
      have C1 := Lib.hid (cmay_any w2 K U)
      clear hr
      by_cases ek : keyK K.data.toList
      · have HKN2 := Lib.hid (hkn ek)
        rw [decide_eq_true ek] at C1
        clear ek hkn hkx
        go_wp2_with fail
        refine C1.out.mono ?_
        rintro e w3 ⟨rfl, hb3⟩
        have HB3 := Lib.hid (HB2.out.trans (hb3.mono HB2.out.size))
        clear hb3
        go_wp2_with fail
        go_roundw
        case rel => exact ⟨q + 1, by go_num, by omega, HKN2, HB3.out⟩
        case measure => simp [intOf]; omega
      · have HF := Lib.hid fun w' => HP.out [] 170 w' (if_neg (hkx ek))
        rw [decide_eq_false ek] at C1
        clear ek hkn hkx
        go_wp2_with fail
        refine C1.out.mono ?_
        rintro e w3 ⟨rfl, hb3⟩
        have HB3 := Lib.hid (HF.out w3 (HB2.out.trans (hb3.mono HB2.out.size)))
        clear hb3
        go_wp2_with fail
        exact HB3.out
    · obtain rfl : q = n := by omega
      have d0 : decide ((q : Int) < (q : Int)) = false := decide_eq_false (by omega)
      have HF := Lib.hid fun w' => HP.out (flatP (L.map toL)) 0 w' (if_pos (by rw [← HALL.out]; exact hkq.out))
      clear hkq hqn hbx HKN HKX
      go_wp2_with fail
      go_loopw [6, 21] (fun sv sn wx => ∃ (p : Nat) (A2 : Option Addr) (m c2 : Nat), sv = .slice A2 m c2 ∧ sn = .int .i64 p ∧ p ≤ q ∧ m ≤ 20000 ∧ Hid (wx.ownsRow w.heap.size 5 1 (.slice A2 m c2) m ((flatP ((L.map toL).take p)).map bv)) ∧ Below w.heap.size w wx) (fun _ sn _ => q - (intOf sn).toNat)
      case atStart => exact ⟨0, none, 0, 0, rfl, rfl, Nat.zero_le _, Nat.zero_le _, Lib.hid (World.ownsRow_nil _ _ _ _), HBX.out⟩
      case round =>
        obtain ⟨p, A2, m, c2, rfl, rfl, hpq, hm, hrow, hbx⟩ := hrel
        have HBX := Lib.hid hbx
        by_cases ep : p < q
        · have d0 : decide ((p : Int) < (q : Int)) = true := decide_eq_true (by omega)
          obtain ⟨b, off, hA, hc⟩ := (HI.out.below hbx).2 (by omega)
          obtain ⟨c1, c3⟩ := hc p ep
          have hfn := HFN.out p (by rw [HLEN.out]; exact ep)
          have hfl := HFL.out (p + 1)
          have hsz := HSZ.out p ep
          have hfp := hrow.out.1
          rw [List.length_map] at hfp
          rw [hfn, List.length_append] at hfl
          obtain ⟨P, hP⟩ : ∃ P, P = L.getD p noB := ⟨_, rfl⟩
          rw [← hP] at c1 c3 hfn hfl hsz
          obtain ⟨K, U⟩ := P
          have hrl := recL_length (toL (K, U)) (show K.size + U.size ≤ 999990 by have : K.size + U.size ≤ 20000 := hsz; omega)
          have hsz2 : K.size + U.size ≤ 20000 := hsz
          have c1 : wr.cell? ⟨b, off + p * 2, none⟩ = some (.string K) := c1
          have c3 : wr.cell? ⟨b, off + p * 2 + 1, none⟩ = some (.string U) := c3
          have hr := blk_new wr 36 #[.string K, .string U]
          have hb2 := HBX.out.alloc HBX.out.size (.cells #[.string K, .string U] 36)
          have hbr : Below wr.heap.size wr (wr.alloc (.cells #[.string K, .string U] 36)) := (Below.refl _ _).alloc (Nat.le_refl _) _
          have HROW2 := Lib.hid ((step_of_below hbr).row hrow.out (fun k _ => List.not_mem_nil) List.not_mem_nil)
          have HB2 := Lib.hid hb2
          have hz0 : (0 : Int) ≤ (p : Int) := by omega
          have hzn : (p : Int) < (q : Int) := by omega
          obtain ⟨s, hs⟩ : ∃ s, s = recN (toL (K, U)) := ⟨_, rfl⟩
          obtain ⟨X, hX⟩ : ∃ X, X = strF (recL (toL (K, U))) := ⟨_, rfl⟩
          have hXz : X.size = s := by rw [hX, strF_size, hrl, hs]
          have hXl : X.data.toList = recL (toL (K, U)) := by rw [hX]; rfl
          have CZ : Hid (∀ wx : World, Below w.heap.size w wx → Calls Tryd.prog 16 #[pairV K U] wx fun e w' => e = .returned (.int .i64 s) ∧ Below wx.heap.size wx w') := Lib.hid fun wx hb => by rw [hs]; exact csize_any wx (HTB.out _ hb) K U (by omega)
          have CR : Hid (∀ wx : World, Below w.heap.size w wx → Calls Tryd.prog 17 #[pairV K U] wx fun e w' => e = .returned (.string X) ∧ Below wx.heap.size wx w') := Lib.hid fun wx hb => by rw [hX]; exact crecord_any wx (HTB.out _ hb) K U (by omega)
          rw [← hXl] at hfn
          rw [hrl, ← hs] at hfl
          have hms : m + s ≤ 20000 := by omega
          have t1 : decide (((262144 : Int) - (m : Int)) < (s : Int)) = false := decide_eq_false (by omega)
          have HFN2 := Lib.hid hfn
          subst hA
          clear hc hP hbx hrow hb2 hbr hfn hfl hfp hrl hs hX hXl hsz
          go_upto_region 11 with fail
          generalize wr.alloc (.cells #[.string K, .string U] 36) = w2 at *
          have e0 := (blk_cell hr 0).trans (rfl : _ = some (Value.string K))
          have e1 := (blk_cell hr 1).trans (rfl : _ = some (Value.string U))
          have HR := Lib.hid hr
          clear hr
          go_wp2_with fail
          refine (CZ.out w2 HB2.out).mono ?_
          rintro e w3 ⟨rfl, hb3⟩
          have HB3 := Lib.hid (HB2.out.trans (hb3.mono HB2.out.size))
          have HROW3 := Lib.hid ((step_of_below hb3).row HROW2.out (fun k _ => List.not_mem_nil) List.not_mem_nil)
          have hr3 := (step_of_below hb3).blk HR.out List.not_mem_nil List.not_mem_nil
          have e2 := (blk_cell hr3 0).trans (rfl : _ = some (Value.string K))
          have e3 := (blk_cell hr3 1).trans (rfl : _ = some (Value.string U))
          clear hb3 hr3 HB2 HROW2 HR e0 e1
          go_wp2_with fail
          refine (CR.out w3 HB3.out).mono ?_
          rintro e w4 ⟨rfl, hb4⟩
          have HB4 := Lib.hid (HB3.out.trans (hb4.mono HB3.out.size))
          have hrow4 := (step_of_below hb4).row HROW3.out (fun k _ => List.not_mem_nil) List.not_mem_nil
          have hsize4 := HB4.out.size
          clear hb4 HB3 HROW3 e2 e3
          have HXZ := Lib.hid hXz
          clear hXz
          go_wp2_with (at_builtin; refine Lib.wpList_append_own_string _ rfl _ _ 40 9 rfl w.heap.size 5 i5 Tryd.underlying40 Tryd.underlying9 h5 hz0' hz1 hz2 _ _ _ rfl hrow4 X rfl ?c3 ?c4 ?c5 ?_)
          case c3 => have := HXZ.out; unfold maxLen; omega
          case c4 => have := HXZ.out; omega
          case c5 => exact hsize4
          intro v5 w5 hown5 hgrow5 _
          have HB5 := Lib.hid (HB4.out.grown hgrow5 hsize4 (fun k hk => (hrow4.lt k hk).1))
          rw [HXZ.out] at hown5
          obtain ⟨A5, c5, rfl, _⟩ := own_slice hown5
          have hown6 : w5.ownsRow w.heap.size 5 1 (.slice A5 (m + s) c5) (m + s) ((flatP ((L.map toL).take (p + 1))).map bv) := by
            rw [HFN2.out, List.map_append]
            exact hown5
          have HOWN := Lib.hid hown6
          clear hown5 hown6 hgrow5 hrow4
          obtain ⟨m2, hm2⟩ : ∃ m2, m2 = m + s := ⟨_, rfl⟩
          rw [← hm2] at HOWN hms ⊢
          clear hm2
          go_wp2_with fail
          go_roundw
          case rel => exact ⟨p + 1, A5, m2, c5, rfl, by go_num, by omega, hms, HOWN, HB5.out⟩
          case measure => simp [intOf]; omega
        · obtain rfl : p = q := by omega
          have d0 : decide ((p : Int) < (p : Int)) = false := decide_eq_false (by omega)
          have hro := hrow.out
          rw [HALL.out] at hro
          have hml : m = (flatP (L.map toL)).length := by
            have := hro.1
            rw [List.length_map] at this
            omega
          have hcv := xconv_row (B := w.heap.size) (v := .slice A2 m c2) (l := flatP (L.map toL)) (by rw [← hml]; exact hro)
          have HG := Lib.hid (HF.out _ hbx)
          clear hro hml hrow hbx
          go_wp2_with fail
          exact HG.out
end Go.Proofs.YtccfjabmmecbkaaDoor
