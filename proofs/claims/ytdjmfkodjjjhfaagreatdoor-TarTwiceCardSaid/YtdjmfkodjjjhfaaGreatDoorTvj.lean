/- Pax's code: Decode, and that its pairs lie in a block of the call's own. Conditions: the tables are there. -/
import Derived.Test.YtdjmfkodjjjhfaaGreatDoorPwg
import Derived.Lib.AppendZeros
import Derived.WalkMore
namespace Go.Proofs.YtdjmfkodjjjhfaaGreatDoor
open Go.RowKit

set_option maxRecDepth 100000 in
theorem xpair_one (w : World) (B n c : Nat) (A : Option Addr) (L : List PairB) (h : w.ownsRow B 56 2 (.slice A n c) n (cellsB L)) (K V : ByteArray) (hn : n ≤ 500000) (hB : B ≤ w.heap.size) :
    ∃ g2 c2 w2, (Builtin.append_ #[57, 57] 57 #[.slice A n c, .slice (some ⟨w.heap.size, 0, none⟩) 1 1]).run Tryz.prog (w.alloc (.cells #[.string K, .string V] 56)) = .ok (.slice (some ⟨g2, 0, none⟩) (n + 1) c2) w2 ∧
      w2.ownsRow B 56 2 (.slice (some ⟨g2, 0, none⟩) (n + 1) c2) (n + 1) (cellsB (L ++ [(K, V)])) ∧ Below B w w2 := by
  have hk := blk_new w 56 #[.string K, .string V]
  have hi : PIn (w.alloc (.cells #[.string K, .string V] 56)) (some ⟨w.heap.size, 0, none⟩) 1 [(K, V)] := ⟨rfl, fun _ => ⟨w.heap.size, 0, rfl, fun i hi => by
    obtain rfl : i = 0 := by omega
    exact ⟨blk_cell hk 0, blk_cell hk 1⟩⟩⟩
  obtain ⟨v2, w2, hr, ho, hg⟩ := append_pairs (w.alloc (.cells #[.string K, .string V] 56)) B (.slice A n c) n (cellsB L) (h.alloc _) (some ⟨w.heap.size, 0, none⟩) 1 1 [(K, V)] hi (by omega) (by simp; omega)
  rw [← cellsB_append] at ho
  obtain ⟨A2, c2, rfl, hc, hm, hA⟩ := own_slice ho
  obtain ⟨g2, rfl⟩ := hA (by omega)
  exact ⟨g2, c2, w2, hr, ho, ((Below.refl B w).alloc hB _).grown hg (by simp; omega) fun k hk => (World.ownsRow.lt h k hk).1⟩
set_option maxRecDepth 100000 in
theorem xpin_own {w : World} {B n c : Nat} {A : Option Addr} {L : List PairB} (h : w.ownsRow B 56 2 (.slice A n c) n (cellsB L)) : PIn w A n L ∧ n ≤ c ∧ c ≤ maxLen := by
  obtain ⟨A0, c0, hv, hc, hm, hA⟩ := own_slice h
  injection hv with hv1 hv2 hv3
  subst hv1 hv3
  have hl := h.1
  rw [cellsB_length] at hl
  rcases Nat.eq_zero_or_pos n with h0 | h0
  · exact ⟨⟨by omega, fun h => by omega⟩, hc, hm⟩
  · obtain ⟨g, rfl⟩ := hA h0
    exact ⟨pin_of_own h, hc, hm⟩
/-- What Decode tells. -/
def DecPostO (w : World) (t : ByteArray) (e : Ending) (w' : World) : Prop :=
  (∃ A n c L, e = .returned (.tuple #[.slice A n c, .int .i64 0]) ∧ t.size ≤ 262144 ∧ keysK (L.map toL) ∧ flatP (L.map toL) = t.data.toList ∧ n ≤ maxLen ∧ w'.ownsRow w.heap.size 56 2 (.slice A n c) n (cellsB L) ∧ Below w.heap.size w w') ∨
  (e = .returned (.tuple #[.slice none 0 0, .int .i64 (if 262144 < t.size then 3 else 170 : Nat)]) ∧ (∀ l, keysK l → flatP l = t.data.toList → 262144 < t.size) ∧ Below w.heap.size w w')
def xsizeS : Value → Nat
  | .string s => s.size
  | _ => 0
set_option maxRecDepth 100000 in
theorem xempty_list {R : ByteArray} : R.toList.isEmpty = true ↔ R.data.toList = [] := by
  rw [ByteArray.toList_eq]
  cases R.data.toList <;> simp
set_option maxHeartbeats 6400000 in
set_option maxRecDepth 100000 in
theorem cpdec_own (w : World) (hT : Tabs w) (t : ByteArray) (_ : t.size ≤ maxLen) : Calls Tryz.prog 62 #[.string t] w (DecPostO w t) := by
  by_cases h0 : 262144 < t.size
  · have d0 : decide ((262144 : Int) < (t.size : Int)) = true := decide_eq_true (by omega)
    have HB : Hid (DecPostO w t (.returned (.tuple #[.slice none 0 0, .int .i64 3])) w) := Lib.hid (.inr ⟨by rw [if_pos h0]; rfl, fun _ _ _ => h0, Below.refl _ _⟩)
    generalize DecPostO w t = PO at *
    clear h0
    go_enter Tryz.func62, Tryz.ntmps62
    go_wp2_with fail
    go_step3
    go_wp2_with fail
    exact HB.out
  have d0 : decide ((262144 : Int) < (t.size : Int)) = false := decide_eq_false (by omega)
  have htz : t.size ≤ 262144 := by omega
  have HYES : Hid (∀ (A : Option Addr) (n c : Nat) (L : List PairB) (w' : World), keysK (L.map toL) → flatP (L.map toL) = t.data.toList → w'.ownsRow w.heap.size 56 2 (.slice A n c) n (cellsB L) → Below w.heap.size w w' → DecPostO w t (.returned (.tuple #[.slice A n c, .int .i64 0])) w') := Lib.hid fun A n c L w' h1 h2 h3 h4 => by
    obtain ⟨g1, g2, g3⟩ := xpin_own h3
    exact .inl ⟨A, n, c, L, rfl, htz, h1, h2, Nat.le_trans g2 g3, h3, h4⟩
  have HNO : Hid (∀ (L : List PairB) (R : ByteArray) (w' : World), keysK (L.map toL) → flatP (L.map toL) ++ R.data.toList = t.data.toList → ¬ isR (cutR R.data.toList) → R.data.toList ≠ [] → Below w.heap.size w w' → DecPostO w t (.returned (.tuple #[.slice none 0 0, .int .i64 170])) w') := Lib.hid fun L R w' h1 h2 h3 h4 h5 => .inr ⟨by rw [if_neg h0]; rfl, fun l hk hl => absurd hl (no_pairs (L.map toL) R.data.toList t.data.toList h1 htz h2 h3 h4 l hk), h5⟩
  generalize DecPostO w t = PO at *
  have HTB : Hid (∀ wx : World, Below w.heap.size w wx → Tabs wx) := Lib.hid fun wx hb => hT.below hb
  have CC := Lib.hid fun (wx : World) (s : ByteArray) (h : s.size ≤ 262144) => ccutr_any wx s h
  have CP : Hid (∀ (wx : World) (s : ByteArray), Below w.heap.size w wx → s.size ≤ 262144 → Calls Tryz.prog 101 #[.string s] wx fun e w' => e = .returned (.tuple #[pairV (strF (pairR s.data.toList).1) (strF (pairR s.data.toList).2), .bool (decide (isR s.data.toList))]) ∧ Below wx.heap.size wx w') := Lib.hid fun wx s hb h => cpair_any wx (HTB.out _ hb) s h
  have hnil : w.ownsRow w.heap.size 56 2 (.slice none 0 0) 0 (cellsB []) := ⟨rfl, .inl ⟨rfl, rfl⟩⟩
  have HNIL := Lib.hid hnil
  clear hnil hT h0
  go_enter Tryz.func62, Tryz.ntmps62
  go_wp2_with fail
  go_step3
  go_wp2_with fail
  go_step3
  go_wp2_with fail
  go_loopw [4, 5] (fun so sv wx => ∃ (R : ByteArray) (L : List PairB) (A : Option Addr) (n c : Nat), sv = .string R ∧ so = .slice A n c ∧ R.size ≤ 262144 ∧ n ≤ 262144 ∧ Below w.heap.size w wx ∧
    Hid (wx.ownsRow w.heap.size 56 2 (.slice A n c) n (cellsB L) ∧ keysK (L.map toL) ∧ flatP (L.map toL) ++ R.data.toList = t.data.toList ∧ n + R.size ≤ 262144)) (fun _ sv _ => xsizeS sv)
  case atStart => exact ⟨t, [], none, 0, 0, rfl, rfl, htz, Nat.zero_le _, Below.refl _ _, Lib.hid ⟨HNIL.out, fun p hp => by simp at hp, rfl, by omega⟩⟩
  case round =>
    obtain ⟨R, L, A, n, c, rfl, rfl, hRz, hnz, hbx, hJ⟩ := hrel
    have HBX := Lib.hid hbx
    have C1 := Lib.hid (CC.out wr R hRz)
    have hcl := cutR_len R.data.toList
    have hRl : R.data.toList.length = R.size := rfl
    obtain ⟨X, hX⟩ : ∃ X, X = strF (cutR R.data.toList) := ⟨_, rfl⟩
    have hXl : X.data.toList = cutR R.data.toList := by rw [hX]; rfl
    have hXz : X.size = (cutR R.data.toList).length := by rw [hX, strF_size]
    have hXR : X.size ≤ R.size := by omega
    rw [← hX] at C1
    have C2 := Lib.hid fun (wx : World) (hb : Below w.heap.size w wx) => CP.out wx X hb (by omega)
    rw [hXl] at C2
    obtain ⟨K, hK⟩ : ∃ K, K = strF (pairR (cutR R.data.toList)).1 := ⟨_, rfl⟩
    obtain ⟨V, hV⟩ : ∃ V, V = strF (pairR (cutR R.data.toList)).2 := ⟨_, rfl⟩
    rw [← hK, ← hV] at C2
    have HMORE : Hid (isR (cutR R.data.toList) → keysK ((L ++ [(K, V)]).map toL) ∧ flatP ((L ++ [(K, V)]).map toL) ++ R.data.toList.drop X.size = t.data.toList ∧ 0 < X.size) := Lib.hid fun h => by
      have := one_more (L.map toL) R.data.toList t.data.toList hJ.out.2.1 hJ.out.2.2.1 h
      rw [hXz, List.map_append, show [(K, V)].map toL = [pairR (cutR R.data.toList)] from by rw [hK, hV]; rfl]
      exact this
    clear hcl hRl hX hXl hXz hK hV htz
    by_cases ei : isR (cutR R.data.toList)
    · obtain ⟨m1, m2, m3⟩ := HMORE.out ei
      have HM1 := Lib.hid m1
      have HM2 := Lib.hid m2
      rw [decide_eq_true ei] at C2
      obtain ⟨R2, hR2⟩ : ∃ r, r = R.extract X.size R.size := ⟨_, rfl⟩
      have hR2l : R2.data.toList = R.data.toList.drop X.size := by
        rw [hR2, fext_list]
        rw [List.take_of_length_le (Nat.le_refl R.size)]
      have HR2Z : Hid (R2.size + X.size = R.size) := Lib.hid (by rw [hR2, ByteArray.size_extract]; omega)
      rw [← hR2l] at HM2
      have HR2 := Lib.hid hR2.symm
      have HX0 := Lib.hid m3
      have hx1 : (X.size : Int) ≤ (R.size : Int) := by omega
      have HNN : Hid (n + 1 + R2.size ≤ 262144) := Lib.hid (by have := hJ.out.2.2.2; have := HR2Z.out; omega)
      clear m1 m2 m3 hR2 hR2l HMORE ei hbx
      go_wp2_with fail
      refine C1.out.mono ?_
      rintro e w2 ⟨rfl, hb2⟩
      have HB2 := Lib.hid (HBX.out.trans (hb2.mono HBX.out.size))
      have HROW2 := Lib.hid ((step_of_below hb2).row hJ.out.1 (fun k _ => List.not_mem_nil) List.not_mem_nil)
      clear hb2
      go_wp2_with fail
      refine (C2.out w2 HB2.out).mono ?_
      rintro e w3 ⟨rfl, hb3⟩
      have HB3 := Lib.hid (HB2.out.trans (hb3.mono HB2.out.size))
      have HROW3 := Lib.hid ((step_of_below hb3).row HROW2.out (fun k _ => List.not_mem_nil) List.not_mem_nil)
      clear hb3 HROW2 HB2
      have hb34 : Below w3.heap.size w3 (w3.alloc (.cells #[.string K, .string V] 56)) := (Below.refl _ _).alloc (Nat.le_refl _) _
      have hk4 := blk_new w3 56 #[.string K, .string V]
      have HB4 := Lib.hid (HB3.out.trans (hb34.mono HB3.out.size))
      have hrow4 := (step_of_below hb34).row HROW3.out (fun k _ => List.not_mem_nil) List.not_mem_nil
      go_upto_region 8 with fail
      generalize w3.alloc (.cells #[.string K, .string V] 56) = w4 at *
      have e0 := (blk_cell hk4 0).trans (rfl : _ = some (Value.string K))
      have e1 := (blk_cell hk4 1).trans (rfl : _ = some (Value.string V))
      obtain ⟨g2, c2, w5, hr5, ho5, hb5⟩ := xpair_one w4 w.heap.size n c A L hrow4 K V (by omega) HB4.out.size
      have HR5 := Lib.hid hr5
      have HO5 := Lib.hid ho5
      have HB5 := Lib.hid (HB4.out.trans hb5)
      clear hb34 hk4 hrow4 hr5 ho5 hb5 HROW3 HB3 hJ HBX
      obtain ⟨n1, hn1⟩ : ∃ n1, n1 = n + 1 := ⟨_, rfl⟩
      rw [← hn1] at HR5 HO5 HNN
      have hn1z : n1 ≤ 262144 := by have := HNN.out; omega
      clear hn1
      go_upto_region 9 with fail
      go_wp2_with (at_builtin; refine Lib.wpList_append_run _ rfl (.tmp 22) (.tmp 24) 57 57 rfl (.slice A n c) (.slice (some ⟨w4.heap.size, 0, none⟩) 1 1) rfl rfl (.slice (some ⟨g2, 0, none⟩) n1 c2) w5 HR5.out ?_)
      rw [HR2.out]
      go_roundw
      case rel => exact ⟨R2, L ++ [(K, V)], some ⟨g2, 0, none⟩, n1, c2, rfl, rfl, by have := HR2Z.out; omega, hn1z, HB5.out, Lib.hid ⟨HO5.out, HM1.out, HM2.out, HNN.out⟩⟩
      case measure => have h1 := HR2Z.out; have h2 := HX0.out; simp [xsizeS]; omega
    · rw [decide_eq_false ei] at C2
      by_cases er : R.data.toList = []
      · have d1 : (R.toList == []) = true := by rw [empty_same]; exact decide_eq_true er
        have d2 : R.toList.isEmpty = true := xempty_list.2 er
        have HF : Hid (∀ w', w'.ownsRow w.heap.size 56 2 (.slice A n c) n (cellsB L) → Below w.heap.size w w' → PO (.returned (.tuple #[.slice A n c, .int .i64 0])) w') := Lib.hid fun w' h1 h2 => HYES.out A n c L w' hJ.out.2.1 (by rw [← hJ.out.2.2.1, er, List.append_nil]) h1 h2
        clear HMORE ei er hbx
        go_wp2_with fail
        refine C1.out.mono ?_
        rintro e w2 ⟨rfl, hb2⟩
        have HB2 := Lib.hid (HBX.out.trans (hb2.mono HBX.out.size))
        have HROW2 := Lib.hid ((step_of_below hb2).row hJ.out.1 (fun k _ => List.not_mem_nil) List.not_mem_nil)
        clear hb2
        go_wp2_with fail
        refine (C2.out w2 HB2.out).mono ?_
        rintro e w3 ⟨rfl, hb3⟩
        have HB3 := Lib.hid (HB2.out.trans (hb3.mono HB2.out.size))
        have HROW3 := Lib.hid ((step_of_below hb3).row HROW2.out (fun k _ => List.not_mem_nil) List.not_mem_nil)
        have hb34 : Below w3.heap.size w3 (w3.alloc (.cells #[.string K, .string V] 56)) := (Below.refl _ _).alloc (Nat.le_refl _) _
        have HG := Lib.hid (HF.out _ ((step_of_below hb34).row HROW3.out (fun k _ => List.not_mem_nil) List.not_mem_nil) (HB3.out.trans (hb34.mono HB3.out.size)))
        clear hb3 hb34
        go_wp2_with fail
        exact HG.out
      · have d1 : (R.toList == []) = false := by rw [empty_same]; exact decide_eq_false er
        have d2 : R.toList.isEmpty = false := by
          cases h : R.toList.isEmpty
          · rfl
          · exact absurd (xempty_list.1 h) er
        have HF : Hid (∀ w', Below w.heap.size w w' → PO (.returned (.tuple #[.slice none 0 0, .int .i64 170])) w') := Lib.hid fun w' h2 => HNO.out L R w' hJ.out.2.1 hJ.out.2.2.1 ei er h2
        clear HMORE ei er hbx
        go_wp2_with fail
        refine C1.out.mono ?_
        rintro e w2 ⟨rfl, hb2⟩
        have HB2 := Lib.hid (HBX.out.trans (hb2.mono HBX.out.size))
        clear hb2
        go_wp2_with fail
        refine (C2.out w2 HB2.out).mono ?_
        rintro e w3 ⟨rfl, hb3⟩
        have HB3 := Lib.hid (HB2.out.trans (hb3.mono HB2.out.size))
        have hb34 : Below w3.heap.size w3 (w3.alloc (.cells #[.string K, .string V] 56)) := (Below.refl _ _).alloc (Nat.le_refl _) _
        have HG := Lib.hid (HF.out _ (HB3.out.trans (hb34.mono HB3.out.size)))
        clear hb3 hb34
        go_wp2_with fail
        exact HG.out
end Go.Proofs.YtdjmfkodjjjhfaaGreatDoor
