/- The law PaxJoins, walked over what is asked of the code. Written ahead of stage 17. -/
import Derived.Test.YtccfjabmmecbkaaDoorPxf
import Derived.Test.YtccfjabmmecbkaaDoorPxd
import Derived.Lib.AppendZeros
import Derived.OwnWalk
namespace Go.Proofs.YtccfjabmmecbkaaDoor
open Go.RowKit

theorem bytes_list (s t : ByteArray) : (s ++ t).data.toList = s.data.toList ++ t.data.toList := by
  rw [ByteArray.data_append, Array.toList_append]
/-- An append whose run is known, behind a guard. -/
theorem wpList_append_guard {P : Program} (w : World) {ops : Array Oper} {rest : List Oper} {o : Oper} {a : Act} {Q : Exit → Act → World → Prop} (hw : Region.wanted o (yielded ops a.tmps) = true) (s x : Operand) (t tn : TypeId)
    (ho : o.op = .call { callee := .builtin .append, args := #[s, x], argTypes := #[t, tn] }) (vs vx : Value) (hs : a.eval s = vs) (hx : a.eval x = vx)
    (v' : Value) (w' : World) (hr : (Builtin.append_ #[t, tn] o.type #[vs, vx]).run P w = .ok v' w') (h : wpList P ops Q rest (a.put o.dst v') w') : wpList P ops Q (o :: rest) a w :=
  wpList_step fun K hK => by
    rw [if_pos hw]
    exact Lib.wp_append_run w s x t tn ho vs vx hs hx v' w' hr (hK _ _ h)
set_option maxRecDepth 100000 in
theorem pin_of_row {w : World} {B n c : Nat} {A : Option Addr} {L : List PairB} (h : w.ownsRow B 36 2 (.slice A n c) n (cellsB L)) : PIn w A n L := by
  rcases Nat.eq_zero_or_pos n with h0 | h0
  · refine ⟨?_, fun hn => by omega⟩
    have := h.1
    rw [cellsB_length] at this
    omega
  · obtain ⟨A', c', hv, _, _, hg⟩ := own_slice h
    injection hv with h1 h2 h3
    obtain ⟨g, hA⟩ := hg h0
    rw [h1, hA] at h
    rw [h1, hA]
    exact pin_of_own h
set_option maxRecDepth 100000 in
/-- Pairs and pairs behind a new slice. -/
theorem both_in (w : World) (A1 A2 : Option Addr) (n1 n2 c1 c2 : Nat) (La Lb : List PairB) (h1 : PIn w A1 n1 La) (h2 : PIn w A2 n2 Lb) (hn : n1 + n2 ≤ 1000000) :
    ∃ A6 c6 A7 c7 w7, (∃ w6, (Builtin.append_ #[22, 22] 22 #[.slice (some ⟨w.heap.size, 0, none⟩) 0 0, .slice A1 n1 c1]).run Tryd.prog (w.alloc (.cells #[] 36)) = .ok (.slice A6 n1 c6) w6 ∧
      (Builtin.append_ #[22, 22] 22 #[.slice A6 n1 c6, .slice A2 n2 c2]).run Tryd.prog w6 = .ok (.slice A7 (n1 + n2) c7) w7) ∧ c7 ≤ maxLen ∧ PIn w7 A7 (n1 + n2) (La ++ Lb) ∧ Below w.heap.size w w7 := by
  have hlit : (w.alloc (.cells #[] 36)).ownsRow w.heap.size 36 2 (.slice (some ⟨w.heap.size, 0, none⟩) 0 0) 0 [] := by
    have := World.ownsRow_lit (base := w.heap.size) (e := 36) (size := 2) w #[] 0 (Nat.le_refl _) (by unfold maxLen; omega) (by simp)
    simpa using this
  have hba : Below w.heap.size w (w.alloc (.cells #[] 36)) := (Below.refl _ _).alloc (Nat.le_refl _) _
  obtain ⟨v6, w6, hr6, ho6, hg6⟩ := append_pairs (w.alloc (.cells #[] 36)) w.heap.size _ 0 [] hlit A1 n1 c1 La (h1.below hba) (by omega) hba.size
  rw [Nat.zero_add, List.nil_append] at ho6
  have hb6 : Below w.heap.size w w6 := hba.grown hg6 (by simp) fun k hk => by
    have : w.heap.size = k := by simpa [Value.ownBlock] using hk
    omega
  obtain ⟨A6, c6, rfl, _, _, _⟩ := own_slice ho6
  obtain ⟨v7, w7, hr7, ho7, hg7⟩ := append_pairs w6 w.heap.size _ n1 _ ho6 A2 n2 c2 Lb (h2.below hb6) (by omega) hb6.size
  rw [← cellsB_append] at ho7
  have hb7 : Below w.heap.size w w7 := hb6.grown hg7 hb6.size fun k hk => (World.ownsRow.lt ho6 k hk).1
  obtain ⟨A7, c7, rfl, _, hcm, _⟩ := own_slice ho7
  exact ⟨A6, c6, A7, c7, w7, ⟨w6, hr6, hr7⟩, hcm, pin_of_row ho7, hb7⟩
section
variable (R : PaxDone)
include R
/-- Decode of a text, as the law looks at it. -/
theorem dec_any (w : World) (hT : Tabs w) (s : ByteArray) (hs : s.size ≤ maxLen) : Calls Tryd.prog 11 #[.string s] w fun e w' =>
    (∃ A n c L, e = .returned (.tuple #[.slice A n c, .int .i64 0]) ∧ s.size ≤ 262144 ∧ keysK (L.map toL) ∧ flatP (L.map toL) = s.data.toList ∧ n ≤ c ∧ c ≤ maxLen ∧ PIn w' A n L ∧ Below w.heap.size w w') ∨
    ∃ A c, ∃ k : Nat, e = .returned (.tuple #[.slice A 0 c, .int .i64 k]) ∧ ((k : Int) != 0) = true ∧ c ≤ maxLen ∧ Below w.heap.size w w' := by
  refine (R.decode w hT s hs).mono ?_
  rintro e w' (h | ⟨A, c, he, hc, _, hb⟩)
  · exact .inl h
  · refine .inr ⟨A, c, _, he, ?_, hc, hb⟩
    split <;> rfl
/-- Decode of two texts, one behind the other. -/
theorem dec_both (w : World) (hT : Tabs w) (s t : ByteArray) (hst : s.size + t.size ≤ 20000) (L M : List PairB) (hL : keysK (L.map toL)) (hM : keysK (M.map toL)) (fL : flatP (L.map toL) = s.data.toList) (fM : flatP (M.map toL) = t.data.toList) : Calls Tryd.prog 11 #[.string (s ++ t)] w fun e w' =>
    ∃ A c, e = .returned (.tuple #[.slice A (L.length + M.length) c, .int .i64 0]) ∧ L.length + M.length ≤ c ∧ c ≤ maxLen ∧ PIn w' A (L.length + M.length) (L ++ M) ∧ Below w.heap.size w w' := by
  have hz : (s ++ t).size = s.size + t.size := ByteArray.size_append
  have hk : keysK ((L ++ M).map toL) := by
    rw [List.map_append]
    exact keysK_append hL hM
  have hf : flatP ((L ++ M).map toL) = (s ++ t).data.toList := by rw [List.map_append, flatP_append, fL, fM, bytes_list]
  have hl : (s ++ t).data.toList.length = (s ++ t).size := rfl
  refine (R.decode w hT (s ++ t) (by unfold maxLen; omega)).mono ?_
  rintro e w' (⟨A, n, c, K, he, _, hk2, hf2, hnc, hcm, hI, hb⟩ | ⟨A, c, _, _, hno, _⟩)
  · have hK := pairs_one hk2 hk (by rw [hf2, hf]) (by rw [hf2, hl]; omega)
    subst hK
    have hn : n = L.length + M.length := by rw [← hI.1, List.length_append]
    subst hn
    exact ⟨A, c, he, hnc, hcm, hI, hb⟩
  · have := hno _ hk hf
    omega
set_option maxHeartbeats 6400000 in
set_option maxRecDepth 100000 in
theorem joins_small (w : World) (hT : Tabs w) (s t key : ByteArray) (hst : s.size + t.size ≤ 20000) : Calls Tryd.prog 5 #[.string s, .string t, .string key] w fun e w' => e = .returned (.bool true) ∧ Below w.heap.size w w' := by
  have HTB : Hid (∀ wx : World, Below w.heap.size w wx → Tabs wx) := Lib.hid fun wx hb => hT.below hb
  have HAW := Lib.hid (awake_pax R)
  have d0 : decide ((20000 : Int) < (s.size : Int) + (t.size : Int)) = false := decide_eq_false (by omega)
  have HS : Hid _ := Lib.hid fun wx hTx => dec_any R wx hTx s (by unfold maxLen; omega)
  have HT : Hid _ := Lib.hid fun wx hTx => dec_any R wx hTx t (by unfold maxLen; omega)
  have HST : Hid _ := Lib.hid fun wx hTx => dec_both R wx hTx s t hst
  have HL : Hid (∀ (wx : World) (A : Option Addr) (n c : Nat) (L : List PairB), PIn wx A n L → n ≤ maxLen → Calls Tryd.prog 6 #[.slice A n c, .string key] wx fun e w' => e = .returned (.tuple #[.string (optS (lastA key L none)), .bool (optB (lastA key L none))]) ∧ Below wx.heap.size wx w') := Lib.hid fun wx A n c L h g => R.last wx A n c L key h g
  have HSM : Hid (∀ (wx : World) (A3 A7 : Option Addr) (n c3 c7 : Nat) (L : List PairB), PIn wx A3 n L → PIn wx A7 n L → n ≤ maxLen → Calls Tryd.prog 12 #[.slice A3 n c3, .slice A7 n c7] wx fun e w' => e = .returned (.bool true) ∧ Below wx.heap.size wx w') := Lib.hid fun wx A3 A7 n c3 c7 L h1 h2 hn => by
    have h := rsame_any wx A3 A7 n c3 n c7 L L h1 h2 hn hn
    rw [decide_eq_true (rfl : L = L)] at h
    exact h
  have hz : (s ++ t).size = s.size + t.size := ByteArray.size_append
  clear R hT
  go_enter Tryd.func5, Tryd.ntmps5
  go_wp2_with fail
  refine (HS.out w (HTB.out _ (Below.refl _ _))).mono ?_
  rintro e w1 (⟨A1, n1, c1, La, rfl, hz1, hk1, hf1, hnc1, hcm1, hI1, hb1⟩ | ⟨A1, c1, k1, rfl, hk1, hcm1, hb1⟩)
  · have hl1 : n1 ≤ 20000 := by
      have h1 := flat_long (La.map toL)
      have h2 := hI1.1
      have h3 : s.data.toList.length = s.size := rfl
      rw [hf1, List.length_map] at h1
      omega
    have HI1 := Lib.hid hI1
    have HB1 := Lib.hid hb1
    have HK1 := Lib.hid hk1
    have HF1 := Lib.hid hf1
    clear hI1 hb1 hk1 hf1
    unfold maxLen at hcm1
    go_wp2_with fail
    refine (HT.out w1 (HTB.out _ HB1.out)).mono ?_
    rintro e w2 (⟨A2, n2, c2, Lb, rfl, hz2, hk2, hf2, hnc2, hcm2, hI2, hb2⟩ | ⟨A2, c2, k2, rfl, hk2, hcm2, hb2⟩)
    · have hl2 : n2 ≤ 20000 := by
        have h1 := flat_long (Lb.map toL)
        have h2 := hI2.1
        have h3 : t.data.toList.length = t.size := rfl
        rw [hf2, List.length_map] at h1
        omega
      have HI2 := Lib.hid hI2
      have HI12 := Lib.hid (HI1.out.below hb2)
      have HB2 := Lib.hid (HB1.out.trans (hb2.mono HB1.out.size))
      have HST2 : Hid _ := Lib.hid fun wx ht => HST.out wx ht La Lb HK1.out hk2 HF1.out hf2
      have hLa : La.length = n1 := HI1.out.1
      have hLb : Lb.length = n2 := hI2.1
      rw [hLa, hLb] at HST2
      have HLA := Lib.hid hLa
      have HLB := Lib.hid hLb
      clear hI2 hb2 hk2 hf2 hLa hLb HST HS HT HK1 HF1
      unfold maxLen at hcm2
      go_wp2_with fail
      refine (HST2.out w2 (HTB.out _ HB2.out)).mono ?_
      rintro e w3 ⟨A3, c3, rfl, hnc3, hcm3, hI3, hb3⟩
      have HI3 := Lib.hid hI3
      have HB3 := Lib.hid (HB2.out.trans (hb3.mono HB2.out.size))
      have HI13 := Lib.hid (HI12.out.below hb3)
      have HI23 := Lib.hid (HI2.out.below hb3)
      clear hI3 hb3 HST2
      unfold maxLen at hcm3
      go_wp2_with fail
      refine (HL.out w3 A3 (n1 + n2) c3 (La ++ Lb) HI3.out (by unfold maxLen; omega)).mono ?_
      rintro e w4 ⟨rfl, hb4⟩
      have HB4 := Lib.hid (HB3.out.trans (hb4.mono HB3.out.size))
      have HI14 := Lib.hid (HI13.out.below hb4)
      have HI24 := Lib.hid (HI23.out.below hb4)
      have HI34 := Lib.hid (HI3.out.below hb4)
      clear hb4
      have hV : lastA key (La ++ Lb) none = (lastA key Lb none).or (lastA key La none) := by rw [lastA_append, lastA_some]
      rw [hV]
      clear hV
      go_wp2_with fail
      refine (HL.out w4 A2 n2 c2 Lb HI24.out (by unfold maxLen; omega)).mono ?_
      rintro e w5 ⟨rfl, hb5⟩
      have HB5 := Lib.hid (HB4.out.trans (hb5.mono HB4.out.size))
      have HI15 := Lib.hid (HI14.out.below hb5)
      have HI25 := Lib.hid (HI24.out.below hb5)
      have HI35 := Lib.hid (HI34.out.below hb5)
      clear hb5
      cases lastA key Lb none with
      | some v =>
        rw [Option.some_or]
        have hvv : (v.toList == v.toList) = true := beq_self_eq_true _
        rw [show optS (some v) = v from rfl, show optB (some v) = true from rfl]
        obtain ⟨A6, c6, A7, c7, w7, ⟨w6, hr1, hr2⟩, hcm, hIb, hb7⟩ := both_in w5 A1 A2 n1 n2 c1 c2 La Lb HI15.out HI25.out (by omega)
        have HIB := Lib.hid hIb
        have HB7 := Lib.hid (HB5.out.trans (hb7.mono HB5.out.size))
        have HI37 := Lib.hid (HI35.out.below hb7)
        clear hIb hb7
        have HR1 := Lib.hid hr1
        have HR2 := Lib.hid hr2
        clear hr1 hr2
        unfold maxLen at hcm
        go_wp2_with (at_builtin; first | refine wpList_append_guard _ rfl _ _ 22 22 rfl (.slice (some ⟨w5.heap.size, 0, none⟩) 0 0) (.slice A1 n1 c1) rfl rfl (.slice A6 n1 c6) w6 HR1.out ?_ | refine wpList_append_guard _ rfl _ _ 22 22 rfl (.slice A6 n1 c6) (.slice A2 n2 c2) rfl rfl (.slice A7 (n1 + n2) c7) w7 HR2.out ?_)
        refine (HSM.out w7 A3 A7 (n1 + n2) c3 c7 (La ++ Lb) HI37.out HIB.out (by unfold maxLen; omega)).mono ?_
        rintro e w8 ⟨rfl, hb8⟩
        have HB8 := Lib.hid (HB7.out.trans (hb8.mono HB7.out.size))
        clear hb8
        go_wp2_with fail
        refine (HAW.out w8 (HTB.out _ HB8.out)).mono ?_
        rintro e w9 ⟨rfl, hb9⟩
        have HB9 := Lib.hid (HB8.out.trans (hb9.mono HB8.out.size))
        clear hb9
        go_wp2_with fail
        go_ret
        exact ⟨rfl, HB9.out⟩
      | none =>
        have HLV : Hid _ := Lib.hid fun wx h => HL.out wx A1 n1 c1 La h (by unfold maxLen; omega)
        rw [Option.none_or]
        generalize lastA key La none = V at *
        have hno : optS none = ⟨#[]⟩ := rfl
        have hnb : optB none = false := rfl
        cases V with
        | some v =>
          have hvv : (v.toList == v.toList) = true := beq_self_eq_true _
          rw [show optS (some v) = v from rfl, show optB (some v) = true from rfl] at HLV
          rw [show optS (some v) = v from rfl, show optB (some v) = true from rfl, hno, hnb]
          clear hno hnb
          go_wp2_with fail
          refine (HLV.out w5 HI15.out).mono ?_
          rintro e w6 ⟨rfl, hb6⟩
          have HB6 := Lib.hid (HB5.out.trans (hb6.mono HB5.out.size))
          have HI16 := Lib.hid (HI15.out.below hb6)
          have HI26 := Lib.hid (HI25.out.below hb6)
          have HI36 := Lib.hid (HI35.out.below hb6)
          clear hb6
          obtain ⟨A7, c7, A8, c8, w8, ⟨w7, hr1, hr2⟩, hcm, hIb, hb8⟩ := both_in w6 A1 A2 n1 n2 c1 c2 La Lb HI16.out HI26.out (by omega)
          have HIB := Lib.hid hIb
          have HB8 := Lib.hid (HB6.out.trans (hb8.mono HB6.out.size))
          have HI38 := Lib.hid (HI36.out.below hb8)
          clear hIb hb8
          have HR1 := Lib.hid hr1
          have HR2 := Lib.hid hr2
          clear hr1 hr2
          unfold maxLen at hcm
          go_wp2_with (at_builtin; first | refine wpList_append_guard _ rfl _ _ 22 22 rfl (.slice (some ⟨w6.heap.size, 0, none⟩) 0 0) (.slice A1 n1 c1) rfl rfl (.slice A7 n1 c7) w7 HR1.out ?_ | refine wpList_append_guard _ rfl _ _ 22 22 rfl (.slice A7 n1 c7) (.slice A2 n2 c2) rfl rfl (.slice A8 (n1 + n2) c8) w8 HR2.out ?_)
          refine (HSM.out w8 A3 A8 (n1 + n2) c3 c8 (La ++ Lb) HI38.out HIB.out (by unfold maxLen; omega)).mono ?_
          rintro e w9 ⟨rfl, hb9⟩
          have HB9 := Lib.hid (HB8.out.trans (hb9.mono HB8.out.size))
          clear hb9
          go_wp2_with fail
          refine (HAW.out w9 (HTB.out _ HB9.out)).mono ?_
          rintro e w10 ⟨rfl, hb10⟩
          have HB10 := Lib.hid (HB9.out.trans (hb10.mono HB9.out.size))
          clear hb10
          go_wp2_with fail
          go_ret
          exact ⟨rfl, HB10.out⟩
        | none =>
          rw [hno, hnb] at HLV
          rw [hno, hnb]
          clear hno hnb
          go_wp2_with fail
          refine (HLV.out w5 HI15.out).mono ?_
          rintro e w6 ⟨rfl, hb6⟩
          have HB6 := Lib.hid (HB5.out.trans (hb6.mono HB5.out.size))
          have HI16 := Lib.hid (HI15.out.below hb6)
          have HI26 := Lib.hid (HI25.out.below hb6)
          have HI36 := Lib.hid (HI35.out.below hb6)
          clear hb6
          obtain ⟨A7, c7, A8, c8, w8, ⟨w7, hr1, hr2⟩, hcm, hIb, hb8⟩ := both_in w6 A1 A2 n1 n2 c1 c2 La Lb HI16.out HI26.out (by omega)
          have HIB := Lib.hid hIb
          have HB8 := Lib.hid (HB6.out.trans (hb8.mono HB6.out.size))
          have HI38 := Lib.hid (HI36.out.below hb8)
          clear hIb hb8
          have HR1 := Lib.hid hr1
          have HR2 := Lib.hid hr2
          clear hr1 hr2
          unfold maxLen at hcm
          go_wp2_with (at_builtin; first | refine wpList_append_guard _ rfl _ _ 22 22 rfl (.slice (some ⟨w6.heap.size, 0, none⟩) 0 0) (.slice A1 n1 c1) rfl rfl (.slice A7 n1 c7) w7 HR1.out ?_ | refine wpList_append_guard _ rfl _ _ 22 22 rfl (.slice A7 n1 c7) (.slice A2 n2 c2) rfl rfl (.slice A8 (n1 + n2) c8) w8 HR2.out ?_)
          refine (HSM.out w8 A3 A8 (n1 + n2) c3 c8 (La ++ Lb) HI38.out HIB.out (by unfold maxLen; omega)).mono ?_
          rintro e w9 ⟨rfl, hb9⟩
          have HB9 := Lib.hid (HB8.out.trans (hb9.mono HB8.out.size))
          clear hb9
          go_wp2_with fail
          refine (HAW.out w9 (HTB.out _ HB9.out)).mono ?_
          rintro e w10 ⟨rfl, hb10⟩
          have HB10 := Lib.hid (HB9.out.trans (hb10.mono HB9.out.size))
          clear hb10
          go_wp2_with fail
          go_ret
          exact ⟨rfl, HB10.out⟩
    · have HB2 := Lib.hid (HB1.out.trans (hb2.mono HB1.out.size))
      clear hb2 HS HT HST HL HSM
      unfold maxLen at hcm2
      go_wp2_with fail
      refine (HAW.out w2 (HTB.out _ HB2.out)).mono ?_
      rintro e w3 ⟨rfl, hb3⟩
      have HB3 := Lib.hid (HB2.out.trans (hb3.mono HB2.out.size))
      clear hb3
      go_wp2_with fail
      go_ret
      exact ⟨rfl, HB3.out⟩
  · have HB1 := Lib.hid hb1
    clear hb1 HST HL HSM
    unfold maxLen at hcm1
    go_wp2_with fail
    refine (HT.out w1 (HTB.out _ HB1.out)).mono ?_
    rintro e w2 (⟨A2, n2, c2, Lb, rfl, hz2, hk2, hf2, hnc2, hcm2, hI2, hb2⟩ | ⟨A2, c2, k2, rfl, hk2, hcm2, hb2⟩)
    · have HB2 := Lib.hid (HB1.out.trans (hb2.mono HB1.out.size))
      clear hb2 hI2 hk2 hf2 HS HT
      unfold maxLen at hcm2
      go_wp2_with fail
      refine (HAW.out w2 (HTB.out _ HB2.out)).mono ?_
      rintro e w3 ⟨rfl, hb3⟩
      have HB3 := Lib.hid (HB2.out.trans (hb3.mono HB2.out.size))
      clear hb3
      go_wp2_with fail
      go_ret
      exact ⟨rfl, HB3.out⟩
    · have HB2 := Lib.hid (HB1.out.trans (hb2.mono HB1.out.size))
      clear hb2 HS HT
      unfold maxLen at hcm2
      go_wp2_with fail
      refine (HAW.out w2 (HTB.out _ HB2.out)).mono ?_
      rintro e w3 ⟨rfl, hb3⟩
      have HB3 := Lib.hid (HB2.out.trans (hb3.mono HB2.out.size))
      clear hb3
      go_wp2_with fail
      go_ret
      exact ⟨rfl, HB3.out⟩
set_option maxHeartbeats 6400000 in
set_option maxRecDepth 100000 in
theorem joins_law (w : World) (hT : Tabs w) (s t key : ByteArray) (hs : s.size ≤ maxLen) (ht : t.size ≤ maxLen) : Calls Tryd.prog 5 #[.string s, .string t, .string key] w fun e w' => e = .returned (.bool true) ∧ Below w.heap.size w w' := by
  have HTB : Hid (∀ wx : World, Below w.heap.size w wx → Tabs wx) := Lib.hid fun wx hb => hT.below hb
  by_cases hst : s.size + t.size ≤ 20000
  · exact joins_small R w hT s t key hst
  have HAW := Lib.hid (awake_pax R)
  have HS : Hid _ := Lib.hid fun wx hTx => dec_any R wx hTx s hs
  have HT : Hid _ := Lib.hid fun wx hTx => dec_any R wx hTx t ht
  unfold maxLen at hs ht
  clear R hT
  by_cases hw : s.size + t.size < 9223372036854775808
  · have d0 : decide ((20000 : Int) < (s.size : Int) + (t.size : Int)) = true := decide_eq_true (by omega)
    clear HS HT
    go_enter Tryd.func5, Tryd.ntmps5
    go_wp2_with fail
    refine (HAW.out w (HTB.out _ (Below.refl _ _))).mono ?_
    rintro e w1 ⟨rfl, hb1⟩
    have HB1 := Lib.hid (hb1)
    clear hb1
    go_wp2_with fail
    go_ret
    exact ⟨rfl, HB1.out⟩
  · have hwr : IntKind.i64.wrap ((s.size : Int) + (t.size : Int)) = (s.size : Int) + (t.size : Int) - 18446744073709551616 := by
      rw [IntKind.wrap_i64]
      omega
    have d0 : decide ((20000 : Int) < (s.size : Int) + (t.size : Int) - 18446744073709551616) = false := decide_eq_false (by omega)
    have hone : ¬ (s.size ≤ 262144 ∧ t.size ≤ 262144) := by omega
    go_enter Tryd.func5, Tryd.ntmps5
    go_wp2_with fail
    refine (HS.out w (HTB.out _ (Below.refl _ _))).mono ?_
    rintro e w1 (⟨A1, n1, c1, La, rfl, hz1, hk1, hf1, hnc1, hcm1, hI1, hb1⟩ | ⟨A1, c1, k1, rfl, hk1, hcm1, hb1⟩)
    · have HB1 := Lib.hid hb1
      clear hb1 hk1 hf1 hI1
      unfold maxLen at hcm1
      go_wp2_with fail
      refine (HT.out w1 (HTB.out _ HB1.out)).mono ?_
      rintro e w2 (⟨A2, n2, c2, Lb, rfl, hz2, hk2, hf2, hnc2, hcm2, hI2, hb2⟩ | ⟨A2, c2, k2, rfl, hk2, hcm2, hb2⟩)
      · exact absurd ⟨hz1, hz2⟩ hone
      · have HB2 := Lib.hid (HB1.out.trans (hb2.mono HB1.out.size))
        clear hb2 HS HT
        unfold maxLen at hcm2
        go_wp2_with fail
        refine (HAW.out w2 (HTB.out _ HB2.out)).mono ?_
        rintro e w3 ⟨rfl, hb3⟩
        have HB3 := Lib.hid (HB2.out.trans (hb3.mono HB2.out.size))
        clear hb3
        go_wp2_with fail
        go_ret
        exact ⟨rfl, HB3.out⟩
    · have HB1 := Lib.hid hb1
      clear hb1
      unfold maxLen at hcm1
      go_wp2_with fail
      refine (HT.out w1 (HTB.out _ HB1.out)).mono ?_
      rintro e w2 (⟨A2, n2, c2, Lb, rfl, hz2, hk2, hf2, hnc2, hcm2, hI2, hb2⟩ | ⟨A2, c2, k2, rfl, hk2, hcm2, hb2⟩)
      · have HB2 := Lib.hid (HB1.out.trans (hb2.mono HB1.out.size))
        clear hb2 hI2 hk2 hf2 HS HT
        unfold maxLen at hcm2
        go_wp2_with fail
        refine (HAW.out w2 (HTB.out _ HB2.out)).mono ?_
        rintro e w3 ⟨rfl, hb3⟩
        have HB3 := Lib.hid (HB2.out.trans (hb3.mono HB2.out.size))
        clear hb3
        go_wp2_with fail
        go_ret
        exact ⟨rfl, HB3.out⟩
      · have HB2 := Lib.hid (HB1.out.trans (hb2.mono HB1.out.size))
        clear hb2 HS HT
        unfold maxLen at hcm2
        go_wp2_with fail
        refine (HAW.out w2 (HTB.out _ HB2.out)).mono ?_
        rintro e w3 ⟨rfl, hb3⟩
        have HB3 := Lib.hid (HB2.out.trans (hb3.mono HB2.out.size))
        clear hb3
        go_wp2_with fail
        go_ret
        exact ⟨rfl, HB3.out⟩
end
end Go.Proofs.YtccfjabmmecbkaaDoor
