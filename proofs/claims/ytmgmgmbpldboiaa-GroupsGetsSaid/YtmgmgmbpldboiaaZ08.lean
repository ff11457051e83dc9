/- Tb Rn Tc: texts laid together, what is not used left out. -/
import Derived.Test.YtmgmgmbpldboiaaZ04
import Derived.Test.YtmgmgmbpldboiaaZ01
import Derived.Test.YtmgmgmbpldboiaaZ05
import Derived.Test.YtmgmgmbpldboiaaZ07
import Derived.Lib.AppendZeros
import Derived.Deep.CutRange
import Derived.OwnWalk
namespace Go.Proofs.Ytmgmgmbpldboiaa
open Go.RowKit

/-- Numbers in a slice of the call's own, and an error. -/
def ListPost (w : World) (ans : List Nat × Nat) (e : Ending) (w' : World) : Prop := ∃ v, e = .returned (.tuple #[v, .int .i64 ans.2]) ∧ w'.ownsRow w.heap.size 3 1 v ans.1.length (ans.1.map iv) ∧ Below w.heap.size w w'
set_option maxRecDepth 100000 in
theorem cells_list (w : World) (l : List Value) (t : TypeId) : ∀ (j : Nat) (u : Value), l[j]? = some u → (w.alloc (.cells l.toArray t)).cell? ((⟨w.heap.size, 0, none⟩ : Addr).add j) = some u := by
  intro j u hu
  rw [Addr.add_lit, Nat.zero_add, blk_cell (blk_new w t _)]
  simpa using hu
theorem int_mem {L : List Int} {j : Nat} (h : j < L.length) : L.getD j 0 ∈ L := by
  rw [List.getD_eq_getElem?_getD, List.getElem?_eq_getElem h]
  exact List.getElem_mem h
theorem nat_mem {L : List Nat} {j : Nat} (h : j < L.length) : L.getD j 0 ∈ L := by
  rw [List.getD_eq_getElem?_getD, List.getElem?_eq_getElem h]
  exact List.getElem_mem h
theorem take_next_int (L : List Int) (q : Nat) (h : q < L.length) : L.take (q + 1) = L.take q ++ [L.getD q 0] := by
  rw [List.take_succ_eq_append_getElem h, List.getD_eq_getElem?_getD, List.getElem?_eq_getElem h]
  rfl

set_option maxHeartbeats 3200000 in
set_option maxRecDepth 100000 in
theorem rput_any (w : World) (A : Option Addr) (n c : Nat) (L : List Int) (hL : ZIn w A n L) (hn : n ≤ maxLen) : Calls Try.prog 55 #[.slice A n c] w (ListPost w (showAns L)) := by
  obtain ⟨i3, h3, hz0, hz1, hz2⟩ := info_parts Try.info3
  unfold maxLen at hn
  have HP : Hid (∀ (v : Value) (a : List Nat × Nat) (w' : World), showAns L = a → w'.ownsRow w.heap.size 3 1 v a.1.length (a.1.map iv) → Below w.heap.size w w' → ListPost w (showAns L) (.returned (.tuple #[v, .int .i64 a.2])) w') := Lib.hid fun v a w' h1 h2 h3 => ⟨v, by rw [h1], by rw [h1]; exact h2, h3⟩
  have hans : showAns L = if DOk L then (showD (nl L), 0) else ([], 80) := rfl
  have HL := Lib.hid hL
  have hlm := hL.1
  have HLM := Lib.hid hlm
  have HBITS := Lib.hid rbits_any
  generalize ListPost w (showAns L) = PO at *
  generalize showAns L = ans at *
  have HANS := Lib.hid hans
  clear hL hlm hans
  go_enter Try.func55, Try.ntmps55
  go_wp2_with fail
  go_loopw [4] (fun iv' wx => ∃ i : Nat, i ≤ n ∧ iv' = .int .i64 i ∧ Hid (∀ x ∈ L.take i, 1 ≤ x ∧ x ≤ 20) ∧ wx = w) (fun iv' _ => n - (intOf iv').toNat)
  case atStart => exact ⟨0, Nat.zero_le _, rfl, Lib.hid (by simp), rfl⟩
  case round =>
    obtain ⟨i, hi, rfl, hval, rfl⟩ := hrel
    by_cases e : i < n
    · have d0 : decide ((i : Int) < (n : Int)) = true := decide_eq_true (by omega)
      obtain ⟨b, off, rfl, hc⟩ := HL.out.2 (by omega)
      have hcw := hc i e
      have htk := take_next_int L i (by rw [HLM.out]; exact e)
      obtain ⟨x, hx⟩ : ∃ x, x = L.getD i 0 := ⟨_, rfl⟩
      rw [← hx] at hcw htk
      have HTK := Lib.hid htk
      clear hc hx htk
      by_cases e1 : 1 ≤ x ∧ x ≤ 20
      · have d1 : decide (x < 1) = false := decide_eq_false (by omega)
        have d2 : decide (20 < x) = false := decide_eq_false (by omega)
        have hval2 : ∀ y ∈ L.take (i + 1), 1 ≤ y ∧ y ≤ 20 := by
          rw [HTK.out]
          intro y hy
          rcases List.mem_append.1 hy with hy | hy
          · exact hval.out y hy
          · rw [List.mem_singleton.1 hy]
            exact e1
        have HV2 := Lib.hid hval2
        clear hval2 e1
        go_wp2_with fail
        go_roundw
        case rel => exact ⟨i + 1, by omega, by go_num, HV2, trivial⟩
        case measure => simp [intOf]; omega
      · have hno : ans = ([], 80) := by
          rw [HANS.out, if_neg]
          intro hok
          refine e1 (hok.2.2 x ?_)
          have h1 : x ∈ L.take (i + 1) := by rw [HTK.out]; exact List.mem_append_right _ (List.mem_singleton.2 rfl)
          exact List.mem_of_mem_take h1
        have HPE := Lib.hid (HP.out (.slice none 0 0) _ wr hno (World.ownsRow_nil _ _ _ _) (Below.refl _ _))
        clear hno
        by_cases e2 : x < 1
        · have d1 : decide (x < 1) = true := decide_eq_true e2
          clear e1
          go_wp2_with fail
          first | exact HPE.out | (go_ret2; exact HPE.out)
        · have d1 : decide (x < 1) = false := decide_eq_false e2
          have d2 : decide (20 < x) = true := decide_eq_true (by omega)
          clear e1
          go_wp2_with fail
          first | exact HPE.out | (go_ret2; exact HPE.out)
    · obtain rfl : i = n := by omega
      have d0 : decide ((i : Int) < (i : Int)) = false := decide_eq_false (by omega)
      have hall : ∀ x ∈ L, 1 ≤ x ∧ x ≤ 20 := by
        have h := hval.out
        rw [List.take_of_length_le (Nat.le_of_eq HLM.out)] at h
        exact h
      by_cases hbad : i < 2 ∨ 258 < i
      · have hno : ans = ([], 80) := by
          rw [HANS.out, if_neg]
          intro hok
          have h1 := hok.1
          have h2 := hok.2.1
          rw [HLM.out] at h1 h2
          omega
        have HPE := Lib.hid (HP.out (.slice none 0 0) _ wr hno (World.ownsRow_nil _ _ _ _) (Below.refl _ _))
        clear hno hall
        by_cases e2 : i < 2
        · have d1 : decide ((i : Int) < 2) = true := decide_eq_true (by omega)
          clear hbad
          go_wp2_with fail
          first | exact HPE.out | (go_ret2; exact HPE.out)
        · have d1 : decide ((i : Int) < 2) = false := decide_eq_false (by omega)
          have d2 : decide ((258 : Int) < (i : Int)) = true := decide_eq_true (by omega)
          clear hbad
          go_wp2_with fail
          first | exact HPE.out | (go_ret2; exact HPE.out)
      · have d1 : decide ((i : Int) < 2) = false := decide_eq_false (by omega)
        have d2 : decide ((258 : Int) < (i : Int)) = false := decide_eq_false (by omega)
        have hok : DOk L := ⟨by rw [HLM.out]; omega, by rw [HLM.out]; omega, hall⟩
        have hans2 : ans = (showD (nl L), 0) := by rw [HANS.out, if_pos hok]
        have hb20 : ∀ x ∈ nl L, 1 ≤ x ∧ x ≤ 20 := by
          intro x hx
          obtain ⟨y, hy, rfl⟩ := List.mem_map.1 hx
          have := hall y hy
          omega
        obtain ⟨b, off, rfl, hc⟩ := HL.out.2 (by omega)
        obtain ⟨l, hl⟩ : ∃ l, l = nl L := ⟨_, rfl⟩
        have hll : l.length = i := by rw [hl, nl_length, HLM.out]
        have hget : ∀ j, j < i → wr.cell? ⟨b, off + j, none⟩ = some (.int .i64 (l.getD j 0 : Nat)) := by
          intro j hj
          rw [hc j hj, hl, nl_get]
          have := (hall _ (int_mem (L := L) (j := j) (by rw [HLM.out]; exact hj))).1
          rw [Int.toNat_of_nonneg (by omega)]
        have h20 : ∀ j, j < i → 1 ≤ l.getD j 0 ∧ l.getD j 0 ≤ 20 := by
          intro j hj
          refine hb20 _ ?_
          rw [← hl]
          exact nat_mem (by omega)
        rw [← hl] at hans2
        have HANS2 := Lib.hid hans2
        have HLL := Lib.hid hll
        have HGET := Lib.hid hget
        have H20 := Lib.hid h20
        have c0 := hget 0 (by omega)
        rw [Nat.add_zero] at c0
        have x20 := (h20 0 (by omega)).2
        obtain ⟨x0, hx0⟩ : ∃ x0, x0 = l.getD 0 0 := ⟨_, rfl⟩
        rw [← hx0] at c0 x20
        have HX0 := Lib.hid hx0
        have HBI := Lib.hid (HBITS.out wr x0 5 (by omega) (by omega))
        have hi2 : 2 ≤ i := by omega
        have hi258 : i ≤ 258 := by omega
        clear hbad hok hans2 hb20 hc hl hll hget h20 hx0 hall HL hval
        go_wp2_with fail
        refine HBI.out.mono ?_
        rintro e w3 ⟨g2, cap2, rfl, hown, hb3⟩
        have HO3 := Lib.hid hown
        have HB3 := Lib.hid hb3
        clear hown hb3 c0
        go_wp2_with fail
        go_loopw [5, 7] (fun out jv wx => ∃ (j : Nat) (o : List Nat), j ≤ i ∧ jv = .int .i64 j ∧ o.length ≤ 5 + 41 * j ∧ Hid (o = bitsN x0 5 ++ stepsB x0 (l.take j)) ∧ wx.ownsRow wr.heap.size 3 1 out o.length (o.map iv) ∧ Below wr.heap.size wr wx) (fun _ jv _ => i - (intOf jv).toNat)
        case atStart =>
          refine ⟨0, bitsN x0 5, Nat.zero_le _, rfl, by rw [bitsN_length]; omega, Lib.hid (by simp [stepsB]), ?_, HB3.out⟩
          rw [bitsN_length]
          exact HO3.out
        case round =>
          rename World => wo
          obtain ⟨j, o, hj, rfl, hol, ho, hown, hb⟩ := hrel
          have HO := Lib.hid hown
          have HB := Lib.hid hb
          have hz9 := hb.size
          clear hown hb
          by_cases ej : j < i
          · have d3 : decide ((j : Int) < (i : Int)) = true := decide_eq_true (by omega)
            have hcx := HGET.out j ej
            have hca := HGET.out (j - 1) (by omega)
            have hltx := World.block_lt_of_cell? wr _ hcx
            have x20 := H20.out j ej
            have a20 := H20.out (j - 1) (by omega)
            obtain ⟨x, hx⟩ : ∃ x, x = l.getD j 0 := ⟨_, rfl⟩
            obtain ⟨a, ha⟩ : ∃ a, a = l.getD (j - 1) 0 := ⟨_, rfl⟩
            rw [← hx] at hcx x20
            rw [← ha] at hca a20
            have hnext : stepsB x0 (l.take (j + 1)) = stepsB x0 (l.take j) ++ stepB a x := by
              rw [HX0.out, ha, hx]
              exact stepsB_next (by rw [HLL.out]; exact ej)
            have HNEXT := Lib.hid hnext
            have HCX := Lib.hid fun (wx : World) (h : Below wr.heap.size wr wx) => (h.cell (p := ⟨b, off + j, none⟩) hltx).trans hcx
            have HCA := Lib.hid fun (wx : World) (h : Below wr.heap.size wr wx) => (h.cell (p := ⟨b, off + (j - 1), none⟩) hltx).trans hca
            have qx := HCX.out wo HB.out
            have qa := HCA.out wo HB.out
            obtain ⟨j1, hj1⟩ : ∃ j1, j1 = j - 1 := ⟨_, rfl⟩
            rw [← hj1] at qa
            clear hnext hcx hca hltx hx ha
            go_upto_region 12 with fail
            go_cut [8] from 51 to 56 (fun av wx => av = .int .i64 (a : Nat) ∧ wx = wo)
            case first =>
              rcases Nat.eq_zero_or_pos j with h0 | h0
              · subst h0
                subst hj1
                have qa' : wo.cell? ⟨b, off, none⟩ = some (.int .i64 (a : Nat)) := qa
                clear qa qx
                go_wp2_with fail
                go_meet
                exact ⟨rfl, rfl⟩
              · obtain ⟨k, rfl⟩ : ∃ k, j = k + 1 := ⟨j - 1, by omega⟩
                have hk : j1 = k := by omega
                clear hj1
                subst hk
                clear qx h0
                go_wp2_with fail
                go_meet
                exact ⟨rfl, rfl⟩
            case rest =>
              obtain ⟨rfl, rfl⟩ := hcut
              have HJ1 := Lib.hid hj1
              clear hj1 qa
              go_wp2_with fail
              go_loopw [5, 9] (fun out kv wx => ∃ (k : Nat) (o2 : List Nat), k ≤ x - a ∧ kv = .int .i64 k ∧ o2.length = o.length + 2 * k ∧ Hid (o2 = o ++ ups k) ∧ wx.ownsRow wr.heap.size 3 1 out o2.length (o2.map iv) ∧ Below wr.heap.size wr wx) (fun _ kv _ => 20 - (intOf kv).toNat)
              case atStart => exact ⟨0, o, Nat.zero_le _, rfl, rfl, Lib.hid (by simp [ups]), HO.out, HB.out⟩
              case round =>
                rename World => wi
                obtain ⟨k, o2, hk, rfl, hol2, ho2, hown, hb⟩ := hrel
                have HO2 := Lib.hid hown
                have HB2 := Lib.hid hb
                have hz2' := hb.size
                have qx2 := HCX.out wi hb
                obtain ⟨A0, c0, rfl, hn0, hm0, _⟩ := own_slice hown
                unfold maxLen at hm0
                clear hown hb qx
                by_cases ek : k < x - a
                · have d4 : decide ((k : Int) < (x : Int) - (a : Int)) = true := decide_eq_true (by omega)
                  have hup : o2 ++ [1, 0] = o ++ ups (k + 1) := by rw [ho2.out, ups_snoc, List.append_assoc]
                  have HUP := Lib.hid hup
                  obtain ⟨N, hN⟩ : ∃ N, N = o2.length := ⟨_, rfl⟩
                  obtain ⟨X, hX⟩ : ∃ X, X = o2.map iv := ⟨_, rfl⟩
                  rw [← hN, ← hX] at HO2
                  have HN := Lib.hid hN
                  have HX := Lib.hid hX
                  rw [← hN] at hol2 hn0 ⊢
                  have HOL2 := Lib.hid hol2
                  have hNb : N ≤ 20000 := by omega
                  clear hup hN hX hol2
                  go_wp2_with (at_builtin; refine wpList_append_own _ rfl _ _ 30 rfl wr.heap.size 3 i3 (.int .i64 0) 1 8 Try.underlying30 h3 hz0 hz1 hz2 rfl (by decide) _ _ _ rfl (HO2.out.alloc _) ⟨wi.heap.size, 0, none⟩ 2 2 [.int .i64 1, .int .i64 0] rfl rfl ?c1 ?c2 ?c3 ?c4 ?c5 ?_)
                  case c1 => exact cells_list wi [.int .i64 1, .int .i64 0] 3
                  case c2 => intro u hu; simp at hu; rcases hu with rfl | rfl <;> rfl
                  case c3 => unfold maxLen; omega
                  case c4 => omega
                  case c5 => simp; omega
                  intro v4 w4 hown4 hgrow4 _
                  have hb4 : Below wr.heap.size wr w4 := (HB2.out.alloc hz2' _).grown hgrow4 (by simp; omega) (fun k hk => (HO2.out.lt k hk).1)
                  have HO4 := Lib.hid hown4
                  have HB4 := Lib.hid hb4
                  clear hown4 hgrow4 hb4
                  go_wp2_with fail
                  go_roundw
                  case rel =>
                    refine ⟨k + 1, o2 ++ [1, 0], by omega, by go_num, by rw [List.length_append, ← HN.out, HOL2.out]; show o.length + 2 * k + 2 = _; omega, HUP, ?_, HB4.out⟩
                    rw [List.length_append, ← HN.out, List.map_append, ← HX.out]
                    exact HO4.out
                  case measure => simp [intOf]; omega
                · have d4 : decide ((k : Int) < (x : Int) - (a : Int)) = false := decide_eq_false (by omega)
                  have hk2 : k = x - a := by omega
                  have HK2 := Lib.hid hk2
                  have HOL2 := Lib.hid hol2
                  obtain ⟨M, hM⟩ : ∃ M, M = o2.length := ⟨_, rfl⟩
                  have HM := Lib.hid hM
                  rw [← hM] at hn0 ⊢
                  clear hk2 hol2 hM
                  go_wp2_with fail
                  go_loopw [5, 10] (fun out kv wx => ∃ (q : Nat) (o3 : List Nat), q ≤ a - x ∧ kv = .int .i64 q ∧ o3.length = o2.length + 2 * q ∧ Hid (o3 = o2 ++ downs q) ∧ wx.ownsRow wr.heap.size 3 1 out o3.length (o3.map iv) ∧ Below wr.heap.size wr wx) (fun _ kv _ => 20 - (intOf kv).toNat)
                  case atStart => exact ⟨0, o2, Nat.zero_le _, rfl, rfl, Lib.hid (by simp [downs]), by rw [HM.out]; exact HO2.out, HB2.out⟩
                  case round =>
                    rename World => wk
                    obtain ⟨q, o3, hq, rfl, hol3, ho3, hown, hb⟩ := hrel
                    have HO3 := Lib.hid hown
                    have HB3 := Lib.hid hb
                    have hz3' := hb.size
                    have qx3 := HCX.out wk hb
                    obtain ⟨A5, c5, rfl, hn5, hm5, _⟩ := own_slice hown
                    unfold maxLen at hm5
                    have hkb : k ≤ 20 := by omega
                    have hlen3 : o3.length ≤ 20000 := by rw [hol3, HOL2.out]; omega
                    clear hown hb qx2
                    by_cases eq : q < a - x
                    · have d5 : decide ((q : Int) < (a : Int) - (x : Int)) = true := decide_eq_true (by omega)
                      have hup : o3 ++ [1, 1] = o2 ++ downs (q + 1) := by rw [ho3.out, downs_snoc, List.append_assoc]
                      have HUP := Lib.hid hup
                      obtain ⟨N, hN⟩ : ∃ N, N = o3.length := ⟨_, rfl⟩
                      obtain ⟨X, hX⟩ : ∃ X, X = o3.map iv := ⟨_, rfl⟩
                      rw [← hN, ← hX] at HO3
                      have HN := Lib.hid hN
                      have HX := Lib.hid hX
                      rw [← hN] at hol3 hn5 hlen3 ⊢
                      have HOL3 := Lib.hid hol3
                      clear hup hN hX hol3
                      go_wp2_with (at_builtin; refine wpList_append_own _ rfl _ _ 30 rfl wr.heap.size 3 i3 (.int .i64 0) 1 8 Try.underlying30 h3 hz0 hz1 hz2 rfl (by decide) _ _ _ rfl (HO3.out.alloc _) ⟨wk.heap.size, 0, none⟩ 2 2 [.int .i64 1, .int .i64 1] rfl rfl ?c1 ?c2 ?c3 ?c4 ?c5 ?_)
                      case c1 => exact cells_list wk [.int .i64 1, .int .i64 1] 3
                      case c2 => intro u hu; simp at hu; subst hu; rfl
                      case c3 => unfold maxLen; omega
                      case c4 => omega
                      case c5 => simp; omega
                      intro v4 w4 hown4 hgrow4 _
                      have hb4 : Below wr.heap.size wr w4 := (HB3.out.alloc hz3' _).grown hgrow4 (by simp; omega) (fun k hk => (HO3.out.lt k hk).1)
                      have HO4 := Lib.hid hown4
                      have HB4 := Lib.hid hb4
                      clear hown4 hgrow4 hb4
                      go_wp2_with fail
                      go_roundw
                      case rel =>
                        refine ⟨q + 1, o3 ++ [1, 1], by omega, by go_num, by rw [List.length_append, ← HN.out, HOL3.out]; show o2.length + 2 * q + 2 = _; omega, HUP, ?_, HB4.out⟩
                        rw [List.length_append, ← HN.out, List.map_append, ← HX.out]
                        exact HO4.out
                      case measure => simp [intOf]; omega
                    · have d5 : decide ((q : Int) < (a : Int) - (x : Int)) = false := decide_eq_false (by omega)
                      have hq2 : q = a - x := by omega
                      have hfin : o3 ++ [0] = bitsN x0 5 ++ stepsB x0 (l.take (j + 1)) := by
                        rw [ho3.out, ho2.out, ho.out, HNEXT.out, HK2.out, hq2, stepB]
                        simp
                      have HFIN := Lib.hid hfin
                      have hlenf : (o3 ++ [0]).length ≤ 5 + 41 * (j + 1) := by
                        rw [List.length_append, hol3, HOL2.out]
                        show o.length + 2 * k + 2 * q + 1 ≤ _
                        omega
                      have HLENF := Lib.hid hlenf
                      obtain ⟨N, hN⟩ : ∃ N, N = o3.length := ⟨_, rfl⟩
                      obtain ⟨X, hX⟩ : ∃ X, X = o3.map iv := ⟨_, rfl⟩
                      rw [← hN, ← hX] at HO3
                      have HN := Lib.hid hN
                      have HX := Lib.hid hX
                      rw [← hN] at hn5 hlen3 ⊢
                      clear hN hX hol3 hfin hlenf hq2
                      go_wp2_with (at_builtin; refine wpList_append_own _ rfl _ _ 30 rfl wr.heap.size 3 i3 (.int .i64 0) 1 8 Try.underlying30 h3 hz0 hz1 hz2 rfl (by decide) _ _ _ rfl (HO3.out.alloc _) ⟨wk.heap.size, 0, none⟩ 1 1 [.int .i64 0] rfl rfl ?c1 ?c2 ?c3 ?c4 ?c5 ?_)
                      case c1 => exact cells_list wk [.int .i64 0] 3
                      case c2 => intro u hu; simp at hu; subst hu; rfl
                      case c3 => unfold maxLen; omega
                      case c4 => omega
                      case c5 => simp; omega
                      intro v4 w4 hown4 hgrow4 _
                      have hb4 : Below wr.heap.size wr w4 := (HB3.out.alloc hz3' _).grown hgrow4 (by simp; omega) (fun k hk => (HO3.out.lt k hk).1)
                      have HO4 := Lib.hid hown4
                      have HB4 := Lib.hid hb4
                      clear hown4 hgrow4 hb4
                      go_wp2_with fail
                      go_roundw
                      case rel =>
                        refine ⟨j + 1, o3 ++ [0], by omega, by go_num, HLENF.out, HFIN, ?_, HB4.out⟩
                        rw [List.length_append, ← HN.out, List.map_append, ← HX.out]
                        exact HO4.out
                      case measure => simp [intOf]; omega
          · obtain rfl : j = i := by omega
            have d3 : decide ((j : Int) < (j : Int)) = false := decide_eq_false (by omega)
            have htl : l.take j = l := List.take_of_length_le (Nat.le_of_eq HLL.out)
            have ho2 : o = showD l := by
              rw [ho.out, htl, showD, ← HX0.out]
            have hans3 : ans = (o, 0) := by rw [HANS2.out, ho2]
            have HPE := Lib.hid (HP.out _ (o, 0) wo hans3 HO.out HB.out)
            clear htl ho2 hans3
            go_wp2_with fail
            first | exact HPE.out | (go_ret2; exact HPE.out)

end Go.Proofs.Ytmgmgmbpldboiaa
namespace Go.Proofs.Ytmgmgmbpldboiaa
open Go.RowKit

end Go.Proofs.Ytmgmgmbpldboiaa
namespace Go.Proofs.Ytmgmgmbpldboiaa
open Go.RowKit

/-- Bits as a text and their number, and an error. -/
def BitsPost (w : World) (ans : List Nat × Nat) (e : Ending) (w' : World) : Prop := e = .returned (.tuple #[.agg #[.string ⟨(pack ans.1).toArray⟩, .int .i64 ans.1.length], .int .i64 ans.2]) ∧ Below w.heap.size w w'
theorem nl_in {L : List Int} (h : DOk L) : ∀ x ∈ nl L, 1 ≤ x ∧ x ≤ 20 := by
  intro x hx
  obtain ⟨y, hy, rfl⟩ := List.mem_map.1 hx
  have := h.2.2 y hy
  omega
theorem show_short (L : List Int) : (showAns L).1.length ≤ 11000 := by
  unfold showAns
  split
  · rename_i h
    have hn := nl_in h
    have h1 := showD_length (nl L)
    have h2 := first_in (l := nl L) (by rw [nl_length]; have := h.1; omega) hn
    have h3 := sizeD_le (nl L) ((nl L).getD 0 0) h2.2 fun x hx => (hn x hx).2
    rw [nl_length] at h1 h3
    have := h.2.1
    show (showD (nl L)).length ≤ 11000
    omega
  · exact Nat.zero_le _
/-- Lengths in a slice of the call's own, a place, and an error. -/
def AllPost (w : World) (ans : List Nat × Nat × Nat) (e : Ending) (w' : World) : Prop := ∃ v, e = .returned (.tuple #[v, .int .i64 ans.2.1, .int .i64 ans.2.2]) ∧ w'.ownsRow w.heap.size 3 1 v ans.1.length (ans.1.map iv) ∧ Below w.heap.size w w'
theorem drop_nat {L : List Nat} {p : Nat} (h : p < L.length) : L.drop p = L.getD p 0 :: L.drop (p + 1) := by
  rw [List.drop_eq_getElem_cons h, List.getD_eq_getElem?_getD, List.getElem?_eq_getElem h]
  rfl
end Go.Proofs.Ytmgmgmbpldboiaa
