/- The reference of symbols, walked: Front. Conditions: at most a million bytes. -/
import Derived.Test.YtcmhcfbmjceioaaJd
namespace Go.Proofs.Ytcmhcfbmjceioaa
open Go.RowKit

theorem cell_one (w : World) (v : Value) (t : TypeId) : ∀ (j : Nat) (u : Value), [v][j]? = some u → (w.alloc (.cells #[v] t)).cell? ((⟨w.heap.size, 0, none⟩ : Addr).add j) = some u := by
  intro j u hu
  have hj : j = 0 := by
    have := (List.getElem?_eq_some_iff.1 hu).1
    simp at this
    exact this
  subst hj
  simp at hu
  subst hu
  rw [Addr.add_lit, blk_cell (blk_new w t _)]
  rfl
/-- What Front answers. -/
def frontAns (s a : List UInt8) : List Nat × Nat := if MayL a then (match frontL s a with | none => ([], 60) | some l => (l, 0)) else ([], 2)
def FrontPost (w : World) (s a : List UInt8) (e : Ending) (w' : World) : Prop := ∃ (v : Value) (L : List Nat) (c : Nat), frontAns s a = (L, c) ∧ e = .returned (.tuple #[v, .int .i64 c]) ∧ w'.ownsRow w.heap.size 3 1 v L.length (L.map iv) ∧ Below w.heap.size w w'
theorem drop_byte (s : ByteArray) (q : Nat) (h : q < s.size) : s.data.toList.drop q = s[q] :: s.data.toList.drop (q + 1) := by
  have hl : q < s.data.toList.length := h
  rw [List.drop_eq_getElem_cons hl]
  rfl

set_option maxHeartbeats 1600000 in
set_option maxRecDepth 100000 in
theorem rfront_any (w : World) (s a : ByteArray) (hs : s.size ≤ 1000000) (ha : a.size ≤ 1000000) : Calls Try.prog 14 #[.string s, .string a] w (FrontPost w s.data.toList a.data.toList) := by
  obtain ⟨i3, h3, hz0, hz1, hz2⟩ := info_parts Try.info3
  have HM := Lib.hid (may_any w a ha)
  by_cases hm : MayL a.data.toList
  · have d0 : decide (MayL a.data.toList) = true := decide_eq_true hm
    rw [d0] at HM
    have HANS := Lib.hid (show frontAns s.data.toList a.data.toList = (match frontL s.data.toList a.data.toList with | none => ([], 60) | some l => (l, 0)) from if_pos hm)
    have HSL := Lib.hid (show s.data.toList.length = s.size from rfl)
    clear d0 hm
    go_enter Try.func14, Try.ntmps14
    go_wp2_with fail
    refine HM.out.mono ?_
    rintro e w1 ⟨rfl, hb1⟩
    have HB1 := Lib.hid hb1
    have hz1' := hb1.size
    clear hb1
    go_wp2_with fail
    go_loopw [6, 7, 8] (fun out list i wx => ∃ (q : Nat) (t : ByteArray) (o : List Nat), q ≤ s.size ∧ i = .int .i64 q ∧ list = .string t ∧ t.size = a.size ∧ wx.ownsRow w1.heap.size 3 1 out o.length (o.map iv) ∧ o.length = q ∧
      frontL s.data.toList a.data.toList = (frontL (s.data.toList.drop q) t.data.toList).map (o ++ ·) ∧ Below w1.heap.size w1 wx) (fun _ _ i _ => s.size - (intOf i).toNat)
    case atStart => exact ⟨0, a, [], Nat.zero_le _, rfl, rfl, rfl, World.ownsRow_nil _ _ _ _, rfl, by simp, Below.refl _ _⟩
    case round =>
      obtain ⟨q, t, o, hq, rfl, rfl, hts, hown, hol, hfr, hb⟩ := hrel
      have hz9 := hb.size
      obtain ⟨A0, c0, rfl, hn0, hm0, hA0⟩ := own_slice hown
      clear hA0
      unfold maxLen at hm0
      rw [hol] at hown hn0 ⊢
      have HOL := Lib.hid hol
      have HB := Lib.hid hb
      have HFR := Lib.hid hfr
      have HTS := Lib.hid hts
      obtain ⟨X, hX⟩ : ∃ X, X = o.map iv := ⟨_, rfl⟩
      rw [← hX] at hown
      have HX := Lib.hid hX
      have HO := Lib.hid hown
      obtain ⟨m, hm⟩ : ∃ m, m = a.size := ⟨_, rfl⟩
      have htm : t.size = m := hts.trans hm.symm
      clear hX hown hol hb hfr hts
      by_cases e : q < s.size
      · have d1 : decide ((q : Int) < (s.size : Int)) = true := decide_eq_true (by omega)
        have hpl := place_any wr t s[q] (by omega)
        have hdr := drop_byte s q e
        have hle : t.data.toList.idxOf s[q] ≤ m := by rw [← htm]; exact List.idxOf_le_length
        by_cases e1 : s[q] ∈ t.data.toList
        · have hps : t.data.toList.idxOf s[q] < m := by rw [← htm]; exact (idx_lt _ _).2 e1
          obtain ⟨p, hp⟩ : ∃ p, p = t.data.toList.idxOf s[q] := ⟨_, rfl⟩
          rw [← hp] at hpl hle hps
          have hne : ¬ p = m := by omega
          have d2 : ((p : Int) == (m : Int)) = false := by
            simp only [beq_eq_false_iff_ne, ne_eq]
            omega
          have htu := turned_any wr t p (by omega) (by omega)
          have hnx : frontL s.data.toList a.data.toList = (frontL (s.data.toList.drop (q + 1)) (turnL t.data.toList p)).map ((o ++ [p]) ++ ·) := by
            rw [HFR.out, hdr, frontL, if_pos e1, ← hp, Option.map_map]
            congr 1
            funext l
            simp
          have htl : (turnL t.data.toList p).length = t.size := turnL_length _ p (by show p < t.size; omega)
          have HPL := Lib.hid hpl
          have HTU := Lib.hid htu
          have HNX := Lib.hid hnx
          obtain ⟨t2, ht2⟩ : ∃ t2, t2 = strB (turnL t.data.toList p) := ⟨_, rfl⟩
          rw [← ht2] at HTU
          have HT2 := Lib.hid (show t2.data.toList = turnL t.data.toList p by rw [ht2]; rfl)
          have HT2S := Lib.hid (show t2.size = a.size by rw [ht2, strB_size, htl, HTS.out])
          clear hpl hdr hle e1 hp htu hnx htl ht2
          go_wp2_with fail
          refine HPL.out.mono ?_
          rintro e w3 ⟨rfl, rfl⟩
          go_wp2_with fail
          refine HTU.out.mono ?_
          rintro e w3 ⟨rfl, m3, rfl⟩
          have HO3 := Lib.hid (show (wr.drewN m3).ownsRow w1.heap.size 3 1 (.slice A0 q c0) q X from HO.out)
          have HB3 := Lib.hid (below_drewN HB.out m3)
          have hz3 : w1.heap.size ≤ (wr.drewN m3).heap.size := hz9
          generalize wr.drewN m3 = w3 at *
          go_wp2_with (at_builtin; refine wpList_append_own _ rfl _ _ 25 rfl w1.heap.size 3 i3 (.int .i64 0) 1 8 Try.underlying25 h3 hz0 hz1 hz2 rfl (by decide) _ _ _ rfl (HO3.out.alloc _) ⟨w3.heap.size, 0, none⟩ 1 1 [.int .i64 p] rfl rfl ?c1 ?c2 ?c3 ?c4 ?c5 ?_)
          case c1 => exact cell_one _ _ _
          case c2 => intro u hu; simp at hu; subst hu; rfl
          case c3 => unfold maxLen; omega
          case c4 => omega
          case c5 => simp; omega
          intro v4 w4 hown4 hgrow4 _
          have hb4 : Below w1.heap.size w1 w4 := (HB3.out.alloc hz3 _).grown hgrow4 (by simp; omega) (fun k hk => (HO3.out.lt k hk).1)
          have HO4 := Lib.hid hown4
          have HB4 := Lib.hid hb4
          clear hown4 hgrow4 hb4
          go_wp2_with fail
          go_roundw
          case rel =>
            refine ⟨q + 1, t2, o ++ [p], by omega, by go_num, rfl, HT2S.out, ?_, by rw [List.length_append, HOL.out]; rfl, by rw [HT2.out]; exact HNX.out, HB4.out⟩
            rw [List.length_append, HOL.out, List.map_append, ← HX.out]
            exact HO4.out
          case measure => simp [intOf]; omega
        · have hpe : t.data.toList.idxOf s[q] = m := by
            rw [← htm]
            exact Nat.le_antisymm List.idxOf_le_length (Nat.not_lt.1 fun h => e1 ((idx_lt _ _).1 h))
          rw [hpe] at hpl
          have hno : frontL s.data.toList a.data.toList = none := by
            rw [HFR.out, hdr, frontL, if_neg e1]
            rfl
          have HPL := Lib.hid hpl
          have HNO := Lib.hid hno
          have d2 : ((m : Int) == (m : Int)) = true := beq_self_eq_true _
          clear hpl hdr hle e1 hpe hno
          go_wp2_with fail
          refine HPL.out.mono ?_
          rintro e w3 ⟨rfl, rfl⟩
          go_wp2_with fail
          go_ret2
          refine ⟨_, [], 60, ?_, rfl, World.ownsRow_nil _ _ _ _, HB1.out.trans (HB.out.mono hz1')⟩
          rw [HANS.out, HNO.out]
      · obtain rfl : q = s.size := by omega
        have d1 : decide ((s.size : Int) < (s.size : Int)) = false := decide_eq_false (by omega)
        have hfin : frontL s.data.toList a.data.toList = some o := by
          rw [HFR.out, List.drop_of_length_le (by rw [HSL.out]; exact Nat.le_refl _)]
          simp [frontL]
        have HFIN := Lib.hid hfin
        clear hfin
        go_wp2_with fail
        go_ret2
        refine ⟨_, o, 0, ?_, rfl, ?_, HB1.out.trans (HB.out.mono hz1')⟩
        · rw [HANS.out, HFIN.out]
        · have h1 := HO.out
          rw [HX.out] at h1
          rw [HOL.out]
          exact own_lower h1 hz1'
  · have d0 : decide (MayL a.data.toList) = false := decide_eq_false hm
    rw [d0] at HM
    have HANS := Lib.hid (show frontAns s.data.toList a.data.toList = ([], 2) from if_neg hm)
    clear d0 hm
    go_enter Try.func14, Try.ntmps14
    go_wp2_with fail
    refine HM.out.mono ?_
    rintro e w1 ⟨rfl, hb1⟩
    have HB1 := Lib.hid hb1
    clear hb1
    go_wp2_with fail
    go_ret2
    exact ⟨_, [], 2, HANS.out, rfl, World.ownsRow_nil _ _ _ _, HB1.out⟩
where
  own_lower {w : World} {B B' : Nat} {e : TypeId} {size n : Nat} {v : Value} {xs : List Value} (h : w.ownsRow B e size v n xs) (hb : B' ≤ B) : w.ownsRow B' e size v n xs := by
    refine ⟨h.1, ?_⟩
    rcases h.2 with h1 | ⟨g, cap, cur, hv, hg, rest⟩
    · exact .inl h1
    · exact .inr ⟨g, cap, cur, hv, Nat.le_trans hb hg, rest⟩

end Go.Proofs.Ytcmhcfbmjceioaa
