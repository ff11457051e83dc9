/- The code's tell: the digits of a run behind what is there. Conditions: a row of at most ten million numbers, a run below 2^31. -/
import Derived.Test.YtdlndcjiccfhgaaZe
namespace Go.Proofs.Ytdlndcjiccfhgaa
open Go.RowKit

theorem dig_none : dig 0 = [] := digM_one (by omega)
theorem dig_step (j : Nat) (h : 0 < j) : dig j = (j - 1) % 2 :: dig ((j - 1) / 2) := by
  unfold dig
  rw [digM_more (by omega)]
  congr 1
  · omega
  · congr 1
    omega

/-- What tell answers: the row with the digits behind. -/
def TellPost (B : Nat) (w : World) (r : List Nat) (e : Ending) (w' : World) : Prop := ∃ v, e = .returned v ∧ w'.ownsRow B 3 1 v r.length (r.map iv) ∧ Below B w w'

set_option maxHeartbeats 1600000 in
set_option maxRecDepth 100000 in
theorem ctell_any (w : World) (B : Nat) (v : Value) (o : List Nat) (k : Nat) (hown : w.ownsRow B 3 1 v o.length (o.map iv)) (hk : k ≤ 2147483647) (ho : o.length ≤ 10000000) (hB : B ≤ w.heap.size) : Calls Try.prog 16 #[v, .int .i64 k] w (TellPost B w (o ++ dig k)) := by
  obtain ⟨i3, h3, hz0, hz1, hz2⟩ := info_parts Try.info3
  have hdk := runAns_length k
  rw [show runAns (k : Int) = (dig k, 0) by unfold runAns; rw [if_neg (by omega), Int.toNat_natCast]] at hdk
  have hdk2 : (dig k).length ≤ 31 := hdk
  have HP : Hid (∀ (v' : Value) (w' : World) (o' : List Nat), o' = o ++ dig k → w'.ownsRow B 3 1 v' o'.length (o'.map iv) → Below B w w' → TellPost B w (o ++ dig k) (.returned v') w') := Lib.hid fun v' w' o' h1 h2 h3 => ⟨v', rfl, by rw [← h1]; exact h2, h3⟩
  have HO0 := Lib.hid hown
  obtain ⟨A, c, rfl, hnc, hcm, _⟩ := own_slice hown
  clear hown hdk
  generalize TellPost B w (o ++ dig k) = PO at *
  obtain ⟨R, hR⟩ : ∃ R, R = o ++ dig k := ⟨_, rfl⟩
  have hRl : R.length = o.length + (dig k).length := by rw [hR, List.length_append]
  have hR3 : R.length ≤ 10000031 := by omega
  rw [← hR] at HP
  have HR := Lib.hid hR
  have HBS := Lib.hid hB
  obtain ⟨N0, hN0⟩ : ∃ N0, N0 = o.length := ⟨_, rfl⟩
  have HN0 := Lib.hid hN0
  rw [← hN0] at ho hnc ⊢
  clear hR hRl hdk2 hN0
  go_enter Try.func16, Try.ntmps16
  go_wp2_with fail
  go_loopw [0, 1] (fun out kk wx => ∃ (j : Nat) (o' : List Nat), kk = .int .i64 j ∧ j ≤ k ∧ wx.ownsRow B 3 1 out o'.length (o'.map iv) ∧ Hid (R = o' ++ dig j) ∧ Below B w wx) (fun _ kk _ => (intOf kk).toNat)
  case atStart => exact ⟨k, o, rfl, Nat.le_refl _, by rw [HN0.out]; exact HO0.out, HR, Below.refl _ _⟩
  case round =>
    obtain ⟨j, o', rfl, hj, hown, hdec, hb⟩ := hrel
    have hz9 := hb.size
    have hB9 : B ≤ wr.heap.size := Nat.le_trans HBS.out hz9
    obtain ⟨A0, c0, rfl, hn0, hm0, hA0⟩ := own_slice hown
    clear hA0
    unfold maxLen at hm0
    have HB := Lib.hid hb
    have HO := Lib.hid hown
    have hol : o'.length ≤ R.length := by rw [hdec.out, List.length_append]; exact Nat.le_add_right _ _
    by_cases e : 0 < j
    · have d0 : decide ((0 : Int) < (j : Int)) = true := decide_eq_true (by omega)
      obtain ⟨j1, hj1⟩ : ∃ j1, j1 = j - 1 := ⟨_, rfl⟩
      have hjz : (j : Int) - 1 = (j1 : Int) := by omega
      obtain ⟨b, hb2⟩ : ∃ b, b = j1 % 2 := ⟨_, rfl⟩
      have hbz : (j1 : Int) % 2 = (b : Int) := by omega
      obtain ⟨z, hz2'⟩ : ∃ z, z = j1 / 2 := ⟨_, rfl⟩
      have hzz : (j1 : Int) / 2 = (z : Int) := by omega
      have hstep := hdec.out
      rw [dig_step j e, ← hj1, ← hb2, ← hz2'] at hstep
      have hst2 : R = (o' ++ [b]) ++ dig z := by rw [hstep, List.append_assoc]; rfl
      have HST := Lib.hid hst2
      have hzj : z < j := by omega
      obtain ⟨N, hN⟩ : ∃ N, N = o'.length := ⟨_, rfl⟩
      obtain ⟨X, hX⟩ : ∃ X, X = o'.map iv := ⟨_, rfl⟩
      rw [← hN, ← hX] at HO
      have HN := Lib.hid hN
      have HX := Lib.hid hX
      rw [← hN] at hn0 hol ⊢
      clear hb hown hdec hstep hst2 hN hX hb2 hz2' hj1 e
      go_wp2_with (at_builtin; refine wpList_append_own _ rfl _ _ 22 rfl B 3 i3 (.int .i64 0) 1 8 Try.underlying22 h3 hz0 hz1 hz2 rfl (by decide) _ _ _ rfl (HO.out.alloc _) ⟨wr.heap.size, 0, none⟩ 1 1 [.int .i64 b] rfl rfl ?c1 ?c2 ?c3 ?c4 ?c5 ?_)
      case c1 => exact cell_one _ _ _
      case c2 => intro u hu; simp at hu; subst hu; rfl
      case c3 => unfold maxLen; omega
      case c4 => omega
      case c5 => simp; omega
      intro v4 w4 hown4 hgrow4 _
      have hb4 : Below B w w4 := (HB.out.alloc hB9 _).grown hgrow4 (by simp; omega) (fun k hk => (HO.out.lt k hk).1)
      have HO4 := Lib.hid hown4
      have HB4 := Lib.hid hb4
      clear hown4 hgrow4 hb4
      go_wp2_with fail
      go_roundw
      case rel =>
        refine ⟨z, o' ++ [b], rfl, by omega, ?_, HST, HB4.out⟩
        rw [List.length_append, ← HN.out, List.map_append, ← HX.out]
        exact HO4.out
      case measure => simp [intOf]; omega
    · obtain rfl : j = 0 := by omega
      have d0 : decide ((0 : Int) < ((0 : Nat) : Int)) = false := rfl
      have hend := hdec.out
      rw [dig_none, List.append_nil] at hend
      have HPE := Lib.hid (HP.out _ wr o' hend.symm HO.out HB.out)
      clear hb hown hdec hend
      go_wp2_with fail
      exact HPE.out

end Go.Proofs.Ytdlndcjiccfhgaa
