/- The program's Encode of runs. Conditions: a text of at most 2097152 bytes. -/
import Derived.Test.YtihmlhkjafajmaaHa
namespace Go.Proofs.Ytihmlhkjafajmaa
open Go.RowKit

theorem piece_short (t : ByteArray) (o : List UInt8) (k : Nat) (S : List UInt8) (ht : 0 < t.size) (hk : headRun t.data.toList = k) (h4 : k < 4) (hS : o ++ encL t.data.toList = S) :
    1 ≤ k ∧ k ≤ t.size ∧ (o ++ t.data.toList.take k) ++ encL (t.extract k t.size).data.toList = S := by
  have hl := list_head t ht
  have hp : 0 < headRun t.data.toList := by rw [hl]; exact headRun_pos _ _
  have hne : t.data.toList ≠ [] := fun h => by rw [h] at hp; exact absurd hp (by decide)
  have hh := (headRun_le t.data.toList).2
  have h2 : t.data.toList.length = t.size := rfl
  refine ⟨by omega, by omega, ?_⟩
  rw [← hS, encL_step _ hne, hk, pieceL, if_pos h4, ext_drop, List.append_assoc]
theorem piece_long (t : ByteArray) (o : List UInt8) (k : Nat) (S : List UInt8) (ht : 0 < t.size) (hk : headRun t.data.toList = k) (h4 : ¬ k < 4) (hS : o ++ encL t.data.toList = S) :
    k ≤ 255 ∧ k ≤ t.size ∧ (o ++ t.data.toList.take 4 ++ [UInt8.ofNat (k - 4)]) ++ encL (t.extract k t.size).data.toList = S := by
  have hl := list_head t ht
  have hp : 0 < headRun t.data.toList := by rw [hl]; exact headRun_pos _ _
  have hne : t.data.toList ≠ [] := fun h => by rw [h] at hp; exact absurd hp (by decide)
  have hh := headRun_le t.data.toList
  have h2 : t.data.toList.length = t.size := rfl
  refine ⟨by omega, by omega, ?_⟩
  rw [← hS, encL_step _ hne, hk, pieceL, if_neg h4, ext_drop, List.append_assoc, List.append_assoc, List.append_assoc]

set_option maxHeartbeats 1600000 in
set_option maxRecDepth 1000000 in
theorem cenc_any (w : World) (s : ByteArray) (hs : s.size ≤ 2097152) :
    Calls Try.prog 9 #[.string s] w fun e w' => e = .returned (.string ⟨(encL s.data.toList).toArray⟩) ∧ Below w.heap.size w w' := by
  obtain ⟨i5, h5, hz0, hz1, hz2⟩ := info_parts Try.info5
  go_enter Try.func9, Try.ntmps9
  go_wp2_with fail
  go_loopw [0, 3] (fun a v wr => ∃ (t : ByteArray) (o : List UInt8), a = .string t ∧ wr.ownsRow w.heap.size 5 1 v o.length (o.map bv) ∧ o.length + 2 * t.size ≤ 2 * s.size ∧ o ++ encL t.data.toList = encL s.data.toList ∧ Below w.heap.size w wr) (fun a _ _ => txtLen a)
  case atStart => exact ⟨s, [], rfl, World.ownsRow_nil _ _ _ _, by simp, rfl, Below.refl _ _⟩
  case round =>
    obtain ⟨t, o, rfl, hown, hol, henc, hb⟩ := hrel
    have hsize := hb.size
    by_cases h : 0 < t.size
    · have hr := crun_any wr t (by omega)
      obtain ⟨k, hk⟩ : ∃ k, headRun t.data.toList = k := ⟨_, rfl⟩
      obtain ⟨N, hN⟩ : ∃ N, N = o.length := ⟨_, rfl⟩
      rw [hk] at hr
      have HR := Lib.hid hr
      have HB := Lib.hid hb
      rw [← hN] at hown hol
      have HN := Lib.hid hN
      have HOWN := Lib.hid hown
      by_cases h4 : k < 4
      · have HP := Lib.hid (piece_short t o k _ h hk h4 henc)
        have hk1 := HP.out.1
        have hk2 := HP.out.2.1
        clear henc hk hr hb hown hN
        go_wp2_with fail
        refine HR.out.mono ?_
        rintro e w1 ⟨rfl, hb1⟩
        have hown1 := (step_of_below hb1).row HOWN.out (fun _ _ => List.not_mem_nil) List.not_mem_nil
        have HB1 := Lib.hid (HB.out.trans (hb1.mono hsize))
        have hsize1 := HB1.out.size
        clear hb1
        have hxs : (t.extract 0 k).size = k := by rw [ByteArray.size_extract]; omega
        have hNb : N ≤ 4194304 := by omega
        have HNB := Lib.hid hNb
        have HOL := Lib.hid hol
        clear hNb hol
        go_wp2_with (at_builtin; refine Lib.wpList_append_own_string _ rfl _ _ 32 9 rfl w.heap.size 5 i5 Try.underlying32 Try.underlying9 h5 hz0 hz1 hz2 _ _ _ rfl hown1 (t.extract 0 k) rfl ?c3 ?c4 ?c5 ?_)
        case c3 => have := HNB.out; unfold maxLen; omega
        case c4 => have := HNB.out; omega
        case c5 => exact hsize1
        intro v2 w2 hown2 hgrow2 _
        have hown2' : w2.ownsRow w.heap.size 5 1 v2 (N + k) ((o ++ t.data.toList.take k).map bv) := by
          rw [List.map_append, ← ext_take]
          exact hown2
        have hb2 : Below w.heap.size w w2 := HB1.out.grown hgrow2 hsize1 (fun k hk => (hown1.lt k hk).1)
        have HB2 := Lib.hid hb2
        have HOWN2 := Lib.hid hown2'
        clear hb2 hown2 hown2' hgrow2 hown1
        go_wp2_with fail
        have hlen : (o ++ t.data.toList.take k).length = N + k := by
          rw [List.length_append, List.length_take, ← HN.out, show t.data.toList.length = t.size from rfl]
          omega
        go_roundw
        case rel =>
          refine ⟨t.extract k t.size, o ++ t.data.toList.take k, rfl, ?_, ?_, HP.out.2.2, HB2.out⟩
          · rw [hlen]
            exact HOWN2.out
          · rw [hlen, ext_drop_size]
            have := HOL.out
            omega
        case measure => show (t.extract k t.size).size < t.size; rw [ext_drop_size]; omega
      · have HP := Lib.hid (piece_long t o k _ h hk h4 henc)
        have hk1 := HP.out.1
        have hk2 := HP.out.2.1
        clear henc hk hr hb hown hN
        go_wp2_with fail
        refine HR.out.mono ?_
        rintro e w1 ⟨rfl, hb1⟩
        have hown1 := (step_of_below hb1).row HOWN.out (fun _ _ => List.not_mem_nil) List.not_mem_nil
        have HB1 := Lib.hid (HB.out.trans (hb1.mono hsize))
        have hsize1 := HB1.out.size
        clear hb1
        have hxs : (t.extract 0 4).size = 4 := by rw [ByteArray.size_extract]; omega
        have hNb : N ≤ 4194304 := by omega
        have HNB := Lib.hid hNb
        have HOL := Lib.hid hol
        have HS := Lib.hid hs
        have d0 : (if (4 : Int) < (k : Int) then (4 : Int) else (k : Int)) = 4 := by split <;> omega
        have d4 : (4 : Int) ≤ t.size := by omega
        have d5 : (4 : Int) ≤ k := by omega
        have d6 : decide ((4 : Int) ≤ k) = true := decide_eq_true d5
        clear hNb hol hs h4
        go_wp2_with (at_builtin; refine Lib.wpList_append_own_string _ rfl _ _ 32 9 rfl w.heap.size 5 i5 Try.underlying32 Try.underlying9 h5 hz0 hz1 hz2 _ _ _ rfl hown1 (t.extract 0 4) rfl ?c3 ?c4 ?c5 ?_)
        case c3 => have := HNB.out; unfold maxLen; omega
        case c4 => have := HNB.out; omega
        case c5 => exact hsize1
        intro v2 w2 hown2 hgrow2 _
        have hown2' : w2.ownsRow w.heap.size 5 1 v2 (N + 4) ((o ++ t.data.toList.take 4).map bv) := by
          rw [List.map_append, ← ext_take]
          exact hown2
        have hb2 : Below w.heap.size w w2 := HB1.out.grown hgrow2 hsize1 (fun k hk => (hown1.lt k hk).1)
        obtain ⟨X, hX⟩ : ∃ X, X = (o ++ t.data.toList.take 4).map bv := ⟨_, rfl⟩
        rw [← hX] at hown2'
        have HX := Lib.hid hX
        have HB2 := Lib.hid hb2
        have hsize2 := HB2.out.size
        have hk3 : (k : Int) - 4 < 256 := by omega
        clear hb2 hown2 hgrow2 hown1 hX
        go_wp2_with (at_builtin; refine wpList_append_own _ rfl _ _ 32 rfl w.heap.size 5 i5 (.int .u8 0) 1 1 Try.underlying32 h5 hz0 hz1 hz2 rfl (by decide) _ _ _ rfl (hown2'.alloc _) ⟨w2.heap.size, 0, none⟩ 1 1 [.int .u8 ((k : Int) - 4)] rfl rfl ?c1 ?c2 ?c3 ?c4 ?c5 ?_)
        case c1 => exact cell_one_new _ _ _
        case c2 => intro u hu; simp at hu; subst hu; rfl
        case c3 => have := HNB.out; unfold maxLen; omega
        case c4 => have := HNB.out; omega
        case c5 => simp; omega
        intro v3 w3 hown3 hgrow3 _
        have hb3 : Below w.heap.size w w3 := (HB2.out.alloc hsize2 _).grown hgrow3 (by simp; omega) (fun k hk => (hown2'.lt k hk).1)
        have HB3 := Lib.hid hb3
        have HOWN3 := Lib.hid hown3
        clear hb3 hown3 hgrow3 hown2'
        go_wp2_with fail
        have hlen : (o ++ t.data.toList.take 4 ++ [UInt8.ofNat (k - 4)]).length = N + 4 + 1 := by
          rw [List.length_append, List.length_append, List.length_take, ← HN.out, show t.data.toList.length = t.size from rfl, List.length_singleton]
          omega
        have hbyte : bv (UInt8.ofNat (k - 4)) = .int .u8 ((k : Int) - 4) := by
          have : (UInt8.ofNat (k - 4)).toNat = k - 4 := by
            rw [UInt8.toNat_ofNat']
            exact Nat.mod_eq_of_lt (by omega)
          unfold bv
          rw [this]
          congr 1
          omega
        go_roundw
        case rel =>
          refine ⟨t.extract k t.size, o ++ t.data.toList.take 4 ++ [UInt8.ofNat (k - 4)], rfl, ?_, ?_, HP.out.2.2, HB3.out⟩
          · rw [hlen, List.map_append, ← HX.out, List.map_cons, List.map_nil, hbyte]
            exact HOWN3.out
          · rw [hlen, ext_drop_size]
            have := HOL.out
            omega
        case measure => show (t.extract k t.size).size < t.size; rw [ext_drop_size]; omega
    · have hz : t.size = 0 := by omega
      have ht : t.data.toList = [] := List.eq_nil_of_length_eq_zero hz
      rw [ht, encL_nil, List.append_nil] at henc
      have hconv := conv_row hown
      have HE := Lib.hid henc
      have HB := Lib.hid hb
      clear henc hb hown hol
      go_wp2_with fail
      go_ret
      rw [← HE.out]
      exact ⟨rfl, HB.out⟩

end Go.Proofs.Ytihmlhkjafajmaa
