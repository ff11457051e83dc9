/- The reference of rle, walked: Fit. Conditions: a text of at most a million bytes. -/
import Derived.Test.YtihmlhkjafajmaaEe
namespace Go.Proofs.Ytihmlhkjafajmaa
open Go.RowKit

theorem enc_len (t : ByteArray) : (⟨(encL t.data.toList).toArray⟩ : ByteArray).size = (encL t.data.toList).length := rfl

set_option maxHeartbeats 1600000 in
theorem rfit_any (w : World) (s : ByteArray) (most : Int) (hs : s.size ≤ 1000000) :
    Calls Try.prog 15 #[.string s, .int .i64 most] w fun e w' => ∃ n : Nat, e = .returned (.int .i64 n) ∧ IsFit s.data.toList most n ∧ Below w.heap.size w w' := by
  have hl := encL_long s.data.toList
  have hsl : s.data.toList.length = s.size := rfl
  rw [hsl] at hl
  go_enter Try.func15, Try.ntmps15
  go_wp2_with fail
  refine (renc_any w s hs).mono ?_
  rintro e w1 ⟨rfl, hb1⟩
  have HEL := Lib.hid (enc_len s)
  generalize hE : (⟨(encL s.data.toList).toArray⟩ : ByteArray) = E at *
  have HE := Lib.hid hE
  clear hE
  have hsz : E.size = (encL s.data.toList).length := HEL.out
  generalize hq : (encL s.data.toList).length = q at *
  have HQ := Lib.hid hq
  clear hq
  have HB1 := Lib.hid hb1
  clear hb1
  by_cases h : (q : Int) ≤ most
  · go_wp2_with fail
    go_ret
    refine ⟨s.size, rfl, ?_, HB1.out⟩
    exact isFit_all (by rw [HQ.out]; exact h)
  · go_wp2_with fail
    go_loopw [5] (fun i wr => ∃ n : Nat, n ≤ s.size ∧ i = .int .i64 n ∧ (∀ m, 1 ≤ m → m ≤ n → ((encL (s.data.toList.take m)).length : Int) ≤ most) ∧ Below w.heap.size w wr) (fun i _ => s.size - (intOf i).toNat)
    case atStart => exact ⟨0, Nat.zero_le _, rfl, fun m h1 h2 => by omega, HB1.out⟩
    case round =>
      obtain ⟨n, hn, rfl, hm, hb⟩ := hrel
      have HM := Lib.hid hm
      have HB := Lib.hid hb
      have hz := hb.size
      clear hm hb
      by_cases e1 : n < s.size
      · have hx : (s.extract 0 (n + 1)).size ≤ 1000000 := by rw [ByteArray.size_extract]; omega
        have hr := fun w1 : World => renc_any w1 (s.extract 0 (n + 1)) hx
        rw [ext_take] at hr
        have hl2 := encL_long (s.data.toList.take (n + 1))
        have hl3 : (s.data.toList.take (n + 1)).length ≤ 1000000 := by rw [List.length_take]; omega
        obtain ⟨F, hF⟩ : ∃ F : ByteArray, F = ⟨(encL (s.data.toList.take (n + 1))).toArray⟩ := ⟨_, rfl⟩
        have hFs : F.size = (encL (s.data.toList.take (n + 1))).length := by rw [hF]; rfl
        rw [← hF] at hr
        have HR := Lib.hid hr
        have HF := Lib.hid hF
        clear hF hr
        generalize hp : (encL (s.data.toList.take (n + 1))).length = p at *
        have HP := Lib.hid hp
        have hpb : p ≤ 2000000 := by omega
        clear hp hl2 hl3 hl
        go_wp2_with fail
        refine (HR.out wr).mono ?_
        rintro e w2 ⟨rfl, hb2⟩
        have HB2 := Lib.hid (HB.out.trans (hb2.mono hz))
        clear hb2
        by_cases e2 : (p : Int) ≤ most
        · go_wp2_with fail
          go_roundw
          case rel =>
            refine ⟨n + 1, by omega, by go_num, fun m h1 h2 => ?_, HB2.out⟩
            by_cases e : m = n + 1
            · rw [e, HP.out]; exact e2
            · exact HM.out m h1 (by omega)
          case measure => simp [intOf]; omega
        · go_wp2_with fail
          go_ret
          refine ⟨n, rfl, ⟨hn, HM.out, fun _ => ?_⟩, HB2.out⟩
          rw [HP.out]
          omega
      · go_wp2_with fail
        go_ret
        exact ⟨n, rfl, ⟨hn, HM.out, fun h => absurd h e1⟩, HB.out⟩

end Go.Proofs.Ytihmlhkjafajmaa
