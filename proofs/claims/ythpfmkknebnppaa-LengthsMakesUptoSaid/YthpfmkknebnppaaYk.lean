/- The law LengthsFull, walked over what is asked of the code's functions. -/
import Derived.Test.YthpfmkknebnppaaYj
import Derived.Test.YthpfmkknebnppaaYx
namespace Go.Proofs.Ythpfmkknebnppaa
open Go.RowKit

section
variable {N : Nat} (R : LenDone N)
include R

set_option maxHeartbeats 1600000 in
set_option maxRecDepth 100000 in
theorem full_walk (hN : 10 ≤ N) (w : World) (A : Option Addr) (n c : Nat) (L : List Int) (most : Int) (hL : ZIn w A n L) (hnc : n ≤ c) (hnN : n ≤ N) (hn : n ≤ maxLen) (h1 : -9223372036854775808 ≤ most) (h2 : most ≤ 9223372036854775807) : Calls Try.prog 7 #[.slice A n c, .int .i64 most] w fun e w' => e = .returned (.bool true) ∧ Below w.heap.size w w' := by
  have HAW := Lib.hid (awake_any R hN)
  have HA := Lib.hid (R.make w A n c L most hL hnc hnN hn h1 h2)
  have hln := hL.1
  have HLN := Lib.hid hln
  clear hL hln
  go_enter Try.func7, Try.ntmps7
  go_wp2_with fail
  refine HA.out.mono ?_
  intro e w4 h
  obtain ⟨a, k, A4, c4, hans, hal, rfl, hac, hi4, hb4⟩ := make_slice h
  have HB4 := Lib.hid hb4
  have HI4 := Lib.hid hi4
  rcases hans with ⟨_, rfl, rfl⟩ | ⟨hM, h12, h20, rfl, len, hmk, ha⟩
  · dsimp only [List.length_nil]
    clear h hi4 hb4 HI4
    go_wp2_with fail
    refine (HAW.out w4).mono ?_
    rintro e w10 ⟨rfl, hb10⟩
    have HB10 := Lib.hid (HB4.out.trans (hb10.mono HB4.out.size))
    clear hb10
    go_wp2_with fail
    go_ret
    exact ⟨rfl, HB10.out⟩
  · obtain ⟨m, rfl⟩ : ∃ m : Nat, most = m := ⟨most.toNat, by omega⟩
    rw [Int.toNat_natCast] at hmk
    have hap : a.length = n := by rw [ha, List.length_map, List.length_range]; exact HLN.out
    have hol : (oneL L).length = n := by unfold oneL; rw [List.length_map, List.length_range]; exact HLN.out
    have hgood := makeR_good hmk
    rw [hol] at hgood
    have hM1 := hM.1
    have hM2 := hM.2.1
    rw [HLN.out] at hM1 hM2
    have hfull := len_full hM1 hM2 (fun i hi => by have := hgood.1 i hi; omega) (hgood.2 20 (by omega))
    rw [HLN.out] at ha
    rw [← ha] at hfull
    have hcell : ∀ i, i < n → a.getD i 0 ≤ m := by
      intro i hi
      rw [ha, range_getD n len i hi]
      exact hgood.1 i hi
    rw [hap] at hi4 hac ⊢
    have HF := Lib.hid (R.full w4 A4 n c4 (intL a) (zin_of hi4) hac hn)
    rw [decide_eq_true hfull] at HF
    have HI := Lib.hid hi4
    have HCELL := Lib.hid hcell
    clear h hi4 hb4 hmk ha hap hol hgood hfull hM hcell HI4 hal
    have dn : ((n : Int) != (n : Int)) = false := by simp
    go_wp2_with fail
    refine HF.out.mono ?_
    rintro e w5 ⟨rfl, hb5⟩
    have HB5 := Lib.hid (HB4.out.trans (hb5.mono HB4.out.size))
    have HI5 := Lib.hid (ints_low HI.out hb5)
    clear hb5
    go_wp2_with fail
    go_loopw [7] (fun x wx => ∃ i : Nat, i ≤ n ∧ x = .int .i64 i ∧ wx = w5) (fun x _ => n - (intOf x).toNat)
    case atStart => exact ⟨0, Nat.zero_le _, rfl, rfl⟩
    case round =>
      obtain ⟨i, hi, rfl, rfl⟩ := hrel
      by_cases e : i < n
      · have di : decide ((i : Int) < (n : Int)) = true := decide_eq_true (by omega)
        obtain ⟨b, off, rfl, hc⟩ := HI5.out.2 (by omega)
        have ci := hc i e
        have hle := HCELL.out i e
        obtain ⟨x, hx⟩ : ∃ x, x = a.getD i 0 := ⟨_, rfl⟩
        rw [← hx] at ci hle
        have dx : decide ((m : Int) < (x : Int)) = false := decide_eq_false (by omega)
        have hmx : ¬ m < x := by omega
        clear hc hx
        go_wp2_with fail
        go_roundw
        case rel => exact ⟨i + 1, by omega, by go_num, trivial⟩
        case measure => simp [intOf]; omega
      · obtain rfl : i = n := by omega
        have di : decide ((i : Int) < (i : Int)) = false := decide_eq_false (by omega)
        go_wp2_with fail
        refine (HAW.out _).mono ?_
        rintro e w10 ⟨rfl, hb10⟩
        have HB10 := Lib.hid (HB5.out.trans (hb10.mono HB5.out.size))
        clear hb10
        go_wp2_with fail
        go_ret
        exact ⟨rfl, HB10.out⟩
end

end Go.Proofs.Ythpfmkknebnppaa
