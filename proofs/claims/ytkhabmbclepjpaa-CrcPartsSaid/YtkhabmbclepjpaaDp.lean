/- The law CrcParts, walked: a register that a text comes to in parts is as it is behind the text. -/
import Derived.Test.YtkhabmbclepjpaaDj
import Derived.SliceStrings
import Derived.SizedLaws
namespace Go.Proofs.Ytkhabmbclepjpaa
open Go.RowKit

/-- A slice of texts that is read, below B. -/
def TextsIn (w : World) (B : Nat) (A : Option Addr) (n : Nat) (T : Nat → ByteArray) : Prop :=
  0 < n → ∃ b off, A = some ⟨b, off, none⟩ ∧ b < B ∧ ∀ i, i < n → w.cell? ⟨b, off + i, none⟩ = some (.string (T i))
theorem fold_text (x c : Nat) (t u : ByteArray) (hx : x = crcFold c t.data.toList) : crcFold x u.data.toList = crcFold c (t ++ u).data.toList := by
  rw [hx, ByteArray.data_append, Array.toList_append, crcFold_append]

set_option maxHeartbeats 1600000 in
theorem parts_walk (w : World) (A : Option Addr) (n c : Nat) (T : Nat → ByteArray) (hi : TextsIn w w.heap.size A n T) (hs : ∀ i, i < n → (T i).size ≤ 140737488355328) (hn : n ≤ 9223372036854775807) :
    Calls Try.prog 7 #[.slice A n c] w fun e w' => e = .returned (.bool true) ∧ Below w.heap.size w w' := by
  have HI := Lib.hid hi
  have HS := Lib.hid hs
  clear hi hs
  go_enter Try.func7, Try.ntmps7
  go_wp2_with fail
  go_loopw [3, 4, 5] (fun v a i wr => ∃ (j x : Nat) (t : ByteArray), j ≤ n ∧ i = .int .i64 j ∧ v = .int .u32 x ∧ a = .string t ∧ x = crcFold 4294967295 t.data.toList ∧ x < 4294967296 ∧ t.size ≤ 100000 ∧ Below w.heap.size w wr) (fun _ _ i _ => n - (intOf i).toNat)
  case atStart => exact ⟨0, 4294967295, ⟨#[]⟩, by omega, rfl, rfl, rfl, rfl, by decide, by decide, Below.refl _ _⟩
  case round =>
    obtain ⟨j, x, t, hj, rfl, rfl, rfl, hx, hx2, ht, hb⟩ := hrel
    have hz := hb.size
    by_cases h : j < n
    · obtain ⟨b, off, rfl, hbB, hc⟩ := HI.out (by omega)
      have g := (hb.cell (p := ⟨b, off + j, none⟩) hbB).trans (hc j h)
      have hu := HS.out j h
      have hnx := fold_text x 4294967295 t (T j) hx
      have hlt := crcFold_lt (T j).data.toList x hx2
      have hm := fun w1 : World => cmore_any w1 x (T j) hx2 (by omega)
      generalize T j = u at *
      have HM := Lib.hid hm
      have HX := Lib.hid hx
      have HNX := Lib.hid hnx
      have HLT := Lib.hid hlt
      have HB := Lib.hid hb
      clear hx hnx hlt hb hc hm
      by_cases hbig : 100000 < t.size + u.size
      · go_wp2_with fail
        refine (awake_any _).mono ?_
        rintro e w3 ⟨rfl, hb3⟩
        go_wp2_with fail
        go_ret
        exact ⟨rfl, HB.out.trans (hb3.mono hz)⟩
      · have hcat : (t ++ u).size = t.size + u.size := ByteArray.size_append
        go_wp2_with fail
        refine (HM.out wr).mono ?_
        rintro e w3 ⟨rfl, hb3⟩
        have g3 := (hb3.cell (p := ⟨b, off + j, none⟩) (Nat.lt_of_lt_of_le hbB hz)).trans g
        have HB3 := Lib.hid (HB.out.trans (hb3.mono hz))
        clear hb3
        go_wp2_with fail
        go_roundw
        case rel => exact ⟨j + 1, _, t ++ u, by omega, by go_num, rfl, rfl, HNX.out, HLT.out, by omega, HB3.out⟩
        case measure => simp [intOf]; omega
    · obtain rfl : j = n := by omega
      have hcz := cbzip_any wr t (by omega)
      rw [← hx] at hcz
      have HC := Lib.hid hcz
      have HB := Lib.hid hb
      clear hx hb hcz
      have hmax := not_u32 x hx2
      have hsg := unsigned_u32
      go_wp2_with fail
      refine HC.out.mono ?_
      rintro e w3 ⟨rfl, hb3⟩
      have HB3 := Lib.hid (HB.out.trans (hb3.mono hz))
      clear hb3
      go_wp2_with fail
      refine (awake_any _).mono ?_
      rintro e w4 ⟨rfl, hb4⟩
      go_wp2_with fail
      go_ret
      exact ⟨rfl, HB3.out.trans (hb4.mono HB3.out.size)⟩

end Go.Proofs.Ytkhabmbclepjpaa
