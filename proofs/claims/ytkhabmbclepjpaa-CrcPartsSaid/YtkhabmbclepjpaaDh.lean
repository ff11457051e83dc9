/- The sum of IEEE 802.3, walked. -/
import Derived.Test.YtkhabmbclepjpaaDg
namespace Go.Proofs.Ytkhabmbclepjpaa
open Go.RowKit

theorem rev8_lt (b : Nat) : rev8 b < 256 := by
  have h := val_lt _ (bit01_bitsN 8 b).reverse
  rw [List.length_reverse, bitsN_length] at h
  exact h
def r8 (c : UInt8) : UInt8 := UInt8.ofNat (rev8 c.toNat)
theorem r8_nat (c : UInt8) : (r8 c).toNat = rev8 c.toNat := by
  unfold r8
  rw [UInt8.toNat_ofNat']
  exact Nat.mod_eq_of_lt (rev8_lt _)
/-- What Ieee answers, by the register. -/
def ieeeF (l : List UInt8) : Nat := rev32 (4294967295 - crcFold 4294967295 (l.map r8))
theorem turn_fold (c : Nat) (s : ByteArray) (j : Nat) (h : j < s.size) : crcFold c ((s.data.toList.take (j + 1)).map r8) = crcByte (crcFold c ((s.data.toList.take j).map r8)) (rev8 (s[j]).toNat) := by
  have hjl : j < s.data.toList.length := by simpa using h
  rw [List.take_succ_eq_append_getElem hjl, List.map_append, crcFold_append, ← r8_nat]
  rfl

set_option maxHeartbeats 1600000 in
set_option maxRecDepth 1000000 in
theorem cieee_any (w : World) (s : ByteArray) (hs : s.size ≤ 9223372036854775807) :
    Calls Try.prog 14 #[.string s] w fun e w' => e = .returned (.int .u32 (ieeeF s.data.toList)) ∧ Below w.heap.size w w' := by
  have HS := Lib.hid tabA_size
  have HG := Lib.hid tabA_get
  have HO := Lib.hid tabA_one
  have HE := Lib.hid eights_any
  obtain ⟨hz, hi⟩ := zero37
  generalize tabA = T at *
  have HI := Lib.hid hi
  clear hi
  go_enter Try.func14, Try.ntmps14
  go_wp2_with fail
  refine (HE.out w).mono ?_
  rintro e w1 ⟨rfl, hb1⟩
  have hst := run_storeCells_new (P := Try.prog) w1 37 (T 0) (T 256) (by rw [HS.out]; exact HI.out) (by rw [HS.out, HS.out]) (HO.out _)
  have hsz := HS.out 256
  have hcell : ∀ i, i < 256 → (w1.alloc (.cells (T 256) 37)).cell? ⟨w1.heap.size, i, none⟩ = some (.int .u32 (crcTab i)) := by
    intro i h
    rw [World.cell?_alloc_new]
    exact HG.out i h
  have HC := Lib.hid hcell
  have hb2 : Below w.heap.size w (w1.alloc (.cells (T 256) 37)) := hb1.alloc hb1.size _
  have HB := Lib.hid hb2
  clear hcell hb1 hb2
  go_wp2_with fail
  clear hst
  generalize w1.alloc (.cells (T 256) 37) = w2 at *
  generalize w1.heap.size = g at *
  generalize T 256 = T2 at *
  go_loop [4, 9] (fun v i => ∃ j x : Nat, j ≤ s.size ∧ i = .int .i64 j ∧ v = .int .u32 x ∧ x = crcFold 4294967295 ((s.data.toList.take j).map r8) ∧ x < 4294967296) (fun _ i => s.size - (intOf i).toNat)
  case atStart => exact ⟨0, 4294967295, by omega, rfl, rfl, rfl, by decide⟩
  case round =>
    obtain ⟨j, x, hj, rfl, rfl, hx, hx2⟩ := hrel
    by_cases h : j < s.size
    · have hnx := turn_fold 4294967295 s j h
      rw [← hx] at hnx
      have hlt := crcByte_lt x (rev8 (s[j]).toNat)
      have hb := rev8_lt (s[j]).toNat
      have HQ := Lib.hid (reverse8_any w2 (s[j]).toNat (UInt8.toNat_lt (s[j])))
      have HR := Lib.hid (behind_any w2 g x (rev8 (s[j]).toNat) HC.out hx2 hb)
      have HNX := Lib.hid hnx
      have HLT := Lib.hid hlt
      have HX := Lib.hid hx
      clear hnx hlt hx
      go_wp2_with (first | refine HQ.out.mono ?_ | refine HR.out.mono ?_)
      rintro e w3 ⟨rfl, rfl⟩
      go_wp2
      exact ⟨⟨j + 1, _, by omega, by go_num, rfl, HNX.out.symm, HLT.out⟩, by simp [intOf]; omega⟩
    · obtain rfl : j = s.size := by omega
      have hall : s.data.toList.take s.size = s.data.toList := List.take_of_length_le (Nat.le_of_eq rfl)
      rw [hall] at hx
      clear hall
      have HX := Lib.hid hx
      clear hx
      have hmax := not_u32 x hx2
      have hsg := unsigned_u32
      have HQ := Lib.hid (reverse32_any w2 (4294967295 - x) (by omega))
      go_wp2_with (refine HQ.out.mono ?_)
      go_ret
      exact ⟨by unfold ieeeF; rw [← HX.out]; rfl, HB.out⟩

end Go.Proofs.Ytkhabmbclepjpaa
