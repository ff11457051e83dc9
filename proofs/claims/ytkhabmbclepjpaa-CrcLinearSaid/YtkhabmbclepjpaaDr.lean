/- The sums of mixed texts: plain. -/
import Derived.Test.YtkhabmbclepjpaaDq
namespace Go.Proofs.Ytkhabmbclepjpaa
open Go.RowKit

theorem rev32_xor (x y : Nat) : rev32 (x ^^^ y) = rev32 x ^^^ rev32 y := by
  apply Nat.eq_of_testBit_eq
  intro i
  rw [Nat.testBit_xor]
  by_cases h : i < 32
  · rw [rev32_bit _ _ h, rev32_bit _ _ h, rev32_bit _ _ h, Nat.testBit_xor]
  · have hh : ∀ z, (rev32 z).testBit i = false := fun z => Nat.testBit_lt_two_pow (Nat.lt_of_lt_of_le (rev32_lt z) (Nat.pow_le_pow_right (n := 2) (by omega) (by omega : 32 ≤ i)))
    rw [hh, hh, hh]
    rfl
theorem rev8_32 (b : Nat) (hb : b < 256) : rev8 b = rev32 (b * 16777216) :=
  (by decide +kernel : ∀ j : Fin 256, rev8 j.val = rev32 (j.val * 16777216)) ⟨b, hb⟩
theorem r8_xor (x y : UInt8) : r8 (x ^^^ y) = r8 x ^^^ r8 y := by
  apply UInt8.toNat_inj.1
  rw [UInt8.toNat_xor, r8_nat, r8_nat, r8_nat, UInt8.toNat_xor, rev8_32 _ (Nat.xor_lt_two_pow (n := 8) x.toNat_lt y.toNat_lt), rev8_32 _ x.toNat_lt, rev8_32 _ y.toNat_lt, xor_times24, rev32_xor]
theorem map_zip (l : List UInt8) : ∀ m : List UInt8, (List.zipWith (· ^^^ ·) l m).map r8 = List.zipWith (· ^^^ ·) (l.map r8) (m.map r8) := by
  induction l with
  | nil => intro m; rfl
  | cons x l ih =>
    intro m
    cases m with
    | nil => rfl
    | cons y m =>
      show r8 (x ^^^ y) :: (List.zipWith (· ^^^ ·) l m).map r8 = (r8 x ^^^ r8 y) :: List.zipWith (· ^^^ ·) (l.map r8) (m.map r8)
      rw [r8_xor, ih]
theorem fold_three (a b c : List UInt8) (h1 : a.length = b.length) (h2 : a.length = c.length) :
    crcFold 4294967295 (List.zipWith (· ^^^ ·) (List.zipWith (· ^^^ ·) a b) c) = crcFold 4294967295 a ^^^ crcFold 4294967295 b ^^^ crcFold 4294967295 c := by
  have e : (4294967295 : Nat) = (4294967295 ^^^ 4294967295) ^^^ 4294967295 := by decide
  have hz : (List.zipWith (· ^^^ ·) a b).length = c.length := by rw [List.length_zipWith]; omega
  rw [← crcFold_xor a b _ _ h1 (by decide) (by decide), ← crcFold_xor _ c _ _ hz (by decide) (by decide)]
  rfl
theorem ones_three (x y z : Nat) (hx : x < 4294967296) (hy : y < 4294967296) (hz : z < 4294967296) : 4294967295 - (x ^^^ y ^^^ z) = (4294967295 - x) ^^^ (4294967295 - y) ^^^ (4294967295 - z) := by
  have hxy : x ^^^ y < 4294967296 := Nat.xor_lt_two_pow (n := 32) hx hy
  rw [← xor_ones _ hx, ← xor_ones _ hy, ← xor_ones _ hz, ← xor_ones _ (Nat.xor_lt_two_pow (n := 32) hxy hz)]
  apply Nat.eq_of_testBit_eq
  intro i
  simp only [Nat.testBit_xor]
  cases Nat.testBit 4294967295 i <;> cases x.testBit i <;> cases y.testBit i <;> cases z.testBit i <;> rfl
/-- What Bzip answers, by the register. -/
def bzipF (l : List UInt8) : Nat := 4294967295 - crcFold 4294967295 l
theorem bzipF_lt (l : List UInt8) : bzipF l < 4294967296 := by unfold bzipF; omega
theorem ieeeF_lt (l : List UInt8) : ieeeF l < 4294967296 := rev32_lt _
theorem bzipF_three (a b c : List UInt8) (h1 : a.length = b.length) (h2 : a.length = c.length) :
    bzipF (List.zipWith (· ^^^ ·) (List.zipWith (· ^^^ ·) a b) c) = bzipF a ^^^ bzipF b ^^^ bzipF c := by
  unfold bzipF
  rw [fold_three a b c h1 h2, ones_three _ _ _ (crcFold_lt _ _ (by decide)) (crcFold_lt _ _ (by decide)) (crcFold_lt _ _ (by decide))]
theorem ieeeF_three (a b c : List UInt8) (h1 : a.length = b.length) (h2 : a.length = c.length) :
    ieeeF (List.zipWith (· ^^^ ·) (List.zipWith (· ^^^ ·) a b) c) = ieeeF a ^^^ ieeeF b ^^^ ieeeF c := by
  unfold ieeeF
  rw [map_zip, map_zip, fold_three _ _ _ (by simpa using h1) (by simpa using h2), ones_three _ _ _ (crcFold_lt _ _ (by decide)) (crcFold_lt _ _ (by decide)) (crcFold_lt _ _ (by decide)), rev32_xor, rev32_xor]

end Go.Proofs.Ytkhabmbclepjpaa
