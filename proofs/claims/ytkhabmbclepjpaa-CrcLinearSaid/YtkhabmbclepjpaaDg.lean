/- A byte's bits and a word's turned round, walked. -/
import Derived.Test.YtkhabmbclepjpaaDf
namespace Go.Proofs.Ytkhabmbclepjpaa
open Go.RowKit

def rev8 (b : Nat) : Nat := val (bitsN b 8).reverse
theorem table_any (T : ByteArray) (h : T.data.toList.map UInt8.toNat = (List.range 256).map rev8) (b : Nat) (hb : b < T.size) (hb2 : b < 256) : T[b].toNat = rev8 b := by
  have h1 : (T.data.toList.map UInt8.toNat)[b]? = some (T[b].toNat) := by
    have hjl : b < T.data.toList.length := by simpa using hb
    rw [List.getElem?_map, List.getElem?_eq_getElem hjl]
    rfl
  rw [h, List.getElem?_map, List.getElem?_range hb2] at h1
  exact (Option.some.inj h1).symm

set_option maxRecDepth 1000000 in
theorem reverse8_any (w : World) (b : Nat) (hb : b < 256) :
    Calls Try.prog 25 #[.int .u8 b] w fun e w' => e = .returned (.int .u8 (rev8 b)) ∧ w = w' := by
  go_enter Try.func25, Try.ntmps25
  go_wp2
  go_ret
  refine ⟨?_, rfl⟩
  refine congrArg (fun n : Nat => Ending.returned (.int .u8 n)) (table_any _ ?_ b ?_ hb)
  · decide +kernel
  · exact hb

theorem code1 (x : Nat) (hx : x < 4294967296) : bits .or .u32 (bits .and .u32 ((x : Int) / 2) 1431655765) (bits .and .u32 (x : Int) 1431655765 * 2 % 4294967296) = ((swapK 1 1431655765 x : Nat) : Int) := by
  have h1 : bits .and .u32 ((x : Int) / 2) 1431655765 = ((x / 2 &&& 1431655765 : Nat) : Int) := by
    rw [show ((x : Int) / 2) = ((x / 2 : Nat) : Int) by omega]
    exact u32_and_nat (x / 2) 1431655765 (by omega) (by omega)
  have h2 : bits .and .u32 (x : Int) 1431655765 = ((x &&& 1431655765 : Nat) : Int) := u32_and_nat x 1431655765 hx (by omega)
  have h3 : x &&& 1431655765 ≤ 1431655765 := Nat.and_le_right
  have h4 : x / 2 &&& 1431655765 ≤ 1431655765 := Nat.and_le_right
  rw [h1, h2, show (((x &&& 1431655765 : Nat) : Int) * 2 % 4294967296) = (((x &&& 1431655765) * 2 : Nat) : Int) by omega, u32_or_nat _ _ (by omega) (by omega)]
  rfl
theorem code2 (x : Nat) (hx : x < 4294967296) : bits .or .u32 (bits .and .u32 ((x : Int) / 4) 858993459) (bits .and .u32 (x : Int) 858993459 * 4 % 4294967296) = ((swapK 2 858993459 x : Nat) : Int) := by
  have h1 : bits .and .u32 ((x : Int) / 4) 858993459 = ((x / 4 &&& 858993459 : Nat) : Int) := by
    rw [show ((x : Int) / 4) = ((x / 4 : Nat) : Int) by omega]
    exact u32_and_nat (x / 4) 858993459 (by omega) (by omega)
  have h2 : bits .and .u32 (x : Int) 858993459 = ((x &&& 858993459 : Nat) : Int) := u32_and_nat x 858993459 hx (by omega)
  have h3 : x &&& 858993459 ≤ 858993459 := Nat.and_le_right
  have h4 : x / 4 &&& 858993459 ≤ 858993459 := Nat.and_le_right
  rw [h1, h2, show (((x &&& 858993459 : Nat) : Int) * 4 % 4294967296) = (((x &&& 858993459) * 4 : Nat) : Int) by omega, u32_or_nat _ _ (by omega) (by omega)]
  rfl
theorem code4 (x : Nat) (hx : x < 4294967296) : bits .or .u32 (bits .and .u32 ((x : Int) / 16) 252645135) (bits .and .u32 (x : Int) 252645135 * 16 % 4294967296) = ((swapK 4 252645135 x : Nat) : Int) := by
  have h1 : bits .and .u32 ((x : Int) / 16) 252645135 = ((x / 16 &&& 252645135 : Nat) : Int) := by
    rw [show ((x : Int) / 16) = ((x / 16 : Nat) : Int) by omega]
    exact u32_and_nat (x / 16) 252645135 (by omega) (by omega)
  have h2 : bits .and .u32 (x : Int) 252645135 = ((x &&& 252645135 : Nat) : Int) := u32_and_nat x 252645135 hx (by omega)
  have h3 : x &&& 252645135 ≤ 252645135 := Nat.and_le_right
  have h4 : x / 16 &&& 252645135 ≤ 252645135 := Nat.and_le_right
  rw [h1, h2, show (((x &&& 252645135 : Nat) : Int) * 16 % 4294967296) = (((x &&& 252645135) * 16 : Nat) : Int) by omega, u32_or_nat _ _ (by omega) (by omega)]
  rfl
theorem code8 (x : Nat) (hx : x < 4294967296) : bits .or .u32 (bits .and .u32 ((x : Int) / 256) 16711935) (bits .and .u32 (x : Int) 16711935 * 256 % 4294967296) = ((swapK 8 16711935 x : Nat) : Int) := by
  have h1 : bits .and .u32 ((x : Int) / 256) 16711935 = ((x / 256 &&& 16711935 : Nat) : Int) := by
    rw [show ((x : Int) / 256) = ((x / 256 : Nat) : Int) by omega]
    exact u32_and_nat (x / 256) 16711935 (by omega) (by omega)
  have h2 : bits .and .u32 (x : Int) 16711935 = ((x &&& 16711935 : Nat) : Int) := u32_and_nat x 16711935 hx (by omega)
  have h3 : x &&& 16711935 ≤ 16711935 := Nat.and_le_right
  have h4 : x / 256 &&& 16711935 ≤ 16711935 := Nat.and_le_right
  rw [h1, h2, show (((x &&& 16711935 : Nat) : Int) * 256 % 4294967296) = (((x &&& 16711935) * 256 : Nat) : Int) by omega, u32_or_nat _ _ (by omega) (by omega)]
  rfl
theorem codeH (x : Nat) (hx : x < 4294967296) : bits .or .u32 ((x : Int) / 65536) ((x : Int) * 65536 % 4294967296) = ((swapH x : Nat) : Int) := by
  rw [show ((x : Int) / 65536) = ((x / 65536 : Nat) : Int) by omega, show ((x : Int) * 65536 % 4294967296) = ((x * 65536 % 4294967296 : Nat) : Int) by omega, u32_or_nat _ _ (by omega) (by omega)]
  rfl

theorem revbytes_any (w : World) (x : Nat) (hx : x < 4294967296) :
    Calls Try.prog 32 #[.int .u32 x] w fun e w' => e = .returned (.int .u32 (swapH (swapK 8 16711935 x))) ∧ w = w' := by
  have h1 := code8 x hx
  have hl := swapK_lt 8 16711935 x (by decide) (by decide)
  have h2 := codeH _ hl
  generalize hY : swapK 8 16711935 x = y at *
  generalize hZ : swapH y = z at *
  have HY := Lib.hid hY
  have HZ := Lib.hid hZ
  clear hY hZ
  go_enter Try.func32, Try.ntmps32
  go_wp2
  go_ret
  exact ⟨rfl, rfl⟩

theorem reverse32_any (w : World) (x : Nat) (hx : x < 4294967296) :
    Calls Try.prog 26 #[.int .u32 x] w fun e w' => e = .returned (.int .u32 (rev32 x)) ∧ w = w' := by
  have h1 := code1 x hx
  have hl1 := swapK_lt 1 1431655765 x (by decide) (by decide)
  have h2 := code2 _ hl1
  have hl2 := swapK_lt 2 858993459 (swapK 1 1431655765 x) (by decide) (by decide)
  have h3 := code4 _ hl2
  have hl3 := swapK_lt 4 252645135 (swapK 2 858993459 (swapK 1 1431655765 x)) (by decide) (by decide)
  have hR := Lib.hid (revbytes_any w _ hl3)
  have hE : rev32 x = swapH (swapK 8 16711935 (swapK 4 252645135 (swapK 2 858993459 (swapK 1 1431655765 x)))) := rfl
  rw [hE]
  clear hE
  generalize swapK 1 1431655765 x = y1 at *
  generalize swapK 2 858993459 y1 = y2 at *
  generalize swapK 4 252645135 y2 = y3 at *
  generalize swapH (swapK 8 16711935 y3) = z at *
  go_enter Try.func26, Try.ntmps26
  go_wp2_with (refine hR.out.mono ?_)
  rintro e w1 ⟨rfl, rfl⟩
  go_wp2
  go_ret
  exact ⟨rfl, rfl⟩

end Go.Proofs.Ytkhabmbclepjpaa
