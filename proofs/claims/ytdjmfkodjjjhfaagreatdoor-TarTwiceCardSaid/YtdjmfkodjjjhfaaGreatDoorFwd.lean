/- The library's tables, as the program's text lays them: they stay. -/
import Derived.Test.YtdjmfkodjjjhfaaGreatDoorSa
import Derived.Lib.LaidTab
import Derived.Lib.ItoaNum
namespace Go.Proofs.YtdjmfkodjjjhfaaGreatDoor
open Go.RowKit

/-- de Bruijn's table of 64. -/
def deb64 : List Int := [0, 1, 56, 2, 57, 49, 28, 3, 61, 58, 42, 50, 38, 29, 17, 4, 62, 47, 59, 36, 45, 43, 51, 22, 53, 39, 33, 30, 24, 18, 12, 5, 63, 55, 48, 27, 60, 41, 37, 16, 46, 35, 44, 21, 52, 32, 23, 11, 54, 26, 40, 15, 34, 20, 31, 10, 25, 14, 19, 9, 13, 8, 7, 6]
/-- The tables that numbers are told by are there. -/
def Tabs (w : World) : Prop := Lib.TabIs Tryz.prog w "internal/strconv.uint64pow10" .u64 Lib.pow10Tab ∧ Lib.TabIs Tryz.prog w "math/bits.deBruijn64tab" .u8 deb64
set_option maxRecDepth 100000 in
theorem tab_keep {w w' : World} {name : String} {k : IntKind} {zs : List Int} (h : Lib.TabIs Tryz.prog w name k zs) (hb : Below w.heap.size w w') : Lib.TabIs Tryz.prog w' name k zs := by
  unfold Lib.TabIs World.var? at *
  cases hg : Tryz.prog.globalNamed name with
  | none => simp [hg] at h
  | some g =>
    simp only [hg, Option.bind_some] at h ⊢
    cases hc : w.heap[g]? with
    | none => rw [hc] at h; cases h
    | some o =>
      have hlt : g < w.heap.size := (Array.getElem?_eq_some_iff.1 hc).1
      rw [hb.block g hlt]
      exact h
theorem Tabs.below {w w' : World} (h : Tabs w) (hb : Below w.heap.size w w') : Tabs w' := ⟨tab_keep h.1 hb, tab_keep h.2 hb⟩
theorem pow_data {H : Type} : (DataW.agg [.lit (.int .u64 1), .lit (.int .u64 10), .lit (.int .u64 100), .lit (.int .u64 1000), .lit (.int .u64 10000), .lit (.int .u64 100000), .lit (.int .u64 1000000), .lit (.int .u64 10000000), .lit (.int .u64 100000000), .lit (.int .u64 1000000000), .lit (.int .u64 10000000000), .lit (.int .u64 100000000000), .lit (.int .u64 1000000000000), .lit (.int .u64 10000000000000), .lit (.int .u64 100000000000000), .lit (.int .u64 1000000000000000), .lit (.int .u64 10000000000000000), .lit (.int .u64 100000000000000000), .lit (.int .u64 1000000000000000000), .lit (.int .u64 10000000000000000000)] : DataW H) = Lib.tabData .u64 Lib.pow10Tab := rfl
end Go.Proofs.YtdjmfkodjjjhfaaGreatDoor
/- strconv.FormatInt to the base 8. Conditions: a number from 0 on, below 8^20; de Bruijn's table is there. -/
namespace Go.Proofs.YtdjmfkodjjjhfaaGreatDoor
open Go.RowKit

set_option maxRecDepth 100000 in
theorem pow2_any (w : World) : Calls Tryz.prog 169 #[.int .i64 8] w fun e w' => e = .returned (.bool true) ∧ w' = w := by
  go_enter Tryz.func169, Tryz.ntmps169
  go_wp2_with fail
  go_ret
  exact ⟨rfl, rfl⟩

set_option maxRecDepth 100000 in
theorem tz64_any (w : World) (hT : Tabs w) : Calls Tryz.prog 172 #[.int .u64 8] w fun e w' => e = .returned (.int .i64 3) ∧ w' = w := by
  have hc : w.cell? ⟨3, 7, none⟩ = some (.int .u8 3) := by
    rw [hT.2.cell (g := 3) (by kernel_rfl) 7 (by decide)]
    rfl
  have k1 : IntKind.u64.wrap (bits BinOp.and IntKind.u64 8 (IntKind.u64.wrap (-8)) * 285870213051353865) / 288230376151711744 = 7 := by decide +kernel
  clear hT
  go_enter Tryz.func172, Tryz.ntmps172
  go_wp2_with fail
  go_ret
  exact ⟨rfl, rfl⟩

set_option maxRecDepth 100000 in
theorem tz_any (w : World) (hT : Tabs w) : Calls Tryz.prog 170 #[.int .u64 8] w fun e w' => e = .returned (.int .i64 3) ∧ w' = w := by
  have HI := Lib.hid (tz64_any w hT)
  clear hT
  go_enter Tryz.func170, Tryz.ntmps170
  go_wp2_with fail
  refine HI.out.mono ?_
  rintro e w ⟨rfl, rfl⟩
  go_wp2_with fail
  go_ret
  exact ⟨rfl, rfl⟩
end Go.Proofs.YtdjmfkodjjjhfaaGreatDoor
/- internal/strconv.formatBits and strconv.FormatInt to the base 8. Conditions: a number below 8^20; de Bruijn's table is there. -/
namespace Go.Proofs.YtdjmfkodjjjhfaaGreatDoor
open Go.RowKit

/-- Behind place i stand a number's last digits. -/
def DigB (w : World) (g i n : Nat) : Prop := ∃ cs : Array Value, Blk w g 195 cs ∧ cs.size = 65 ∧ ∀ j, i ≤ j → j < 65 → cs[j]? = some (.int .u8 ((48 + n / 8 ^ (64 - j) % 8 : Nat) : Int))
theorem digB_set {w : World} {g i n x : Nat} (h : DigB w g (i + 1) n) (hx : x = 48 + n / 8 ^ (64 - i) % 8) : DigB (w.setCell ⟨g, i, none⟩ (.int .u8 x)) g i n := by
  obtain ⟨cs, hb, hs, hd⟩ := h
  refine ⟨cs.setIfInBounds i (.int .u8 x), blk_set hb i _, by rw [Array.size_setIfInBounds, hs], fun j h1 h2 => ?_⟩
  rw [Array.getElem?_setIfInBounds]
  by_cases e : i = j
  · subst e
    rw [if_pos rfl, if_pos (by omega), hx]
  · rw [if_neg e]
    exact hd j (by omega) h2
theorem digB_new (w : World) (n : Nat) (cs : Array Value) (hs : cs.size = 65) : DigB (w.alloc (.cells cs 195)) w.heap.size 65 n := ⟨cs, blk_new w _ _, hs, fun j h1 h2 => by omega⟩
theorem digB_lt {w : World} {g i n : Nat} (h : DigB w g i n) : g < w.heap.size := by
  obtain ⟨cs, hb, _⟩ := h
  exact blk_lt hb
theorem digB_frozen {w : World} {g i n : Nat} (h : DigB w g i n) (j : Nat) : w.frozen? ⟨g, j, none⟩ = false := by
  obtain ⟨cs, hb, _⟩ := h
  exact blk_frozen hb j
theorem digB_some {w : World} {g i n : Nat} (h : DigB w g i n) (j : Nat) (hj : j < 65) : ∃ v, w.cell? ⟨g, j, none⟩ = some v := by
  obtain ⟨cs, hb, hs, _⟩ := h
  exact ⟨cs[j], by rw [blk_cell hb j, Array.getElem?_eq_getElem]⟩
set_option maxRecDepth 100000 in
theorem digit_at (d : Nat) (h : d < 8) (h2 : d < (⟨#[48, 49, 50, 51, 52, 53, 54, 55, 56, 57, 97, 98, 99, 100, 101, 102, 103, 104, 105, 106, 107, 108, 109, 110, 111, 112, 113, 114, 115, 116, 117, 118, 119, 120, 121, 122]⟩ : ByteArray).size) :
    ((⟨#[48, 49, 50, 51, 52, 53, 54, 55, 56, 57, 97, 98, 99, 100, 101, 102, 103, 104, 105, 106, 107, 108, 109, 110, 111, 112, 113, 114, 115, 116, 117, 118, 119, 120, 121, 122]⟩ : ByteArray)[d]'h2).toNat = 48 + d := by
  have : d = 0 ∨ d = 1 ∨ d = 2 ∨ d = 3 ∨ d = 4 ∨ d = 5 ∨ d = 6 ∨ d = 7 := by omega
  rcases this with rfl | rfl | rfl | rfl | rfl | rfl | rfl | rfl <;> rfl
theorem and7 (u : Nat) (_ : u < 18446744073709551616) : bits BinOp.and IntKind.u64 (u : Int) 7 = ((u % 8 : Nat) : Int) := by
  show IntKind.u64.wrap ((BitVec.ofInt 64 (u : Int) &&& BitVec.ofInt 64 7).toNat : Int) = _
  rw [BitVec.toNat_and, show (BitVec.ofInt 64 7).toNat = 7 from rfl, nat_mask3, BitVec.toNat_ofInt, IntKind.wrap_u64]
  omega

theorem octL_nat (n : Nat) : ∀ (d j : Nat) (h : j < (octL d n).length), ((octL d n)[j]'h).toNat = 48 + n / 8 ^ (d - 1 - j) % 8
  | 0, j, h => by cases h
  | d + 1, j, h => by
    cases j with
    | zero =>
      show (dig8 ((n : Int) / 8 ^ d % 8).toNat).toNat = _
      rw [show ((n : Int) / 8 ^ d % 8) = ((n / 8 ^ d % 8 : Nat) : Int) from by rw [Int.natCast_emod, Int.natCast_ediv, Int.natCast_pow]; rfl, Int.toNat_natCast, Nat.add_sub_cancel, Nat.sub_zero, dig8, UInt8.toNat_ofNat']
      omega
    | succ j =>
      show ((octL d n)[j]'_).toNat = _
      rw [octL_nat n d j, show d + 1 - 1 - (j + 1) = d - 1 - j by omega]
theorem conv_dig {w : World} {g i n d : Nat} (h : DigB w g i n) (hd : i + d = 65) : (convert 80 9 (.slice (some ⟨g, i, none⟩) (65 - i) (65 - i))).run Tryz.prog w = .ok (.string (strF (octL d n))) w := by
  obtain ⟨cs, hb, hs, hc⟩ := h
  have e : 65 - i = (octL d n).length := by rw [octL_length]; omega
  rw [e]
  refine run_convert_bytes_back w 80 9 5 ⟨g, i, none⟩ _ (octL d n) Tryz.underlying80 Tryz.underlying5 Tryz.underlying9 fun j hj => ?_
  rw [Addr.add_lit, blk_cell hb, hc (i + j) (by omega) (by rw [octL_length] at hj; omega), octL_nat n d j hj]
  rw [octL_length] at hj
  rw [show 64 - (i + j) = d - 1 - j by omega]

set_option maxHeartbeats 1600000 in
set_option maxRecDepth 100000 in
theorem fbits_any (w : World) (n : Nat) (hn : n < 1152921504606846976) (hT : Tabs w) : Calls Tryz.prog 162 #[.slice none 0 0, .int .u64 n, .int .i64 8, .bool false, .bool false] w fun e w' => (∃ d, 1 ≤ d ∧ d ≤ 20 ∧ n < 8 ^ d ∧ (d = 1 ∨ 8 ^ (d - 1) ≤ n) ∧ e = .returned (.tuple #[.slice none 0 0, .string (strF (octL d n))])) ∧ Below w.heap.size w w' := by
  have HP := Lib.hid fun wx => pow2_any wx
  have HT : Hid (∀ wx : World, Below w.heap.size w wx → Tabs wx) := Lib.hid fun wx hb => hT.below hb
  clear hT
  go_enter Tryz.func162, Tryz.ntmps162
  go_wp2_with fail
  have HB : Hid (Below w.heap.size w (w.alloc (Obj.cells Tryz.zeroCells195 195))) := Lib.hid ((Below.refl _ w).alloc (Nat.le_refl _) _)
  have HDB : Hid (DigB (w.alloc (Obj.cells Tryz.zeroCells195 195)) w.heap.size 65 n) := Lib.hid (digB_new w n _ (by kernel_rfl))
  have HT3 := Lib.hid (tz_any _ (HT.out _ HB.out))
  obtain ⟨g, hg⟩ : ∃ g, g = w.heap.size := ⟨_, rfl⟩
  generalize w.alloc (Obj.cells Tryz.zeroCells195 195) = w1 at *
  rw [← hg] at HDB ⊢
  have HG := Lib.hid hg
  clear hg HT
  refine (HP.out w1).mono ?_
  rintro e w1' ⟨rfl, rfl⟩
  go_wp2_with fail
  refine HT3.out.mono ?_
  rintro e w1' ⟨rfl, rfl⟩
  go_wp2_with fail
  clear HP HT3
  go_loopw [1, 13] (fun su si wx => ∃ k u i : Nat, su = .int .u64 u ∧ si = .int .i64 i ∧ Hid (u = n / 8 ^ k) ∧ i + k = 65 ∧ k ≤ 19 ∧ Hid (k = 0 ∨ 8 ^ k ≤ n) ∧ Hid (DigB wx g i n) ∧ Hid (Below w.heap.size w wx)) (fun su _ _ => (intOf su).toNat)
  case atStart => exact ⟨0, n, 65, rfl, rfl, Lib.hid (by simp), rfl, by omega, Lib.hid (.inl rfl), HDB, HB⟩
  case round =>
    obtain ⟨k, u, i, rfl, rfl, HU, hik, hk, HK, HD, HBW⟩ := hrel
    have hub : u < 1152921504606846976 := by rw [HU.out]; exact Nat.lt_of_le_of_lt (Nat.div_le_self _ _) hn
    have hu8 : u / 8 = n / 8 ^ (k + 1) := by rw [HU.out, Nat.div_div_eq_div_mul, ← Nat.pow_succ]
    obtain ⟨i1, hi1⟩ : ∃ i1, i1 + 1 = i := ⟨i - 1, by omega⟩
    have h64 : 64 - i1 = k := by omega
    have hii : (i : Int) - 1 = (i1 : Int) := by omega
    have hi64 : i1 < 65 := by omega
    obtain ⟨v0, hc0⟩ := digB_some HD.out i1 hi64
    have hf0 := digB_frozen HD.out i1
    have hi1z : (i1 : Int) < 65 := by omega
    have hx : 48 + u % 8 = 48 + n / 8 ^ (64 - i1) % 8 := by rw [h64, ← HU.out]
    have HX := Lib.hid hx
    rw [← hi1] at HD
    have HGN := Lib.hid (show w.heap.size ≤ g by rw [HG.out]; exact Nat.le_refl _)
    have HU8 := Lib.hid hu8
    have HIK := Lib.hid (show i1 + (k + 1) = 65 by omega)
    clear hu8 hi1 h64 hx
    by_cases e : 8 ≤ u
    · have d0 : decide ((8 : Int) ≤ (u : Int)) = true := decide_eq_true (by omega)
      have hand := and7 u (by omega)
      have HK1 := Lib.hid (show 8 ^ (k + 1) ≤ n by
        have h1 : 8 * 8 ^ k ≤ n / 8 ^ k * 8 ^ k := Nat.mul_le_mul_right _ (by rw [← HU.out]; exact e)
        have h2 := Nat.div_mul_le_self n (8 ^ k)
        rw [Nat.pow_succ, Nat.mul_comm]
        exact Nat.le_trans h1 h2)
      have HK2 := Lib.hid (show k + 1 ≤ 19 from Nat.le_of_not_lt fun h => by
        have h3 : 8 ^ 20 ≤ 8 ^ (k + 1) := Nat.pow_le_pow_right (by decide) h
        have h4 := Nat.le_trans h3 HK1.out
        omega)
      go_wp2_with fail
      go_roundw
      case rel => exact ⟨k + 1, u / 8, i1, by go_num, rfl, HU8, HIK.out, HK2.out, Lib.hid (.inr HK1.out), Lib.hid (digB_set HD.out (by rw [digit_at _ (by omega) _]; exact HX.out)), Lib.hid (HBW.out.setCell (p := ⟨g, i1, none⟩) HGN.out _)⟩
      case measure => simp [intOf]; omega
    · have d0 : decide ((8 : Int) ≤ (u : Int)) = false := decide_eq_false (by omega)
      have HE := Lib.hid e
      have hul : (u : Int) < 36 := by omega
      have hx2 := digit_at u (by omega) (by show u < 36; omega)
      have HD3 : Hid (∀ x, x = 48 + u → DigB (wr.setCell ⟨g, i1, none⟩ (.int .u8 (x : Nat))) g i1 n) := Lib.hid fun x hx => digB_set HD.out (by rw [hx, ← HX.out, Nat.mod_eq_of_lt (by omega)])
      have HX2 := Lib.hid hx2
      have hal : Tryz.prog.arrayLen 195 = 65 := by kernel_rfl
      have hsl : ∀ W, (Instr.sliceAt 195 (.pointer (some ⟨g, 0, none⟩)) (some (.int .i64 (i1 : Int))) none none).run Tryz.prog W = .ok (.slice (some ⟨g, i1, none⟩) (65 - i1) (65 - i1)) W := fun W => by
        rw [run_sliceAt_array_l W 195 ⟨g, 0, none⟩ Tryz.underlying195 .i64 (i1 : Int) (by omega) (by rw [hal]; omega)]
        go_simp
        omega
      clear hx2 hal
      go_wp2_with fail
      have hcv := conv_dig (HD3.out _ HX2.out) HIK.out
      have HB5 := Lib.hid (HBW.out.setCell (p := ⟨g, i1, none⟩) HGN.out (.int .u8 ((48 + u : Nat) : Int)))
      rw [← HX2.out] at HB5
      rw [hcv]
      go_wp2_with fail
      go_ret2
      refine ⟨⟨k + 1, by omega, by omega, ?_, ?_, rfl⟩, HB5.out⟩
      · have h1 := HU.out
        have h2 : n / 8 ^ k < 8 := by rw [← h1]; exact Nat.lt_of_not_le HE.out
        have h3 := (Nat.div_lt_iff_lt_mul (Nat.pow_pos (by decide))).1 h2
        rw [Nat.pow_succ, Nat.mul_comm]
        exact h3
      · rcases HK.out with h | h
        · exact .inl (by rw [h])
        · exact .inr h

set_option maxHeartbeats 1600000 in
set_option maxRecDepth 100000 in
theorem ifmt_any (w : World) (n : Nat) (hn : n < 1152921504606846976) (hT : Tabs w) : Calls Tryz.prog 146 #[.int .i64 n, .int .i64 8] w fun e w' => (∃ d, 1 ≤ d ∧ d ≤ 20 ∧ n < 8 ^ d ∧ (d = 1 ∨ 8 ^ (d - 1) ≤ n) ∧ e = .returned (.string (strF (octL d n)))) ∧ Below w.heap.size w w' := by
  have HI := Lib.hid (fbits_any w n hn hT)
  have d0 : decide ((n : Int) < 0) = false := decide_eq_false (by omega)
  clear hT
  go_enter Tryz.func146, Tryz.ntmps146
  go_wp2_with fail
  refine HI.out.mono ?_
  rintro e w1 ⟨⟨d, h1, h2, h3, h4, rfl⟩, hb⟩
  have H3 := Lib.hid h3
  have H4 := Lib.hid h4
  have HB := Lib.hid hb
  clear hb h3 h4
  go_wp2_with fail
  go_ret
  exact ⟨⟨d, h1, h2, H3.out, H4.out, rfl⟩, HB.out⟩

set_option maxHeartbeats 1600000 in
set_option maxRecDepth 100000 in
theorem fmt8_any (w : World) (n : Nat) (hn : n < 1152921504606846976) (hT : Tabs w) : Calls Tryz.prog 120 #[.int .i64 n, .int .i64 8] w fun e w' => (∃ d, 1 ≤ d ∧ d ≤ 20 ∧ n < 8 ^ d ∧ (d = 1 ∨ 8 ^ (d - 1) ≤ n) ∧ e = .returned (.string (strF (octL d n)))) ∧ Below w.heap.size w w' := by
  have HI := Lib.hid (ifmt_any w n hn hT)
  clear hT
  go_enter Tryz.func120, Tryz.ntmps120
  go_wp2_with fail
  refine HI.out.mono ?_
  rintro e w1 ⟨⟨d, h1, h2, h3, h4, rfl⟩, hb⟩
  have H3 := Lib.hid h3
  have H4 := Lib.hid h4
  have HB := Lib.hid hb
  clear hb h3 h4
  go_wp2_with fail
  go_ret
  exact ⟨⟨d, h1, h2, H3.out, H4.out, rfl⟩, HB.out⟩
end Go.Proofs.YtdjmfkodjjjhfaaGreatDoor
