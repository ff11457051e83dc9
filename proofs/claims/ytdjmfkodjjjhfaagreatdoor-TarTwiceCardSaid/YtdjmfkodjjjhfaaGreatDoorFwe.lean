/- strings.Repeat, strconv.Itoa, laid at this program; fields.Octal, Digits. Conditions: the tables are there. -/
import Derived.Test.YtdjmfkodjjjhfaaGreatDoorFwd
import Derived.Test.YtdjmfkodjjjhfaaGreatDoorSa
import Derived.Test.YtdjmfkodjjjhfaaGreatDoorLx
namespace Go.Proofs.YtdjmfkodjjjhfaaGreatDoor
open Go.Shelf Go.RowKit

set_option maxRecDepth 100000 in
theorem Tryz.extra : Builder.Extra Tryz.prog Tryz.laysRepeat_ren where
  sizeBuilder := by kernel_rfl
  liesBuilder := by kernel_rfl
  t5 := Tryz.laysRepeat.t5
  a5 := Tryz.laysRepeat.a5
  z5 := Tryz.laysRepeat.z5
  v5 := Tryz.laysRepeat.v5
  infoByte := by kernel_rfl
  cellsByte := by kernel_rfl
  sizeByte := by kernel_rfl
  neB5 := by decide
set_option maxRecDepth 100000 in
theorem Tryz.fRepeat : Tryz.laysRepeat_ren.f 105 = 43 := by kernel_rfl
set_option maxRecDepth 100000 in
theorem Tryz.fItoa : Tryz.laysItoa_ren.f 171 = 124 := by kernel_rfl
theorem repeat_byte (w : World) (x : UInt8) (c : Nat) (hc : c ≤ 140737488355328) :
    Calls Tryz.prog 43 #[.string ⟨#[x]⟩, .int .i64 c] w fun e w' => e = .returned (.string (strF (List.replicate c x))) ∧ Below w.heap.size w w' := by
  have h := Any.strings_Repeat Tryz.laysRepeat Tryz.extra ⟨#[x]⟩ c w (by omega) (by show 1 * c ≤ _; omega)
  rw [Tryz.fRepeat] at h
  have e : Lib.repeatL (⟨#[x]⟩ : ByteArray).data.toList c = List.replicate c x := by
    have h2 := Lib.repeatL_replicate x 1 c
    rw [Nat.mul_one] at h2
    exact h2
  rw [e] at h
  exact h
set_option maxRecDepth 100000 in
theorem below_grow (w : World) (k : Nat) (os : Array Obj) : Below w.heap.size w (Sort.grow (w.drewN k) os) :=
  ⟨rfl, rfl, rfl, by simp [Sort.grow], fun j hj => by simp [Sort.grow, Array.getElem?_append, hj]⟩
theorem itoa_any (w : World) (hT : Tabs w) (n : Int) (h0 : -9223372036854775808 ≤ n) (h1 : n ≤ 9223372036854775807) :
    Calls Tryz.prog 124 #[.int .i64 n] w fun e w' => e = .returned (.string ⟨(Lib.itoa n).toArray⟩) ∧ Below w.heap.size w w' := by
  have h := Any.strconv_Itoa Tryz.laysItoa n h0 h1 w hT.1
  rw [Tryz.fItoa] at h
  refine h.mono ?_
  rintro e w' ⟨rfl, k, os, rfl⟩
  exact ⟨rfl, below_grow w k os⟩
theorem octL_pad (n : Nat) : ∀ (k d : Nat), n < 8 ^ d → List.replicate k 48 ++ octL d n = octL (k + d) n
  | 0, d, _ => by rw [Nat.zero_add]; rfl
  | k + 1, d, h => by
    rw [List.replicate_succ, List.cons_append, octL_pad n k d h, show k + 1 + d = (k + d) + 1 by omega, octL]
    congr 1
    have h2 : n < 8 ^ (k + d) := Nat.lt_of_lt_of_le h (Nat.pow_le_pow_right (by decide) (by omega))
    rw [show ((n : Int) / 8 ^ (k + d) % 8) = ((n / 8 ^ (k + d) % 8 : Nat) : Int) from by rw [Int.natCast_emod, Int.natCast_ediv, Int.natCast_pow]; rfl, Nat.div_eq_of_lt h2]
    rfl
theorem two_eight (r : Nat) : (2 : Int) ^ (3 * r) = ((8 ^ r : Nat) : Int) := by
  rw [Int.pow_mul, Int.natCast_pow]
  rfl
set_option maxHeartbeats 1600000 in
set_option maxRecDepth 100000 in
theorem coctal_some (w : World) (hT : Tabs w) (n r : Nat) (hr : 1 ≤ r) (hr2 : r ≤ 19) (hn : n < 8 ^ r) : Calls Tryz.prog 88 #[.int .i64 n, .int .i64 ((r + 1 : Nat) : Int)] w fun e w' => e = .returned (.tuple #[.string (strF (octL r n ++ [0])), .int .i64 0]) ∧ Below w.heap.size w w' := by
  obtain ⟨v, hv⟩ : ∃ v, v = r + 1 := ⟨_, rfl⟩
  rw [← hv]
  have d0 : decide ((v : Int) < 2) = false := decide_eq_false (by omega)
  have d1 : decide ((20 : Int) < (v : Int)) = false := decide_eq_false (by omega)
  have d2 : decide ((n : Int) < 0) = false := decide_eq_false (by omega)
  have hvr : (v : Int) - 1 = (r : Int) := by omega
  have d3 : ((n : Int) / 2 ^ (3 * r) != 0) = false := by
    rw [two_eight, ← Int.natCast_ediv, Nat.div_eq_of_lt hn]
    rfl
  have HN := Lib.hid hn
  have HI := Lib.hid (fmt8_any w n (Nat.lt_of_lt_of_le hn (Nat.pow_le_pow_right (by decide) (by omega : r ≤ 20))) hT)
  clear hv hn hT
  go_enter Tryz.func88, Tryz.ntmps88
  go_wp2_with fail
  refine HI.out.mono ?_
  rintro e w1 ⟨⟨d, h1, h2, h3, h4, rfl⟩, hb⟩
  have hdr : d ≤ r := Nat.le_of_not_lt fun h => by
    rcases h4 with h5 | h5
    · omega
    · have h6 : 8 ^ r ≤ 8 ^ (d - 1) := Nat.pow_le_pow_right (by decide) (by omega)
      have := HN.out
      omega
  obtain ⟨c, rfl⟩ : ∃ c, r = c + d := ⟨r - d, by omega⟩
  have HO := Lib.hid (octL_pad n c d h3)
  have hz : (strF (octL d n)).size = d := octL_length d n
  generalize octL d n = L at *
  have HR := Lib.hid (repeat_byte w1 48 c (by omega))
  have hcd : ((c + d : Nat) : Int) - (d : Int) = (c : Int) := by omega
  have HB := Lib.hid hb
  clear hb h3 h4
  go_wp2_with fail
  refine HR.out.mono ?_
  rintro e w2 ⟨rfl, hb⟩
  have HB2 := Lib.hid (HB.out.trans (hb.mono HB.out.size))
  have HS : Hid (strF (List.replicate c 48) ++ strF L ++ (⟨#[0]⟩ : ByteArray) = strF (octL (c + d) n ++ [0])) := Lib.hid (by rw [show (⟨#[0]⟩ : ByteArray) = strF [0] from rfl, strF_app, strF_app, HO.out])
  have hz1 : (strF (List.replicate c 48)).size = c := List.length_replicate
  clear hb
  generalize strF (List.replicate c 48) = T1 at *
  generalize strF L = T2 at *
  go_wp2_with fail
  go_ret2
  exact ⟨by rw [← HS.out]; rfl, HB2.out⟩
set_option maxHeartbeats 1600000 in
set_option maxRecDepth 100000 in
theorem coctal_any (w : World) (hT : Tabs w) (n width : Int) (hn1 : -9223372036854775808 ≤ n) (hn2 : n ≤ 9223372036854775807) (hw1 : -9223372036854775808 ≤ width) (hw2 : width ≤ 9223372036854775807) : Calls Tryz.prog 88 #[.int .i64 n, .int .i64 width] w fun e w' => e = .returned (.tuple #[.string (strF (octalA n width).1), .int .i64 (octalA n width).2]) ∧ Below w.heap.size w w' := by
  unfold octalA
  by_cases e1 : width < 2
  · rw [if_pos (.inl e1)]
    have d0 : decide (width < 2) = true := decide_eq_true e1
    clear hT
    go_enter Tryz.func88, Tryz.ntmps88
    go_wp2_with fail
    go_ret2
    exact ⟨rfl, Below.refl _ _⟩
  have d0 : decide (width < 2) = false := decide_eq_false e1
  by_cases e2 : 20 < width
  · rw [if_pos (.inr e2)]
    have d1 : decide (20 < width) = true := decide_eq_true e2
    clear hT
    go_enter Tryz.func88, Tryz.ntmps88
    go_wp2_with fail
    go_ret2
    exact ⟨rfl, Below.refl _ _⟩
  rw [if_neg (by omega)]
  obtain ⟨r, rfl⟩ : ∃ r : Nat, width = ((r + 1 : Nat) : Int) := ⟨width.toNat - 1, by omega⟩
  rw [show (((r + 1 : Nat) : Int)).toNat - 1 = r by omega]
  by_cases e3 : n < 0
  · have h1 : n / 8 ^ r ≠ 0 := Int.ne_of_lt (Int.ediv_neg_of_neg_of_pos e3 (Int.pow_pos (by decide)))
    rw [if_pos h1]
    have d1 : decide (20 < ((r + 1 : Nat) : Int)) = false := decide_eq_false e2
    have d2 : decide (n < 0) = true := decide_eq_true e3
    generalize ((r + 1 : Nat) : Int) = v at *
    clear hT h1
    go_enter Tryz.func88, Tryz.ntmps88
    go_wp2_with fail
    go_ret2
    exact ⟨rfl, Below.refl _ _⟩
  obtain ⟨m, rfl⟩ : ∃ m : Nat, n = m := ⟨n.toNat, by omega⟩
  by_cases e4 : m < 8 ^ r
  · have h1 : (m : Int) / 8 ^ r = 0 := by
      have h := Nat.div_eq_of_lt e4
      have h2 : (m : Int) / ((8 ^ r : Nat) : Int) = ((m / 8 ^ r : Nat) : Int) := (Int.natCast_ediv _ _).symm
      rw [h] at h2
      rw [Int.natCast_pow] at h2
      exact h2
    rw [if_neg (fun q => q h1)]
    exact coctal_some w hT m r (by omega) (by omega) e4
  · have h0 : m / 8 ^ r ≠ 0 := fun q => e4 (Nat.lt_of_div_eq_zero (Nat.pow_pos (by decide)) q)
    have h1 : (m : Int) / 8 ^ r ≠ 0 := fun q => by
      have h2 : (m : Int) / ((8 ^ r : Nat) : Int) = ((m / 8 ^ r : Nat) : Int) := (Int.natCast_ediv _ _).symm
      rw [Int.natCast_pow] at h2
      have h3 := h2.symm.trans q
      omega
    rw [if_pos h1]
    have d1 : decide (20 < ((r + 1 : Nat) : Int)) = false := decide_eq_false e2
    have d2 : decide ((m : Int) < 0) = false := decide_eq_false e3
    have d3 : ((m : Int) / 2 ^ (3 * r) != 0) = true := by
      rw [two_eight, ← Int.natCast_ediv]
      exact bne_iff_ne.2 (by omega)
    obtain ⟨v, hv⟩ : ∃ v, v = ((r + 1 : Nat) : Int) := ⟨_, rfl⟩
    have hvr : v - 1 = (r : Int) := by omega
    rw [← hv] at d0 d1 ⊢
    have hr : r ≤ 19 := by omega
    clear hT h1 h0 hv e1 e2 hw1 hw2
    go_enter Tryz.func88, Tryz.ntmps88
    go_wp2_with fail
    go_ret2
    exact ⟨rfl, Below.refl _ _⟩
end Go.Proofs.YtdjmfkodjjjhfaaGreatDoor
