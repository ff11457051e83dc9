/- Helpers of the laws over lists of ints: rows that read as lists, calls that only make memory. No conditions. -/
import Derived.Test.YtelgmihemnidkaaK
namespace Go.Proofs.Ytelgmihemnidkaa
open Go.RowKit

theorem step_of_below {w w' : World} (h : Below w.heap.size w w') : Step w.heap.size [] [] w w' :=
  ⟨h, fun k _ _ _ hh _ _ => (h.block k (Array.getElem?_eq_some_iff.1 hh).1).trans hh⟩

theorem IsW.c0 {B : Nat} {w : World} {p : Nat} {v : Value} {L : List Nat} (h : IsW B w p v L) : w.cell? ⟨p, 0, none⟩ = some (.bool true) := blk_cell h.blk 0
theorem IsW.c2 {B : Nat} {w : World} {p : Nat} {v : Value} {L : List Nat} (h : IsW B w p v L) : w.cell? ⟨p, 2, none⟩ = some (.int .i64 L.length) := blk_cell h.blk 2
theorem IsR.c0 {B : Nat} {w : World} {p : Nat} {s : ByteArray} {n : Nat} (h : IsR B w p s n) : w.cell? ⟨p, 0, none⟩ = some (.bool true) := blk_cell h.blk 0
theorem IsR.c1 {B : Nat} {w : World} {p : Nat} {s : ByteArray} {n : Nat} (h : IsR B w p s n) : w.cell? ⟨p, 1, none⟩ = some (.string s) := blk_cell h.blk 1
theorem IsR.c2 {B : Nat} {w : World} {p : Nat} {s : ByteArray} {n : Nat} (h : IsR B w p s n) : w.cell? ⟨p, 2, none⟩ = some (.int .i64 n) := blk_cell h.blk 2
theorem lenW {B : Nat} {w : World} {p : Nat} {v : Value} {L : List Nat} (h : IsW B w p v L) : Calls Try.prog 14 #[.pointer (some ⟨p, 0, none⟩)] w fun e w' => e = .returned (.int .i64 L.length) ∧ w = w' :=
  wlen_yes w p _ h.c0 h.c2
theorem atR {B : Nat} {w : World} {p : Nat} {s : ByteArray} {n : Nat} (h : IsR B w p s n) : Calls Try.prog 23 #[.pointer (some ⟨p, 0, none⟩)] w fun e w' => e = .returned (.int .i64 n) ∧ w = w' :=
  rat_yes w p _ h.c0 h.c2
theorem leftR {B : Nat} {w : World} {p : Nat} {s : ByteArray} {n : Nat} (h : IsR B w p s n) (hn : n ≤ 8 * s.size) (hs : s.size ≤ 281474976710656) : Calls Try.prog 24 #[.pointer (some ⟨p, 0, none⟩)] w fun e w' => e = .returned (.int .i64 (8 * s.size - n)) ∧ ∃ k, w' = w.drewN k :=
  rleft_yes w p s n hn hs h.c0 h.c1 h.c2

theorem ints_of_own {w : World} {B n cap : Nat} {A : Option Addr} {L : List Nat} (h : w.ownsRow B 3 1 (.slice A n cap) n (L.map iv)) : IntsIn w A n L := by
  have hl := h.1
  rw [List.length_map, Nat.mul_one] at hl
  refine ⟨hl, fun hn => ?_⟩
  obtain ⟨A', cap', hv, _, _, hg⟩ := own_slice h
  simp only [Value.slice.injEq] at hv
  obtain ⟨rfl, _, rfl⟩ := hv
  obtain ⟨g, rfl⟩ := hg hn
  refine ⟨g, 0, rfl, fun i hi => ?_⟩
  rw [Nat.zero_add, h.cellAt i (by omega), List.getElem?_map, List.getD_eq_getElem?_getD, List.getElem?_eq_getElem (by omega)]
  rfl

theorem rbits_bad (w : World) (x : Nat) (k : Int) (hx : x < 2 ^ 64) (h : BadPut x k) :
    Calls Try.prog 12 #[.int .u64 x, .int .i64 k] w fun e w' => ∃ A n c, e = .returned (.tuple #[.slice A n c, .bool false]) ∧ Below w.heap.size w w' := by
  by_cases hk : k < 0 ∨ 64 < k
  · exact (rbits_arg w x k hk).mono fun e w' ⟨he, hw⟩ => ⟨none, 0, 0, he, hw ▸ Below.refl _ _⟩
  · rcases h with h | h
    · exact absurd h hk
    · have hk0 : 0 ≤ k := by omega
      obtain ⟨m, rfl⟩ := Int.eq_ofNat_of_zero_le hk0
      rw [Int.toNat_natCast] at h
      refine (rbits_any w x m hx (by omega)).mono ?_
      rintro e w' ⟨g, cap, he, _, hb⟩
      have hd : decide (x < 2 ^ m) = false := by rw [decide_eq_false_iff_not]; omega
      rw [hd] at he
      exact ⟨_, _, _, he, hb⟩

theorem rbits_good (w : World) (x m : Nat) (hm : m ≤ 64) (hx : x < 2 ^ m) :
    Calls Try.prog 12 #[.int .u64 x, .int .i64 m] w fun e w' => ∃ g cap, e = .returned (.tuple #[.slice (some ⟨g, 0, none⟩) m cap, .bool true]) ∧ w'.ownsRow w.heap.size 3 1 (.slice (some ⟨g, 0, none⟩) m cap) m ((bitsN x m).map iv) ∧ Below w.heap.size w w' := by
  refine (rbits_any w x m (Nat.lt_of_lt_of_le hx (Nat.pow_le_pow_right (by omega) hm)) hm).mono ?_
  rintro e w' ⟨g, cap, he, ho, hb⟩
  have hd : decide (x < 2 ^ m) = true := by rw [decide_eq_true_iff]; exact hx
  rw [hd] at he
  exact ⟨g, cap, he, ho, hb⟩

end Go.Proofs.Ytelgmihemnidkaa
