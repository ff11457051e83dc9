/- delta's closure that reads a step. Conditions: a text is no longer than 2^48 bytes. -/
import Derived.Test.YticigahhdhindaaDla
import Derived.Test.YticigahhdhindaaWd
namespace Go.Proofs.Yticigahhdhindaa
open Go.RowKit

theorem val_bit (l : List Nat) (k : Nat) (h : k < l.length) : val ((l.drop k).take 1) = l.getD k 0 := by
  have := val_next l k 0 (by omega)
  rw [this, List.take_zero]
  show 2 * 0 + _ = _
  rw [Nat.mul_zero, Nat.zero_add, Nat.add_zero]
theorem take1_ok (B : Nat) (w : World) (p : Nat) (s : ByteArray) (k : Nat) (hR : IsR B w p s k) (hs : s.size ≤ 281474976710656) (hle : k < 8 * s.size) : Calls Try.prog 32 #[.pointer (some ⟨p, 0, none⟩), .int .i64 1] w fun e w' => e = .returned (.tuple #[.int .u64 ((bitsB s.data.toList).getD k 0 : Nat), .int .i64 0]) ∧ IsR B w' p s (k + 1) ∧ Step B [p] [] w w' := by
  have h := take_ok B w p s k 1 hR hs (by omega) (by omega)
  rw [val_bit _ k (by rw [bitsB_length]; exact hle)] at h
  exact h
theorem take1_no (B : Nat) (w : World) (p : Nat) (s : ByteArray) (k : Nat) (hR : IsR B w p s k) (hs : s.size ≤ 281474976710656) (hle : k = 8 * s.size) : Calls Try.prog 32 #[.pointer (some ⟨p, 0, none⟩), .int .i64 1] w fun e w' => e = .returned (.tuple #[.int .u64 0, .int .i64 10]) ∧ IsR B w' p s k ∧ Step B [p] [] w w' :=
  take_short B w p s k 1 hR hs (by omega) (by omega) (by omega)

/-- The closure that reads a step: where the reader's pointer lies. -/
abbrev stepV (br : Nat) : Value := .func (.func 36) #[] #[.pointer (some ⟨br, 0, none⟩)]

set_option maxRecDepth 100000 in
theorem stepper_any (w : World) (p : Nat) : Calls Try.prog 33 #[.pointer (some ⟨p, 0, none⟩)] w fun e w' => e = .returned (stepV w.heap.size) ∧ w' = w.alloc (.cells #[.pointer (some ⟨p, 0, none⟩)] 55) := by
  go_enter Try.func33, Try.ntmps33
  go_wp2_with fail
  go_ret
  exact ⟨rfl, rfl⟩

/-- What a step answers, and where the reader stands then. -/
def StepPost (B : Nat) (w : World) (p : Nat) (s : ByteArray) (st : Int) (er k : Nat) (e : Ending) (w' : World) : Prop :=
  e = .returned (.tuple #[.int .i64 st, .int .i64 er]) ∧ IsR B w' p s k ∧ Step B [p] [] w w'

section
variable (B : Nat) (w : World) (p br : Nat) (s : ByteArray) (k : Nat)
set_option maxRecDepth 100000 in
theorem step_none (hR : IsR B w p s k) (hs : s.size ≤ 281474976710656) (hb : Blk w br 55 #[.pointer (some ⟨p, 0, none⟩)]) (h : k = 8 * s.size) : Calls Try.prog 36 #[.pointer (some ⟨br, 0, none⟩)] w (StepPost B w p s 0 10 k) := by
  have HT := Lib.hid (take1_no B w p s k hR hs h)
  have c0 := blk_cell hb 0
  simp at c0
  clear hR hb h
  go_enter Try.func36, Try.ntmps36
  go_wp2_with fail
  refine HT.out.mono ?_
  rintro e w1 ⟨rfl, hR1, hs1⟩
  have HR1 := Lib.hid hR1
  have HS1 := Lib.hid hs1
  clear hR1 hs1
  go_wp2_with fail
  go_ret2
  exact ⟨rfl, HR1.out, HS1.out⟩
set_option maxRecDepth 100000 in
theorem step_stop (hR : IsR B w p s k) (hs : s.size ≤ 281474976710656) (hb : Blk w br 55 #[.pointer (some ⟨p, 0, none⟩)]) (h : k < 8 * s.size) (h0 : (bitsB s.data.toList).getD k 0 = 0) : Calls Try.prog 36 #[.pointer (some ⟨br, 0, none⟩)] w (StepPost B w p s 0 0 (k + 1)) := by
  have ht := take1_ok B w p s k hR hs h
  rw [h0] at ht
  have HT := Lib.hid ht
  have c0 := blk_cell hb 0
  simp at c0
  clear hR hb h ht h0
  go_enter Try.func36, Try.ntmps36
  go_wp2_with fail
  refine HT.out.mono ?_
  rintro e w1 ⟨rfl, hR1, hs1⟩
  have HR1 := Lib.hid hR1
  have HS1 := Lib.hid hs1
  clear hR1 hs1
  go_wp2_with fail
  go_ret2
  exact ⟨rfl, HR1.out, HS1.out⟩
theorem ptr_kept {B : Nat} {w w' : World} {p br : Nat} {s : ByteArray} {k : Nat} {v : Value} (hR : IsR B w p s k) (hb : Blk w br 55 #[v]) (hs : Step B [p] [] w w') : Blk w' br 55 #[v] := by
  refine hs.blk hb ?_ List.not_mem_nil
  intro h
  rw [List.mem_singleton.1 h] at hb
  have h2 := hR.blk
  unfold Blk at hb h2
  rw [h2] at hb
  injection hb with hb
  injection hb with _ h3
  exact absurd h3 (by decide)
set_option maxRecDepth 100000 in
theorem step_half (hR : IsR B w p s k) (hs : s.size ≤ 281474976710656) (hb : Blk w br 55 #[.pointer (some ⟨p, 0, none⟩)]) (h : k + 1 = 8 * s.size) (h0 : (bitsB s.data.toList).getD k 0 = 1) : Calls Try.prog 36 #[.pointer (some ⟨br, 0, none⟩)] w (StepPost B w p s 0 10 (k + 1)) := by
  have ht := take1_ok B w p s k hR hs (by omega)
  rw [h0] at ht
  have HT := Lib.hid ht
  have HT2 := Lib.hid fun w1 (h1 : IsR B w1 p s (k + 1)) => take1_no B w1 p s (k + 1) h1 hs h
  have c0 := blk_cell hb 0
  simp at c0
  have HK := Lib.hid fun w1 (h1 : Step B [p] [] w w1) => ptr_kept hR hb h1
  clear hR hb h ht h0
  go_enter Try.func36, Try.ntmps36
  go_wp2_with fail
  refine HT.out.mono ?_
  rintro e w1 ⟨rfl, hR1, hs1⟩
  have c1 := blk_cell (HK.out w1 hs1) 0
  simp at c1
  have HT3 := Lib.hid (HT2.out w1 hR1)
  have HS1 := Lib.hid hs1
  clear hR1 hs1
  go_wp2_with fail
  refine HT3.out.mono ?_
  rintro e w2 ⟨rfl, hR2, hs2⟩
  have HR2 := Lib.hid hR2
  have HS2 := Lib.hid (HS1.out.trans hs2)
  clear hR2 hs2
  go_wp2_with fail
  go_ret2
  exact ⟨rfl, HR2.out, HS2.out⟩
set_option maxRecDepth 100000 in
theorem step_move (d : Nat) (hR : IsR B w p s k) (hs : s.size ≤ 281474976710656) (hb : Blk w br 55 #[.pointer (some ⟨p, 0, none⟩)]) (h : k + 1 < 8 * s.size) (h0 : (bitsB s.data.toList).getD k 0 = 1) (h1 : (bitsB s.data.toList).getD (k + 1) 0 = d) (hd : d < 2) : Calls Try.prog 36 #[.pointer (some ⟨br, 0, none⟩)] w (StepPost B w p s (1 - 2 * (d : Int)) 0 (k + 2)) := by
  have ht := take1_ok B w p s k hR hs (by omega)
  rw [h0] at ht
  have HT := Lib.hid ht
  have HT2 := Lib.hid fun w1 (h2 : IsR B w1 p s (k + 1)) => take1_ok B w1 p s (k + 1) h2 hs h
  rw [h1] at HT2
  have c0 := blk_cell hb 0
  simp at c0
  have HK := Lib.hid fun w1 (h1 : Step B [p] [] w w1) => ptr_kept hR hb h1
  clear hR hb h ht h0 h1
  go_enter Try.func36, Try.ntmps36
  go_wp2_with fail
  refine HT.out.mono ?_
  rintro e w1 ⟨rfl, hR1, hs1⟩
  have c1 := blk_cell (HK.out w1 hs1) 0
  simp at c1
  have HT3 := Lib.hid (HT2.out w1 hR1)
  have HS1 := Lib.hid hs1
  clear hR1 hs1
  go_wp2_with fail
  refine HT3.out.mono ?_
  rintro e w2 ⟨rfl, hR2, hs2⟩
  have HR2 := Lib.hid hR2
  have HS2 := Lib.hid (HS1.out.trans hs2)
  clear hR2 hs2
  go_wp2_with fail
  go_ret2
  exact ⟨rfl, HR2.out, HS2.out⟩
end

end Go.Proofs.Yticigahhdhindaa
