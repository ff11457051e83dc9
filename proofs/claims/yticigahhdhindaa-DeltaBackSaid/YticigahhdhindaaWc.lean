/- The closure that tells a reader's bits tells the next bit, or that there is none; what Take and Unary answer at once. Conditions: a text is no longer than 2^48 bytes. -/
import Derived.Test.YticigahhdhindaaWa0
import Derived.RegionTactic
import Derived.BigRegion
import Derived.Laws.BitsAllLaws
namespace Go.Proofs.Yticigahhdhindaa
open Go.RowKit

/-- The closure that tells a reader's bits one by one: where it stands, the text. -/
abbrev nextV (ba bt : Nat) : Value := .func (.func 37) #[] #[.pointer (some ⟨ba, 0, none⟩), .pointer (some ⟨bt, 0, none⟩)]

def AheadPost (w : World) (s : ByteArray) (n : Nat) (e : Ending) (w' : World) : Prop :=
  ∃ ba bt, e = .returned (nextV ba bt) ∧ Blk w' ba 3 #[.int .i64 n] ∧ Blk w' bt 9 #[.string s] ∧ w.heap.size ≤ ba ∧ w.heap.size ≤ bt ∧ Step w.heap.size [] [] w w'

set_option maxRecDepth 100000 in
theorem ahead_any (w : World) (p : Nat) (s : ByteArray) (n : Nat) (hb : Blk w p 66 #[.bool true, .string s, .int .i64 n]) :
    Calls Try.prog 35 #[.pointer (some ⟨p, 0, none⟩)] w (AheadPost w s n) := by
  have c1 := blk_cell hb 1
  have c2 := blk_cell hb 2
  have hlt := blk_lt hb
  simp at c1 c2
  go_enter Try.func35, Try.ntmps35
  go_wp2
  go_region
  all_goals (go_wp2; go_ret)
  · refine ⟨w.heap.size + 1, w.heap.size, rfl, ?_, ?_, by omega, by omega, ?_⟩
    · exact (by simpa using blk_new (w.alloc (.cells #[.string s] 9)) 3 #[.int .i64 n] : Blk ((w.alloc (.cells #[.string s] 9)).alloc (.cells #[.int .i64 n] 3)) (w.heap.size + 1) 3 #[.int .i64 n])
    · exact (Below.heap_alloc (w.alloc (.cells #[.string s] 9)) (.cells #[.int .i64 n] 3) w.heap.size (by simp)).trans (blk_new w 9 #[.string s])
    · exact (((Step.refl _ _ _ w).alloc (Nat.le_refl _) _).alloc (by simp) _).drew
  · refine ⟨w.heap.size, w.heap.size + 1, rfl, ?_, ?_, by omega, by omega, ?_⟩
    · exact (Below.heap_alloc (w.alloc (.cells #[.int .i64 n] 3)) (.cells #[.string s] 9) w.heap.size (by simp)).trans (blk_new w 3 #[.int .i64 n])
    · exact (by simpa using blk_new (w.alloc (.cells #[.int .i64 n] 3)) 9 #[.string s] : Blk ((w.alloc (.cells #[.int .i64 n] 3)).alloc (.cells #[.string s] 9)) (w.heap.size + 1) 9 #[.string s])
    · exact (((Step.refl _ _ _ w).alloc (Nat.le_refl _) _).alloc (by simp) _).drew

set_option maxRecDepth 100000 in
theorem next_no (w : World) (ba bt : Nat) (s : ByteArray) (n : Nat) (ha : Blk w ba 3 #[.int .i64 n]) (ht : Blk w bt 9 #[.string s]) (hs : s.size ≤ 281474976710656) (hn : n = 8 * s.size) :
    Calls Try.prog 37 #[.pointer (some ⟨ba, 0, none⟩), .pointer (some ⟨bt, 0, none⟩)] w fun e w' => e = .returned (.tuple #[.int .u64 0, .bool false]) ∧ w = w' := by
  have c1 := blk_cell ha 0
  have c2 := blk_cell ht 0
  simp at c1 c2
  have hd : ((n : Int) == 8 * (s.size : Int)) = true := by rw [beq_iff_eq]; omega
  have HN := Lib.hid hn; clear hn
  go_enter Try.func37, Try.ntmps37
  go_wp2
  go_ret2
  exact ⟨rfl, rfl⟩

def WNextPost (w : World) (ba n b : Nat) (e : Ending) (w' : World) : Prop :=
  e = .returned (.tuple #[.int .u64 b, .bool true]) ∧ Blk w' ba 3 #[.int .i64 (n + 1 : Nat)] ∧ Step ba [ba] [] w w'

set_option maxRecDepth 100000 in
theorem bit_val (s : ByteArray) (n : Nat) (hn : n < 8 * s.size) (h : n / 8 < s.size) :
    IntKind.u64.wrap (bits BinOp.and IntKind.u8 ((s[n / 8].toNat : Int) / 2 ^ (7 - n % 8)) 1) = (((bitsB s.data.toList).getD n 0 : Nat) : Int) := by
  have h1 : ((s[n / 8].toNat : Int) / 2 ^ (7 - n % 8)) = ((s[n / 8].toNat / 2 ^ (7 - n % 8) : Nat) : Int) := by rw [Int.natCast_ediv, Int.natCast_pow]; rfl
  have hlt : s[n / 8].toNat / 2 ^ (7 - n % 8) < 256 := Nat.lt_of_le_of_lt (Nat.div_le_self _ _) (s[n / 8].toNat_lt)
  have h2 := u8_and_nat _ 1 hlt (by omega)
  rw [nat_mask1] at h2
  rw [h1]
  rw [show ((1 : Nat) : Int) = 1 from rfl] at h2
  rw [h2, List.getD_eq_getElem?_getD, bitsB_get _ _ (by simpa using hn)]
  have h3 : s.data.toList.getD (n / 8) 0 = s[n / 8] := by
    rw [List.getD_eq_getElem?_getD, List.getElem?_eq_getElem (by simpa using h)]
    rfl
  rw [h3]
  simp [IntKind.wrap, IntKind.bits, IntKind.signed]
  omega

set_option maxRecDepth 100000 in
theorem next_yes (w : World) (ba bt : Nat) (s : ByteArray) (n : Nat) (ha : Blk w ba 3 #[.int .i64 n]) (ht : Blk w bt 9 #[.string s]) (hs : s.size ≤ 281474976710656) (hn : n < 8 * s.size) :
    Calls Try.prog 37 #[.pointer (some ⟨ba, 0, none⟩), .pointer (some ⟨bt, 0, none⟩)] w (WNextPost w ba n ((bitsB s.data.toList).getD n 0)) := by
  have c1 := blk_cell ha 0
  have c2 := blk_cell ht 0
  have f1 := blk_frozen ha 0
  simp at c1 c2
  have hd : ((n : Int) == 8 * (s.size : Int)) = false := by rw [beq_eq_false_iff_ne]; omega
  have hb1 : n / 8 < s.size := by omega
  have hi0 : 0 ≤ (n : Int) / 8 := by omega
  have hi1 : (n : Int) / 8 < s.size := by omega
  go_enter Try.func37, Try.ntmps37
  go_wp2
  go_region
  go_wp2
  go_ret2
  refine ⟨?_, blk_set ha 0 _, ((Step.refl ba [ba] [] w).set (p := ⟨ba, 0, none⟩) (Nat.le_refl _) (List.mem_singleton.2 rfl) _).drew⟩
  show Ending.returned (Value.tuple #[.int .u64 _, .bool true]) = _
  rw [bit_val s n hn hb1]

set_option maxRecDepth 100000 in
theorem take_none (w : World) (n : Int) : Calls Try.prog 32 #[.pointer none, .int .i64 n] w fun e w' => e = .returned (.tuple #[.int .u64 0, .int .i64 1]) ∧ w = w' := by
  go_enter Try.func32, Try.ntmps32
  go_wp2_with (go_at_call 34; refine (rright_none _).mono ?_; rintro e w' ⟨rfl, rfl⟩)
  go_ret2
  exact ⟨rfl, rfl⟩

set_option maxRecDepth 100000 in
theorem take_arg (w : World) (p : Nat) (n : Int) (h0 : w.cell? ⟨p, 0, none⟩ = some (.bool true)) (hn : n < 0 ∨ 64 < n) : Calls Try.prog 32 #[.pointer (some ⟨p, 0, none⟩), .int .i64 n] w fun e w' => e = .returned (.tuple #[.int .u64 0, .int .i64 2]) ∧ w = w' := by
  rcases hn with hn | hn
  · go_enter Try.func32, Try.ntmps32
    go_wp2_with (go_at_call 34; refine (rright_yes _ _ h0).mono ?_; rintro e w' ⟨rfl, rfl⟩)
    go_ret2
    exact ⟨rfl, rfl⟩
  · have h' : 0 ≤ n := by omega
    go_enter Try.func32, Try.ntmps32
    go_wp2_with (go_at_call 34; refine (rright_yes _ _ h0).mono ?_; rintro e w' ⟨rfl, rfl⟩)
    go_ret2
    exact ⟨rfl, rfl⟩

end Go.Proofs.Yticigahhdhindaa
