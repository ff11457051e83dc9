/- Take takes the next n bits as a number, or says that there are fewer; Unary counts up to a 0 bit. Conditions: a text is no longer than 2^48 bytes. -/
import Derived.Test.YticigahhdhindaaWc
import Derived.LoopTactic
import Derived.Deep.LoopGhost
namespace Go.Proofs.Yticigahhdhindaa
open Go.RowKit

theorem or_bit (x b : Nat) (hx : x < 9223372036854775808) (hb : b < 2) : bits BinOp.or IntKind.u64 ((x : Int) * 2) (b : Int) = ((2 * x + b : Nat) : Int) := by
  have h := u64_or_nat (2 * x) b (by omega) (by omega)
  rw [nat_join 1 (2 * x) b (by omega) (by omega)] at h
  rw [← h, Int.natCast_mul, Int.mul_comm]
  rfl

theorem val_next (l : List Nat) (n j : Nat) (h : n + j < l.length) : val ((l.drop n).take (j + 1)) = 2 * val ((l.drop n).take j) + l.getD (n + j) 0 := by
  have h1 : j < (l.drop n).length := by rw [List.length_drop]; omega
  rw [List.take_succ_eq_append_getElem h1, val_snoc, List.getElem_drop, List.getD_eq_getElem?_getD, List.getElem?_eq_getElem h]
  rfl

theorem val_take_lt (l : List Nat) (n j k : Nat) (hb : Bit01 l) (hj : j ≤ k) : val ((l.drop n).take j) < 2 ^ k := by
  refine Nat.lt_of_lt_of_le (val_lt _ ((hb.drop n).take j)) (Nat.pow_le_pow_right (by omega) ?_)
  rw [List.length_take]
  omega

set_option maxRecDepth 100000 in
theorem wbit_lt (l : List Nat) (i : Nat) (hb : Bit01 l) : l.getD i 0 < 2 := by
  rw [List.getD_eq_getElem?_getD]
  rcases h : l[i]? with _ | b
  · simp
  · exact hb b (List.mem_of_getElem? h)

def TookPost (B : Nat) (w : World) (p : Nat) (s : ByteArray) (n k : Nat) (x r : Nat) (e : Ending) (w' : World) : Prop :=
  e = .returned (.tuple #[.int .u64 x, .int .i64 r]) ∧ IsR B w' p s (n + k) ∧ Step B [p] [] w w'

set_option maxRecDepth 100000 in
theorem take_ok (B : Nat) (w : World) (p : Nat) (s : ByteArray) (n k : Nat) (hR : IsR B w p s n) (hs : s.size ≤ 281474976710656) (hk : k ≤ 64) (hle : n + k ≤ 8 * s.size) :
    Calls Try.prog 32 #[.pointer (some ⟨p, 0, none⟩), .int .i64 k] w (TookPost B w p s n k (val (((bitsB s.data.toList).drop n).take k)) 0) := by
  have c0 := blk_cell hR.blk 0
  simp at c0
  go_enter Try.func32, Try.ntmps32
  go_wp2_with (first | (go_at_call 34; refine (rright_yes _ _ c0).mono ?_; rintro e w' ⟨rfl, rfl⟩) | (go_at_call 35; refine (ahead_any _ _ s n hR.blk).mono ?_; rintro e w1 ⟨ba, bt, he, ha, ht, hba, hbt, hS1⟩; unfold nextV at he; subst he))
  have hw1 := hS1.size
  go_loopw [7, 22] (fun v i wr => ∃ j x : Nat, j ≤ k ∧ i = .int .i64 j ∧ v = .int .u64 x ∧ x = val (((bitsB s.data.toList).drop n).take j) ∧ Blk wr ba 3 #[.int .i64 (n + j : Nat)] ∧ Blk wr bt 9 #[.string s] ∧ Step w.heap.size [] [] w wr) (fun _ i _ => k - (intOf i).toNat)
  case atStart => exact ⟨0, 0, Nat.zero_le _, rfl, rfl, by simp [val], ha, ht, hS1⟩
  case round =>
    obtain ⟨j, x, hj, rfl, rfl, hx, hba1, hbt1, hS⟩ := hrel
    have HX := Lib.hid hx; clear hx
    by_cases h : j < k
    · have hx2 : x < 9223372036854775808 := by
        rw [HX.out]
        exact Nat.lt_of_lt_of_eq (val_take_lt _ n j 63 (bit01_bitsB _) (by omega)) (by decide)
      obtain ⟨b, hb⟩ : ∃ b, b = (bitsB s.data.toList).getD (n + j) 0 := ⟨_, rfl⟩
      have hb2 : b < 2 := by rw [hb]; exact wbit_lt _ _ (bit01_bitsB _)
      have hn := next_yes wr ba bt s (n + j) hba1 hbt1 hs (by omega)
      rw [← hb] at hn
      have HB := Lib.hid hb; clear hb
      have HN := Lib.hid hn; clear hn
      go_wp2_with (go_at_call 37; refine HN.out.mono ?_; rintro e w2 ⟨rfl, ha2, hS2⟩)
      go_roundw
      case rel =>
        refine ⟨j + 1, 2 * x + b, h, rfl, by rw [or_bit x b hx2 hb2], ?_, ha2, hS2.blk hbt1 ?_ (by simp), hS.after hS2 hba (fun i hi => by simp at hi; subst hi; exact .inr hba) (by simp)⟩
        · rw [HX.out, HB.out, val_next]
          rw [bitsB_length]; simpa using by omega
        · intro hm
          simp at hm
          subst hm
          unfold Blk at hba1 hbt1
          rw [hba1] at hbt1
          simp at hbt1
      case measure => simp [intOf]; omega
    · obtain rfl : j = k := by omega
      have hbp := hS.blk hR.blk (by simp) (by simp)
      have c0 := blk_cell hbp 0
      have c2 := blk_cell hbp 2
      have f2 := blk_frozen hbp 2
      simp at c0 c2
      have hlo := hR.lo
      go_wp2
      go_ret2
      refine ⟨?_, ⟨hR.lo, ?_⟩, ?_⟩
      · show Ending.returned (Value.tuple #[.int .u64 x, .int .i64 0]) = _
        rw [HX.out]
        rfl
      · exact blk_set hbp 2 _
      · exact ((hS.mono (Nat.le_trans hR.lo (Nat.le_of_lt (blk_lt hR.blk))) (by simp) (by simp)).set (p := ⟨p, 2, none⟩) hR.lo (List.mem_singleton.2 rfl) _)

set_option maxRecDepth 100000 in
theorem take_short (B : Nat) (w : World) (p : Nat) (s : ByteArray) (n k : Nat) (hR : IsR B w p s n) (hs : s.size ≤ 281474976710656) (hk : k ≤ 64) (hn : n ≤ 8 * s.size) (hle : 8 * s.size < n + k) :
    Calls Try.prog 32 #[.pointer (some ⟨p, 0, none⟩), .int .i64 k] w (TookPost B w p s n 0 0 10) := by
  have c0 := blk_cell hR.blk 0
  simp at c0
  go_enter Try.func32, Try.ntmps32
  go_wp2_with (first | (go_at_call 34; refine (rright_yes _ _ c0).mono ?_; rintro e w' ⟨rfl, rfl⟩) | (go_at_call 35; refine (ahead_any _ _ s n hR.blk).mono ?_; rintro e w1 ⟨ba, bt, he, ha, ht, hba, hbt, hS1⟩; unfold nextV at he; subst he))
  have hw1 := hS1.size
  go_loopw [7, 22] (fun v i wr => ∃ j x : Nat, n + j ≤ 8 * s.size ∧ i = .int .i64 j ∧ v = .int .u64 x ∧ x = val (((bitsB s.data.toList).drop n).take j) ∧ Blk wr ba 3 #[.int .i64 (n + j : Nat)] ∧ Blk wr bt 9 #[.string s] ∧ Step w.heap.size [] [] w wr) (fun _ i _ => k - (intOf i).toNat)
  case atStart => exact ⟨0, 0, hn, rfl, rfl, by simp [val], ha, ht, hS1⟩
  case round =>
    obtain ⟨j, x, hj, rfl, rfl, hx, hba1, hbt1, hS⟩ := hrel
    have HX := Lib.hid hx; clear hx
    have h : j < k := by omega
    by_cases hin : n + j < 8 * s.size
    · have hx2 : x < 9223372036854775808 := by
        rw [HX.out]
        exact Nat.lt_of_lt_of_eq (val_take_lt _ n j 63 (bit01_bitsB _) (by omega)) (by decide)
      obtain ⟨b, hb⟩ : ∃ b, b = (bitsB s.data.toList).getD (n + j) 0 := ⟨_, rfl⟩
      have hb2 : b < 2 := by rw [hb]; exact wbit_lt _ _ (bit01_bitsB _)
      have hn := next_yes wr ba bt s (n + j) hba1 hbt1 hs (by omega)
      rw [← hb] at hn
      have HB := Lib.hid hb; clear hb
      have HN := Lib.hid hn; clear hn
      go_wp2_with (go_at_call 37; refine HN.out.mono ?_; rintro e w2 ⟨rfl, ha2, hS2⟩)
      go_roundw
      case rel =>
        refine ⟨j + 1, 2 * x + b, hin, rfl, by rw [or_bit x b hx2 hb2], ?_, ha2, hS2.blk hbt1 ?_ (by simp), hS.after hS2 hba (fun i hi => by simp at hi; subst hi; exact .inr hba) (by simp)⟩
        · rw [HX.out, HB.out, val_next]
          rw [bitsB_length]; simpa using by omega
        · intro hm
          simp at hm
          subst hm
          unfold Blk at hba1 hbt1
          rw [hba1] at hbt1
          simp at hbt1
      case measure => simp [intOf]; omega
    · have hn := next_no wr ba bt s (n + j) hba1 hbt1 hs (by omega)
      have HN := Lib.hid hn; clear hn
      go_wp2_with (go_at_call 37; refine HN.out.mono ?_; rintro e w2 ⟨rfl, rfl⟩)
      go_ret2
      exact ⟨rfl, ⟨hR.lo, hS.blk hR.blk (by simp) (by simp)⟩, hS.mono (Nat.le_trans hR.lo (Nat.le_of_lt (blk_lt hR.blk))) (by simp) (by simp)⟩

end Go.Proofs.Yticigahhdhindaa
