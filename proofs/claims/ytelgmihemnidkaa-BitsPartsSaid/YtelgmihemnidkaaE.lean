/- Unary says that there is no 0 bit, or too many 1 bits; a writer's text is its bits packed. Conditions: a text is no longer than 2^48 bytes. -/
import Derived.Test.YtelgmihemnidkaaD
import Derived.Laws.IdiomStrings
import Derived.Laws.BytesArg
namespace Go.Proofs.Ytelgmihemnidkaa
open Go.RowKit

theorem unary_short (B : Nat) (w : World) (p : Nat) (s : ByteArray) (n c most : Nat) (hR : IsR B w p s n) (hn8 : n ≤ 8 * s.size) (hs : s.size ≤ 281474976710656) (hm : (most : Int) ≤ 9223372036854775807) (hc : c ≤ most) (hbits : (bitsB s.data.toList).drop n = List.replicate c 1) :
    Calls Try.prog 19 #[.pointer (some ⟨p, 0, none⟩), .int .i64 most] w (UnaryPost B w p s n 0 0 10) := by
  have c0 := blk_cell hR.blk 0
  simp at c0
  have hlen : n + c = 8 * s.size := by
    have := congrArg List.length hbits
    rw [List.length_drop, bitsB_length, List.length_replicate] at this
    simp at this
    omega
  have HL := Lib.hid hlen; clear hlen
  have HBI := Lib.hid hbits; clear hbits
  go_enter Try.func19, Try.ntmps19
  go_wp2_with (first | (go_at_call 30; refine (rright_yes _ _ c0).mono ?_; rintro e w' ⟨rfl, rfl⟩) | (go_at_call 31; refine (ahead_any _ _ s n hR.blk).mono ?_; rintro e w1 ⟨ba, bt, he, ha, ht, hba, hbt, hS1⟩; unfold nextV at he; subst he))
  have hw1 := hS1.size
  go_loopw [7] (fun i wr => ∃ j : Nat, j ≤ c ∧ i = .int .i64 j ∧ Blk wr ba 3 #[.int .i64 (n + j : Nat)] ∧ Blk wr bt 9 #[.string s] ∧ Step w.heap.size [] [] w wr) (fun i _ => c - (intOf i).toNat)
  case atStart => exact ⟨0, Nat.zero_le _, rfl, ha, ht, hS1⟩
  case round =>
    obtain ⟨j, hj, rfl, hba1, hbt1, hS⟩ := hrel
    by_cases h : j < c
    · have hn := next_yes wr ba bt s (n + j) hba1 hbt1 hs (by have := HL.out; omega)
      rw [ones_get (r := []) (by rw [List.append_nil]; exact HBI.out) h] at hn
      have HN := Lib.hid hn; clear hn
      have hjm : ((j : Int) == (most : Int)) = false := by rw [beq_eq_false_iff_ne]; omega
      go_wp2_with (go_at_call 36; refine HN.out.mono ?_; rintro e w2 ⟨rfl, ha2, hS2⟩)
      go_roundw
      case rel =>
        refine ⟨j + 1, h, rfl, ha2, hS2.blk hbt1 ?_ (by simp), hS.after hS2 hba (fun i hi => by simp at hi; subst hi; exact .inr hba) (by simp)⟩
        intro hm
        simp at hm
        subst hm
        unfold Blk at hba1 hbt1
        rw [hba1] at hbt1
        simp at hbt1
      case measure => simp [intOf]; omega
    · have hn := next_no wr ba bt s (n + j) hba1 hbt1 hs (by have := HL.out; omega)
      have HN := Lib.hid hn; clear hn
      go_wp2_with (go_at_call 36; refine HN.out.mono ?_; rintro e w2 ⟨rfl, rfl⟩)
      go_ret2
      exact ⟨rfl, ⟨hR.lo, hS.blk hR.blk (by simp) (by simp)⟩, hS.mono (Nat.le_trans hR.lo (Nat.le_of_lt (blk_lt hR.blk))) (by simp) (by simp)⟩

theorem unary_big (B : Nat) (w : World) (p : Nat) (s : ByteArray) (n most : Nat) (r : List Nat) (hR : IsR B w p s n) (hs : s.size ≤ 281474976710656) (hm : (most : Int) ≤ 9223372036854775807) (hbits : (bitsB s.data.toList).drop n = List.replicate (most + 1) 1 ++ r) :
    Calls Try.prog 19 #[.pointer (some ⟨p, 0, none⟩), .int .i64 most] w (UnaryPost B w p s n 0 0 3) := by
  have c0 := blk_cell hR.blk 0
  simp at c0
  have hlen : n + most < 8 * s.size := by
    have := congrArg List.length hbits
    rw [List.length_drop, bitsB_length, List.length_append, List.length_replicate] at this
    simp at this
    omega
  have HBI := Lib.hid hbits; clear hbits
  go_enter Try.func19, Try.ntmps19
  go_wp2_with (first | (go_at_call 30; refine (rright_yes _ _ c0).mono ?_; rintro e w' ⟨rfl, rfl⟩) | (go_at_call 31; refine (ahead_any _ _ s n hR.blk).mono ?_; rintro e w1 ⟨ba, bt, he, ha, ht, hba, hbt, hS1⟩; unfold nextV at he; subst he))
  have hw1 := hS1.size
  go_loopw [7] (fun i wr => ∃ j : Nat, j ≤ most ∧ i = .int .i64 j ∧ Blk wr ba 3 #[.int .i64 (n + j : Nat)] ∧ Blk wr bt 9 #[.string s] ∧ Step w.heap.size [] [] w wr) (fun i _ => most - (intOf i).toNat)
  case atStart => exact ⟨0, Nat.zero_le _, rfl, ha, ht, hS1⟩
  case round =>
    obtain ⟨j, hj, rfl, hba1, hbt1, hS⟩ := hrel
    have hn := next_yes wr ba bt s (n + j) hba1 hbt1 hs (by omega)
    rw [ones_get HBI.out (by omega)] at hn
    have HN := Lib.hid hn; clear hn
    by_cases h : j < most
    · have hjm : ((j : Int) == (most : Int)) = false := by rw [beq_eq_false_iff_ne]; omega
      go_wp2_with (go_at_call 36; refine HN.out.mono ?_; rintro e w2 ⟨rfl, ha2, hS2⟩)
      go_roundw
      case rel =>
        refine ⟨j + 1, h, rfl, ha2, hS2.blk hbt1 ?_ (by simp), hS.after hS2 hba (fun i hi => by simp at hi; subst hi; exact .inr hba) (by simp)⟩
        intro hm
        simp at hm
        subst hm
        unfold Blk at hba1 hbt1
        rw [hba1] at hbt1
        simp at hbt1
      case measure => simp [intOf]; omega
    · obtain rfl : j = most := by omega
      have hpba : p ∉ [ba] := by have := blk_lt hR.blk; simp; omega
      go_wp2_with (go_at_call 36; refine HN.out.mono ?_; rintro e w2 ⟨rfl, ha2, hS2⟩)
      go_ret2
      have hS3 := hS.after hS2 hba (fun i hi => by simp at hi; subst hi; exact .inr hba) (by simp)
      exact ⟨rfl, ⟨hR.lo, hS3.blk hR.blk (by simp) (by simp)⟩, hS3.mono (Nat.le_trans hR.lo (Nat.le_of_lt (blk_lt hR.blk))) (by simp) (by simp)⟩

/-- What stands ahead of the first 0 bit. -/
theorem unary_three (most : Nat) : ∀ l : List Nat, Bit01 l → (∃ c r, c ≤ most ∧ l = List.replicate c 1 ++ 0 :: r) ∨ (∃ c, c ≤ most ∧ l = List.replicate c 1) ∨ (∃ r, l = List.replicate (most + 1) 1 ++ r) := by
  induction most with
  | zero =>
    intro l hb
    match l with
    | [] => exact .inr (.inl ⟨0, Nat.le_refl _, rfl⟩)
    | b :: l =>
      have := hb b (by simp)
      by_cases h : b = 0
      · subst h; exact .inl ⟨0, l, Nat.le_refl _, rfl⟩
      · obtain rfl : b = 1 := by omega
        exact .inr (.inr ⟨l, rfl⟩)
  | succ most ih =>
    intro l hb
    match l with
    | [] => exact .inr (.inl ⟨0, Nat.zero_le _, rfl⟩)
    | b :: l =>
      have := hb b (by simp)
      by_cases h : b = 0
      · subst h; exact .inl ⟨0, l, Nat.zero_le _, rfl⟩
      · obtain rfl : b = 1 := by omega
        rcases ih l (fun x hx => hb x (by simp [hx])) with ⟨c, r, hc, rfl⟩ | ⟨c, hc, rfl⟩ | ⟨r, rfl⟩
        · exact .inl ⟨c + 1, r, by omega, by simp [List.replicate_succ]⟩
        · exact .inr (.inl ⟨c + 1, by omega, by simp [List.replicate_succ]⟩)
        · exact .inr (.inr ⟨r, by rw [List.replicate_succ (n := most + 1)]; rfl⟩)

theorem conv_row {w : World} {B : Nat} {v : Value} {l : List UInt8} (h : w.ownsRow B 5 1 v l.length (l.map bv)) : (convert 67 9 v).run Try.prog w = .ok (.string ⟨l.toArray⟩) w := by
  rcases h.2 with ⟨rfl, h0⟩ | ⟨g, cap, cur, rfl, _⟩
  · have : l = [] := List.eq_nil_of_length_eq_zero h0
    subst this
    exact run_convert_bytes_nil w 67 5 Try.underlying67 Try.underlying5 0 0 9 Try.underlying9
  · have hn : ∀ j (hj : j < l.length), w.cell? ((⟨g, 0, none⟩ : Addr).add j) = some (.int .u8 (l[j].toNat : Int)) := by
      intro j hj
      have h1 := h.cells (g := g) rfl j (.int .u8 (l[j].toNat : Int))
      exact h1 (by rw [List.getElem?_map, List.getElem?_eq_getElem hj]; rfl)
    exact run_convert_bytes_back w 67 9 5 ⟨g, 0, none⟩ cap l Try.underlying67 Try.underlying5 Try.underlying9 hn

theorem wtext_none (w : World) : Calls Try.prog 15 #[.pointer none] w fun e w' => e = .returned (.string ⟨#[]⟩) ∧ w = w' := by
  go_enter Try.func15, Try.ntmps15
  go_wp2_with (go_at_call 29; refine (wright_none _).mono ?_; rintro e w' ⟨rfl, rfl⟩)
  go_ret
  exact ⟨rfl, rfl⟩

theorem wtext_yes (B : Nat) (w : World) (p : Nat) (v : Value) (L : List Nat) (hW : IsW B w p v L) :
    Calls Try.prog 15 #[.pointer (some ⟨p, 0, none⟩)] w fun e w' => e = .returned (.string ⟨(pack L).toArray⟩) ∧ w = w' := by
  have c0 := blk_cell hW.blk 0
  have c1 := blk_cell hW.blk 1
  simp at c0 c1
  have hc := conv_row hW.row
  go_enter Try.func15, Try.ntmps15
  go_wp2_with (go_at_call 29; refine (wright_yes _ _ c0).mono ?_; rintro e w' ⟨rfl, rfl⟩)
  go_ret
  exact ⟨rfl, rfl⟩

end Go.Proofs.Ytelgmihemnidkaa
