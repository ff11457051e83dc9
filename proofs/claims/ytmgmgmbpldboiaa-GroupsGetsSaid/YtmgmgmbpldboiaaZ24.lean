/- Sw Wa0 Wc Wd We: texts laid together, what is not used left out. -/
import Derived.Test.YtmgmgmbpldboiaaZ01
import Derived.WalkKit
import Derived.WalkLawsBesides
import Derived.WalkSpells
import Derived.Below
import Derived.Outline
import Derived.BigQuiet
import Derived.Deep.QuietTactic
import Derived.RegionTactic
import Derived.Lib.Hide
import Derived.Deep.DeepFit
import Derived.BigRegion
import Derived.Laws.BitsAllLaws
import Derived.LoopTactic
import Derived.Deep.LoopGhost
import Derived.Laws.IdiomStrings
import Derived.Laws.BytesArg
namespace Go.Proofs.Ytmgmgmbpldboiaa
open Go.RowKit

/-- At block p lies a writer that was made, with the bits L; its bytes lie in the slice v, from block B on. -/
structure IsW (B : Nat) (w : World) (p : Nat) (v : Value) (L : List Nat) : Prop where
  lo : B ≤ p
  blk : Blk w p 78 #[.bool true, v, .int .i64 L.length]
  row : w.ownsRow B 5 1 v (pack L).length ((pack L).map bv)
  bit : Bit01 L

/-- At block p lies a reader of s that was made, at bit number n. -/
structure IsR (B : Nat) (w : World) (p : Nat) (s : ByteArray) (n : Nat) : Prop where
  lo : B ≤ p
  blk : Blk w p 117 #[.bool true, .string s, .int .i64 n]

theorem IsW.step {B B' : Nat} {ps : List Nat} {ts : List TypeId} {w w' : World} {p : Nat} {v : Value} {L : List Nat} (h : IsW B w p v L) (hs : Step B' ps ts w w') (hp : p ∉ ps) (hv : ∀ k, v.ownBlock = some k → k ∉ ps) (ht : (78 : TypeId) ∉ ts) (ht' : (5 : TypeId) ∉ ts) : IsW B w' p v L :=
  ⟨h.lo, hs.blk h.blk hp ht, hs.row h.row hv ht', h.bit⟩
theorem IsR.step {B B' : Nat} {ps : List Nat} {ts : List TypeId} {w w' : World} {p : Nat} {s : ByteArray} {n : Nat} (h : IsR B w p s n) (hs : Step B' ps ts w w') (hp : p ∉ ps) (ht : (117 : TypeId) ∉ ts) : IsR B w' p s n :=
  ⟨h.lo, hs.blk h.blk hp ht⟩

set_option maxRecDepth 100000 in
theorem isW_new (w : World) (B : Nat) (hB : B ≤ w.heap.size) : IsW B (w.alloc (.cells #[.bool true, .slice none 0 0, .int .i64 0] 78)) w.heap.size (.slice none 0 0) [] :=
  ⟨hB, blk_new w 78 _, World.ownsRow_nil _ _ _ _, fun _ h => by simp at h⟩
theorem isR_new (w : World) (B : Nat) (hB : B ≤ w.heap.size) (s : ByteArray) (n : Nat) : IsR B (w.alloc (.cells #[.bool true, .string s, .int .i64 n] 117)) w.heap.size s n :=
  ⟨hB, blk_new w 117 _⟩
set_option maxRecDepth 100000 in
theorem IsW.alloc {B : Nat} {w : World} {p : Nat} {v : Value} {L : List Nat} (h : IsW B w p v L) (o : Obj) : IsW B (w.alloc o) p v L :=
  h.step ((Step.refl w.heap.size [] [] w).alloc (Nat.le_refl _) o) (by simp) (by simp) (by simp) (by simp)
set_option maxRecDepth 100000 in
theorem IsR.alloc {B : Nat} {w : World} {p : Nat} {s : ByteArray} {n : Nat} (h : IsR B w p s n) (o : Obj) : IsR B (w.alloc o) p s n :=
  h.step ((Step.refl w.heap.size [] [] w).alloc (Nat.le_refl _) o) (by simp) (by simp)
/-- A writer and a reader lie apart. -/
theorem wr_ne {B B' : Nat} {w : World} {p q : Nat} {v : Value} {L : List Nat} {s : ByteArray} {n : Nat} (h : IsW B w p v L) (k : IsR B' w q s n) : p ≠ q := by
  rintro rfl
  have h1 := h.blk
  have h2 := k.blk
  unfold Blk at h1 h2
  rw [h1] at h2
  injection h2 with h2
  injection h2 with _ h3
  exact absurd h3 (by decide)
set_option maxRecDepth 100000 in
/-- What a reader's call turns is none of a writer's. -/
theorem IsW.take {B B' : Nat} {w w' : World} {p q : Nat} {v : Value} {L : List Nat} {s : ByteArray} {n : Nat} (h : IsW B w p v L) (k : IsR B' w q s n) {C : Nat} (hs : Step C [q] [] w w') : IsW B w' p v L :=
  h.step hs (by simpa using wr_ne h k) (fun i hi => by simpa using row_ne h.row k.blk (by decide) i hi) (by simp) (by simp)
set_option maxRecDepth 100000 in
/-- What a writer's call turns is none of a reader's. -/
theorem IsR.put {B B' : Nat} {w w' : World} {p q : Nat} {v : Value} {L : List Nat} {s : ByteArray} {n : Nat} (k : IsR B w q s n) (h : IsW B' w p v L) {C : Nat} (hs : Step C [p] [5] w w') : IsR B w' q s n :=
  k.step hs (by simpa using (wr_ne h k).symm) (by decide)

end Go.Proofs.Ytmgmgmbpldboiaa
namespace Go.Proofs.Ytmgmgmbpldboiaa
open Go.RowKit

set_option maxRecDepth 100000 in
theorem wright_yes (w : World) (p : Nat) (h0 : w.cell? ⟨p, 0, none⟩ = some (.bool true)) : Calls Try.prog 45 #[.pointer (some ⟨p, 0, none⟩)] w fun e w' => e = .returned (.bool true) ∧ w = w' := by
  go_enter Try.func45, Try.ntmps45
  go_wp2
  go_ret
  exact ⟨rfl, rfl⟩

set_option maxRecDepth 100000 in
theorem rright_yes (w : World) (p : Nat) (h0 : w.cell? ⟨p, 0, none⟩ = some (.bool true)) : Calls Try.prog 76 #[.pointer (some ⟨p, 0, none⟩)] w fun e w' => e = .returned (.bool true) ∧ w = w' := by
  go_enter Try.func76, Try.ntmps76
  go_wp2
  go_ret
  exact ⟨rfl, rfl⟩

set_option maxRecDepth 100000 in
theorem wlen_yes (w : World) (p : Nat) (n : Int) (h0 : w.cell? ⟨p, 0, none⟩ = some (.bool true)) (h2 : w.cell? ⟨p, 2, none⟩ = some (.int .i64 n)) :
    Calls Try.prog 23 #[.pointer (some ⟨p, 0, none⟩)] w fun e w' => e = .returned (.int .i64 n) ∧ w = w' := by
  go_enter Try.func23, Try.ntmps23
  go_wp2_with (go_at_call 45; refine (wright_yes _ _ h0).mono ?_; rintro e w' ⟨rfl, rfl⟩)
  go_ret
  exact ⟨rfl, rfl⟩

set_option maxRecDepth 100000 in
theorem rat_yes (w : World) (p : Nat) (n : Int) (h0 : w.cell? ⟨p, 0, none⟩ = some (.bool true)) (h2 : w.cell? ⟨p, 2, none⟩ = some (.int .i64 n)) :
    Calls Try.prog 58 #[.pointer (some ⟨p, 0, none⟩)] w fun e w' => e = .returned (.int .i64 n) ∧ w = w' := by
  go_enter Try.func58, Try.ntmps58
  go_wp2_with (go_at_call 76; refine (rright_yes _ _ h0).mono ?_; rintro e w' ⟨rfl, rfl⟩)
  go_ret
  exact ⟨rfl, rfl⟩

set_option maxRecDepth 100000 in
theorem newW (w : World) : Calls Try.prog 20 #[] w fun e w' => e = .returned (.pointer (some ⟨w.heap.size, 0, none⟩)) ∧ w' = w.alloc (.cells #[.bool true, .slice none 0 0, .int .i64 0] 78) := by
  go_enter Try.func20, Try.ntmps20
  go_wp2
  go_ret
  exact ⟨rfl, rfl⟩

set_option maxRecDepth 100000 in
theorem newR_none (w : World) (s : ByteArray) (at' : Int) (hs : s.size ≤ 281474976710656) (h : at' < 0 ∨ 8 * (s.size : Int) < at') : Calls Try.prog 52 #[.string s, .int .i64 at'] w fun e w' => e = .returned (.pointer none) ∧ w = w' := by
  rcases h with h | h
  · go_enter Try.func52, Try.ntmps52
    go_wp2
    go_ret
    exact ⟨rfl, rfl⟩
  · have h' : 0 ≤ at' := by omega
    go_enter Try.func52, Try.ntmps52
    go_wp2
    go_ret
    exact ⟨rfl, rfl⟩

set_option maxRecDepth 100000 in
theorem newR_yes (w : World) (s : ByteArray) (at' : Int) (hs : s.size ≤ 281474976710656) (h : 0 ≤ at') (h' : at' ≤ 8 * (s.size : Int)) : Calls Try.prog 52 #[.string s, .int .i64 at'] w fun e w' => e = .returned (.pointer (some ⟨w.heap.size, 0, none⟩)) ∧ w' = w.alloc (.cells #[.bool true, .string s, .int .i64 at'] 117) := by
    go_enter Try.func52, Try.ntmps52
    go_wp2
    go_ret
    exact ⟨rfl, rfl⟩

end Go.Proofs.Ytmgmgmbpldboiaa
namespace Go.Proofs.Ytmgmgmbpldboiaa
open Go.RowKit

/-- The closure that tells a reader's bits one by one: where it stands, the text. -/
abbrev nextV (ba bt : Nat) : Value := .func (.func 96) #[] #[.pointer (some ⟨ba, 0, none⟩), .pointer (some ⟨bt, 0, none⟩)]

def AheadPost (w : World) (s : ByteArray) (n : Nat) (e : Ending) (w' : World) : Prop :=
  ∃ ba bt, e = .returned (nextV ba bt) ∧ Blk w' ba 3 #[.int .i64 n] ∧ Blk w' bt 9 #[.string s] ∧ w.heap.size ≤ ba ∧ w.heap.size ≤ bt ∧ Step w.heap.size [] [] w w'

set_option maxRecDepth 100000 in
theorem ahead_any (w : World) (p : Nat) (s : ByteArray) (n : Nat) (hb : Blk w p 117 #[.bool true, .string s, .int .i64 n]) :
    Calls Try.prog 86 #[.pointer (some ⟨p, 0, none⟩)] w (AheadPost w s n) := by
  have c1 := blk_cell hb 1
  have c2 := blk_cell hb 2
  have hlt := blk_lt hb
  simp at c1 c2
  go_enter Try.func86, Try.ntmps86
  go_wp2
  go_region
  all_goals (go_wp2; go_ret)
  · refine ⟨w.heap.size + 1, w.heap.size, rfl, ?_, ?_, by omega, by omega, ?_⟩
    · exact (by simpa using blk_new (w.alloc (.cells #[.string s] 9)) 3 #[.int .i64 n] : Blk ((w.alloc (.cells #[.string s] 9)).alloc (.cells #[.int .i64 n] 3)) (w.heap.size + 1) 3 #[.int .i64 n])
    · exact (Below.heap_alloc (w.alloc (.cells #[.string s] 9)) (.cells #[.int .i64 n] 3) w.heap.size (by simp)).trans (blk_new w 9 #[.string s])
    · exact (((Step.refl _ _ _ w).alloc (Nat.le_refl _) _).alloc (by simp) _).drew
  · refine ⟨w.heap.size, w.heap.size + 1, rfl, ?_, ?_, by omega, by omega, ?_⟩
    · exact (Below.heap_alloc (w.alloc (.cells #[.int .i64 n] 3)) (.cells #[.string s] 9) w.heap.size (by simp)).trans (blk_new w 3 #[.int .i64 n])
    · exact (by simpa using blk_new (w.alloc (.cells #[.int .i64 n] 3)) 9 #[.string s] : Blk ((w.alloc (.cells #[.int .i64 n] 3)).alloc (.cells #[.string s] 9)) (w.heap.size + 1) 9 #[.string s])
    · exact (((Step.refl _ _ _ w).alloc (Nat.le_refl _) _).alloc (by simp) _).drew

set_option maxRecDepth 100000 in
theorem next_no (w : World) (ba bt : Nat) (s : ByteArray) (n : Nat) (ha : Blk w ba 3 #[.int .i64 n]) (ht : Blk w bt 9 #[.string s]) (hs : s.size ≤ 281474976710656) (hn : n = 8 * s.size) :
    Calls Try.prog 96 #[.pointer (some ⟨ba, 0, none⟩), .pointer (some ⟨bt, 0, none⟩)] w fun e w' => e = .returned (.tuple #[.int .u64 0, .bool false]) ∧ w = w' := by
  have c1 := blk_cell ha 0
  have c2 := blk_cell ht 0
  simp at c1 c2
  have hd : ((n : Int) == 8 * (s.size : Int)) = true := by rw [beq_iff_eq]; omega
  have HN := Lib.hid hn; clear hn
  go_enter Try.func96, Try.ntmps96
  go_wp2
  go_ret2
  exact ⟨rfl, rfl⟩

def WNextPost (w : World) (ba n b : Nat) (e : Ending) (w' : World) : Prop :=
  e = .returned (.tuple #[.int .u64 b, .bool true]) ∧ Blk w' ba 3 #[.int .i64 (n + 1 : Nat)] ∧ Step ba [ba] [] w w'

set_option maxRecDepth 100000 in
theorem bit_val (s : ByteArray) (n : Nat) (hn : n < 8 * s.size) (h : n / 8 < s.size) :
    IntKind.u64.wrap (bits BinOp.and IntKind.u8 ((s[n / 8].toNat : Int) / 2 ^ (7 - n % 8)) 1) = (((bitsB s.data.toList).getD n 0 : Nat) : Int) := by
  have h1 : ((s[n / 8].toNat : Int) / 2 ^ (7 - n % 8)) = ((s[n / 8].toNat / 2 ^ (7 - n % 8) : Nat) : Int) := by rw [Int.natCast_ediv, Int.natCast_pow]; rfl
  have hlt : s[n / 8].toNat / 2 ^ (7 - n % 8) < 256 := Nat.lt_of_le_of_lt (Nat.div_le_self _ _) (s[n / 8].toNat_lt)
  have h2 := u8_and_nat _ 1 hlt (by omega)
  rw [nat_mask1] at h2
  rw [h1]
  rw [show ((1 : Nat) : Int) = 1 from rfl] at h2
  rw [h2, List.getD_eq_getElem?_getD, bitsB_get _ _ (by simpa using hn)]
  have h3 : s.data.toList.getD (n / 8) 0 = s[n / 8] := by
    rw [List.getD_eq_getElem?_getD, List.getElem?_eq_getElem (by simpa using h)]
    rfl
  rw [h3]
  simp [IntKind.wrap, IntKind.bits, IntKind.signed]
  omega

set_option maxRecDepth 100000 in
theorem next_yes (w : World) (ba bt : Nat) (s : ByteArray) (n : Nat) (ha : Blk w ba 3 #[.int .i64 n]) (ht : Blk w bt 9 #[.string s]) (hs : s.size ≤ 281474976710656) (hn : n < 8 * s.size) :
    Calls Try.prog 96 #[.pointer (some ⟨ba, 0, none⟩), .pointer (some ⟨bt, 0, none⟩)] w (WNextPost w ba n ((bitsB s.data.toList).getD n 0)) := by
  have c1 := blk_cell ha 0
  have c2 := blk_cell ht 0
  have f1 := blk_frozen ha 0
  simp at c1 c2
  have hd : ((n : Int) == 8 * (s.size : Int)) = false := by rw [beq_eq_false_iff_ne]; omega
  have hb1 : n / 8 < s.size := by omega
  have hi0 : 0 ≤ (n : Int) / 8 := by omega
  have hi1 : (n : Int) / 8 < s.size := by omega
  go_enter Try.func96, Try.ntmps96
  go_wp2
  go_region
  go_wp2
  go_ret2
  refine ⟨?_, blk_set ha 0 _, ((Step.refl ba [ba] [] w).set (p := ⟨ba, 0, none⟩) (Nat.le_refl _) (List.mem_singleton.2 rfl) _).drew⟩
  show Ending.returned (Value.tuple #[.int .u64 _, .bool true]) = _
  rw [bit_val s n hn hb1]

end Go.Proofs.Ytmgmgmbpldboiaa
namespace Go.Proofs.Ytmgmgmbpldboiaa
open Go.RowKit

theorem or_bit (x b : Nat) (hx : x < 9223372036854775808) (hb : b < 2) : bits BinOp.or IntKind.u64 ((x : Int) * 2) (b : Int) = ((2 * x + b : Nat) : Int) := by
  have h := u64_or_nat (2 * x) b (by omega) (by omega)
  rw [nat_join 1 (2 * x) b (by omega) (by omega)] at h
  rw [← h, Int.natCast_mul, Int.mul_comm]
  rfl

theorem val_next (l : List Nat) (n j : Nat) (h : n + j < l.length) : val ((l.drop n).take (j + 1)) = 2 * val ((l.drop n).take j) + l.getD (n + j) 0 := by
  have h1 : j < (l.drop n).length := by rw [List.length_drop]; omega
  rw [List.take_succ_eq_append_getElem h1, val_snoc, List.getElem_drop, List.getD_eq_getElem?_getD, List.getElem?_eq_getElem h]
  rfl

theorem val_take_lt (l : List Nat) (n j k : Nat) (hb : Bit01 l) (hj : j ≤ k) : val ((l.drop n).take j) < 2 ^ k := by
  refine Nat.lt_of_lt_of_le (val_lt _ ((hb.drop n).take j)) (Nat.pow_le_pow_right (by omega) ?_)
  rw [List.length_take]
  omega

set_option maxRecDepth 100000 in
theorem wbit_lt (l : List Nat) (i : Nat) (hb : Bit01 l) : l.getD i 0 < 2 := by
  rw [List.getD_eq_getElem?_getD]
  rcases h : l[i]? with _ | b
  · simp
  · exact hb b (List.mem_of_getElem? h)

def TookPost (B : Nat) (w : World) (p : Nat) (s : ByteArray) (n k : Nat) (x r : Nat) (e : Ending) (w' : World) : Prop :=
  e = .returned (.tuple #[.int .u64 x, .int .i64 r]) ∧ IsR B w' p s (n + k) ∧ Step B [p] [] w w'

set_option maxRecDepth 100000 in
theorem take_ok (B : Nat) (w : World) (p : Nat) (s : ByteArray) (n k : Nat) (hR : IsR B w p s n) (hs : s.size ≤ 281474976710656) (hk : k ≤ 64) (hle : n + k ≤ 8 * s.size) :
    Calls Try.prog 72 #[.pointer (some ⟨p, 0, none⟩), .int .i64 k] w (TookPost B w p s n k (val (((bitsB s.data.toList).drop n).take k)) 0) := by
  have c0 := blk_cell hR.blk 0
  simp at c0
  go_enter Try.func72, Try.ntmps72
  go_wp2_with (first | (go_at_call 76; refine (rright_yes _ _ c0).mono ?_; rintro e w' ⟨rfl, rfl⟩) | (go_at_call 86; refine (ahead_any _ _ s n hR.blk).mono ?_; rintro e w1 ⟨ba, bt, he, ha, ht, hba, hbt, hS1⟩; unfold nextV at he; subst he))
  have hw1 := hS1.size
  go_loopw [7, 22] (fun v i wr => ∃ j x : Nat, j ≤ k ∧ i = .int .i64 j ∧ v = .int .u64 x ∧ x = val (((bitsB s.data.toList).drop n).take j) ∧ Blk wr ba 3 #[.int .i64 (n + j : Nat)] ∧ Blk wr bt 9 #[.string s] ∧ Step w.heap.size [] [] w wr) (fun _ i _ => k - (intOf i).toNat)
  case atStart => exact ⟨0, 0, Nat.zero_le _, rfl, rfl, by simp [val], ha, ht, hS1⟩
  case round =>
    obtain ⟨j, x, hj, rfl, rfl, hx, hba1, hbt1, hS⟩ := hrel
    have HX := Lib.hid hx; clear hx
    by_cases h : j < k
    · have hx2 : x < 9223372036854775808 := by
        rw [HX.out]
        exact Nat.lt_of_lt_of_eq (val_take_lt _ n j 63 (bit01_bitsB _) (by omega)) (by decide)
      obtain ⟨b, hb⟩ : ∃ b, b = (bitsB s.data.toList).getD (n + j) 0 := ⟨_, rfl⟩
      have hb2 : b < 2 := by rw [hb]; exact wbit_lt _ _ (bit01_bitsB _)
      have hn := next_yes wr ba bt s (n + j) hba1 hbt1 hs (by omega)
      rw [← hb] at hn
      have HB := Lib.hid hb; clear hb
      have HN := Lib.hid hn; clear hn
      go_wp2_with (go_at_call 96; refine HN.out.mono ?_; rintro e w2 ⟨rfl, ha2, hS2⟩)
      go_roundw
      case rel =>
        refine ⟨j + 1, 2 * x + b, h, rfl, by rw [or_bit x b hx2 hb2], ?_, ha2, hS2.blk hbt1 ?_ (by simp), hS.after hS2 hba (fun i hi => by simp at hi; subst hi; exact .inr hba) (by simp)⟩
        · rw [HX.out, HB.out, val_next]
          rw [bitsB_length]; simpa using by omega
        · intro hm
          simp at hm
          subst hm
          unfold Blk at hba1 hbt1
          rw [hba1] at hbt1
          simp at hbt1
      case measure => simp [intOf]; omega
    · obtain rfl : j = k := by omega
      have hbp := hS.blk hR.blk (by simp) (by simp)
      have c0 := blk_cell hbp 0
      have c2 := blk_cell hbp 2
      have f2 := blk_frozen hbp 2
      simp at c0 c2
      have hlo := hR.lo
      go_wp2
      go_ret2
      refine ⟨?_, ⟨hR.lo, ?_⟩, ?_⟩
      · show Ending.returned (Value.tuple #[.int .u64 x, .int .i64 0]) = _
        rw [HX.out]
        rfl
      · exact blk_set hbp 2 _
      · exact ((hS.mono (Nat.le_trans hR.lo (Nat.le_of_lt (blk_lt hR.blk))) (by simp) (by simp)).set (p := ⟨p, 2, none⟩) hR.lo (List.mem_singleton.2 rfl) _)

set_option maxRecDepth 100000 in
theorem take_short (B : Nat) (w : World) (p : Nat) (s : ByteArray) (n k : Nat) (hR : IsR B w p s n) (hs : s.size ≤ 281474976710656) (hk : k ≤ 64) (hn : n ≤ 8 * s.size) (hle : 8 * s.size < n + k) :
    Calls Try.prog 72 #[.pointer (some ⟨p, 0, none⟩), .int .i64 k] w (TookPost B w p s n 0 0 10) := by
  have c0 := blk_cell hR.blk 0
  simp at c0
  go_enter Try.func72, Try.ntmps72
  go_wp2_with (first | (go_at_call 76; refine (rright_yes _ _ c0).mono ?_; rintro e w' ⟨rfl, rfl⟩) | (go_at_call 86; refine (ahead_any _ _ s n hR.blk).mono ?_; rintro e w1 ⟨ba, bt, he, ha, ht, hba, hbt, hS1⟩; unfold nextV at he; subst he))
  have hw1 := hS1.size
  go_loopw [7, 22] (fun v i wr => ∃ j x : Nat, n + j ≤ 8 * s.size ∧ i = .int .i64 j ∧ v = .int .u64 x ∧ x = val (((bitsB s.data.toList).drop n).take j) ∧ Blk wr ba 3 #[.int .i64 (n + j : Nat)] ∧ Blk wr bt 9 #[.string s] ∧ Step w.heap.size [] [] w wr) (fun _ i _ => k - (intOf i).toNat)
  case atStart => exact ⟨0, 0, hn, rfl, rfl, by simp [val], ha, ht, hS1⟩
  case round =>
    obtain ⟨j, x, hj, rfl, rfl, hx, hba1, hbt1, hS⟩ := hrel
    have HX := Lib.hid hx; clear hx
    have h : j < k := by omega
    by_cases hin : n + j < 8 * s.size
    · have hx2 : x < 9223372036854775808 := by
        rw [HX.out]
        exact Nat.lt_of_lt_of_eq (val_take_lt _ n j 63 (bit01_bitsB _) (by omega)) (by decide)
      obtain ⟨b, hb⟩ : ∃ b, b = (bitsB s.data.toList).getD (n + j) 0 := ⟨_, rfl⟩
      have hb2 : b < 2 := by rw [hb]; exact wbit_lt _ _ (bit01_bitsB _)
      have hn := next_yes wr ba bt s (n + j) hba1 hbt1 hs (by omega)
      rw [← hb] at hn
      have HB := Lib.hid hb; clear hb
      have HN := Lib.hid hn; clear hn
      go_wp2_with (go_at_call 96; refine HN.out.mono ?_; rintro e w2 ⟨rfl, ha2, hS2⟩)
      go_roundw
      case rel =>
        refine ⟨j + 1, 2 * x + b, hin, rfl, by rw [or_bit x b hx2 hb2], ?_, ha2, hS2.blk hbt1 ?_ (by simp), hS.after hS2 hba (fun i hi => by simp at hi; subst hi; exact .inr hba) (by simp)⟩
        · rw [HX.out, HB.out, val_next]
          rw [bitsB_length]; simpa using by omega
        · intro hm
          simp at hm
          subst hm
          unfold Blk at hba1 hbt1
          rw [hba1] at hbt1
          simp at hbt1
      case measure => simp [intOf]; omega
    · have hn := next_no wr ba bt s (n + j) hba1 hbt1 hs (by omega)
      have HN := Lib.hid hn; clear hn
      go_wp2_with (go_at_call 96; refine HN.out.mono ?_; rintro e w2 ⟨rfl, rfl⟩)
      go_ret2
      exact ⟨rfl, ⟨hR.lo, hS.blk hR.blk (by simp) (by simp)⟩, hS.mono (Nat.le_trans hR.lo (Nat.le_of_lt (blk_lt hR.blk))) (by simp) (by simp)⟩

end Go.Proofs.Ytmgmgmbpldboiaa
namespace Go.Proofs.Ytmgmgmbpldboiaa
open Go.RowKit

set_option maxRecDepth 100000 in
theorem wconv_row {w : World} {B : Nat} {v : Value} {l : List UInt8} (h : w.ownsRow B 5 1 v l.length (l.map bv)) : (convert 76 9 v).run Try.prog w = .ok (.string ⟨l.toArray⟩) w := by
  rcases h.2 with ⟨rfl, h0⟩ | ⟨g, cap, cur, rfl, _⟩
  · have : l = [] := List.eq_nil_of_length_eq_zero h0
    subst this
    exact run_convert_bytes_nil w 76 5 Try.underlying76 Try.underlying5 0 0 9 Try.underlying9
  · have hn : ∀ j (hj : j < l.length), w.cell? ((⟨g, 0, none⟩ : Addr).add j) = some (.int .u8 (l[j].toNat : Int)) := by
      intro j hj
      have h1 := h.cells (g := g) rfl j (.int .u8 (l[j].toNat : Int))
      exact h1 (by rw [List.getElem?_map, List.getElem?_eq_getElem hj]; rfl)
    exact run_convert_bytes_back w 76 9 5 ⟨g, 0, none⟩ cap l Try.underlying76 Try.underlying5 Try.underlying9 hn

set_option maxRecDepth 100000 in
theorem wtext_yes (B : Nat) (w : World) (p : Nat) (v : Value) (L : List Nat) (hW : IsW B w p v L) :
    Calls Try.prog 22 #[.pointer (some ⟨p, 0, none⟩)] w fun e w' => e = .returned (.string ⟨(pack L).toArray⟩) ∧ w = w' := by
  have c0 := blk_cell hW.blk 0
  have c1 := blk_cell hW.blk 1
  simp at c0 c1
  have hc := wconv_row hW.row
  go_enter Try.func22, Try.ntmps22
  go_wp2_with (go_at_call 45; refine (wright_yes _ _ c0).mono ?_; rintro e w' ⟨rfl, rfl⟩)
  go_ret
  exact ⟨rfl, rfl⟩

end Go.Proofs.Ytmgmgmbpldboiaa
