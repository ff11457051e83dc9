/- Wj: texts laid together, what is not used left out. -/
import Derived.Test.YtmgmgmbpldboiaaZ24
import Derived.Test.YtmgmgmbpldboiaaZ25
import Derived.Deep.RegionHeld3
import Derived.BigRegion
import Derived.Deep.DeepCutAuto
namespace Go.Proofs.Ytmgmgmbpldboiaa
open Go.RowKit

theorem IsW.c0 {B : Nat} {w : World} {p : Nat} {v : Value} {L : List Nat} (h : IsW B w p v L) : w.cell? ⟨p, 0, none⟩ = some (.bool true) := blk_cell h.blk 0
theorem IsW.c2 {B : Nat} {w : World} {p : Nat} {v : Value} {L : List Nat} (h : IsW B w p v L) : w.cell? ⟨p, 2, none⟩ = some (.int .i64 L.length) := blk_cell h.blk 2
theorem IsR.c0 {B : Nat} {w : World} {p : Nat} {s : ByteArray} {n : Nat} (h : IsR B w p s n) : w.cell? ⟨p, 0, none⟩ = some (.bool true) := blk_cell h.blk 0
theorem IsR.c1 {B : Nat} {w : World} {p : Nat} {s : ByteArray} {n : Nat} (h : IsR B w p s n) : w.cell? ⟨p, 1, none⟩ = some (.string s) := blk_cell h.blk 1
theorem IsR.c2 {B : Nat} {w : World} {p : Nat} {s : ByteArray} {n : Nat} (h : IsR B w p s n) : w.cell? ⟨p, 2, none⟩ = some (.int .i64 n) := blk_cell h.blk 2
theorem lenW {B : Nat} {w : World} {p : Nat} {v : Value} {L : List Nat} (h : IsW B w p v L) : Calls Try.prog 23 #[.pointer (some ⟨p, 0, none⟩)] w fun e w' => e = .returned (.int .i64 L.length) ∧ w = w' :=
  wlen_yes w p _ h.c0 h.c2
theorem IsW.drew {B : Nat} {w : World} {p : Nat} {v : Value} {L : List Nat} (h : IsW B w p v L) : IsW B w.drew p v L := ⟨h.lo, h.blk, h.row, h.bit⟩
/-- The slice '.slice A n c' holds n pairs: X i, Y i. -/
def PairsIn (w : World) (B : Nat) (A : Option Addr) (n : Nat) (X Y : Nat → Value) : Prop :=
  0 < n → ∃ b off, A = some ⟨b, off, none⟩ ∧ b < B ∧ ∀ i, i < n → w.cell? ⟨b, off + i * 2, none⟩ = some (X i) ∧ w.cell? ⟨b, off + i * 2 + 1, none⟩ = some (Y i)
theorem PairsIn.below {w w' : World} {B : Nat} {A : Option Addr} {n : Nat} {X Y : Nat → Value} (h : PairsIn w B A n X Y) (hb : Below B w w') : PairsIn w' B A n X Y := by
  intro hn
  obtain ⟨b, off, rfl, hlt, hc⟩ := h hn
  exact ⟨b, off, rfl, hlt, fun i hi => ⟨(hb.cell (p := ⟨b, _, none⟩) hlt).trans (hc i hi).1, (hb.cell (p := ⟨b, _, none⟩) hlt).trans (hc i hi).2⟩⟩
/-- May bits be: s has just the bytes that n bits take, and behind them 0 bits alone. -/
def mayB (s : ByteArray) (n : Int) : Bool :=
  decide (0 ≤ n ∧ n ≤ 8 * (s.size : Int) ∧ 8 * (s.size : Int) < n + 8) && ((bitsB s.data.toList).drop n.toNat).all (· == 0)
theorem may_parts {s : ByteArray} {k : Nat} : mayB s k = true ↔ (k ≤ 8 * s.size ∧ 8 * s.size < k + 8 ∧ ((bitsB s.data.toList).drop k).all (· == 0) = true) := by
  unfold mayB
  rw [Bool.and_eq_true, decide_eq_true_iff, Int.toNat_natCast]
  constructor
  · rintro ⟨⟨_, h1, h2⟩, h3⟩
    exact ⟨by omega, by omega, h3⟩
  · rintro ⟨h1, h2, h3⟩
    exact ⟨⟨by omega, by omega, by omega⟩, h3⟩
theorem may_nat {s : ByteArray} {n : Int} (h : mayB s n = true) : ∃ k : Nat, n = k ∧ k ≤ 8 * s.size := by
  unfold mayB at h
  rw [Bool.and_eq_true, decide_eq_true_iff] at h
  exact ⟨n.toNat, by omega, by omega⟩
theorem may_neg (s : ByteArray) (n : Int) (h : n < 0) : mayB s n = false := by
  unfold mayB
  have : decide (0 ≤ n ∧ n ≤ 8 * (s.size : Int) ∧ 8 * (s.size : Int) < n + 8) = false := by rw [decide_eq_false_iff_not]; omega
  rw [this, Bool.false_and]
theorem may_whole (s : ByteArray) (k : Nat) (h : k % 8 = 0) : mayB s k = decide (s.size = k / 8) := by
  rw [Bool.eq_iff_iff, may_parts, decide_eq_true_iff]
  constructor
  · rintro ⟨h1, h2, _⟩
    omega
  · intro h1
    refine ⟨by omega, by omega, ?_⟩
    have hl : (bitsB s.data.toList).length = 8 * s.size := by rw [bitsB_length]; rfl
    rw [List.drop_of_length_le (by rw [hl]; omega)]
    rfl
theorem may_rest_no (s : ByteArray) (k : Nat) (h : k % 8 ≠ 0) (h1 : s.size ≠ k / 8 + 1) : mayB s k = false := by
  rw [Bool.eq_false_iff]
  intro h2
  have := may_parts.1 h2
  omega
set_option maxRecDepth 100000 in
theorem zeros_iff (v m : Nat) : (bitsN v m).all (· == 0) = true ↔ v % 2 ^ m = 0 := by
  constructor
  · intro h
    have h1 : bitsN v m = List.replicate m 0 := by
      rw [List.eq_replicate_iff]
      refine ⟨bitsN_length m v, fun b hb => ?_⟩
      have := List.all_eq_true.1 h b hb
      simpa using this
    rw [← val_bitsN, h1, ← bitsN_zero, val_bitsN, Nat.zero_mod]
  · intro h
    have h1 := bitsN_val (bitsN v m) (bit01_bitsN m v)
    rw [bitsN_length, val_bitsN, h, bitsN_zero] at h1
    rw [← h1]
    simp
set_option maxRecDepth 100000 in
theorem low_iff (c r : Nat) (hr : r ≤ 8) : c * 2 ^ r % 256 = 0 ↔ c % 2 ^ (8 - r) = 0 := by
  have e : 256 = 2 ^ (8 - r) * 2 ^ r := by rw [← Nat.pow_add, show 8 - r + r = 8 by omega]
  conv => lhs; lhs; rhs; rw [e]
  rw [Nat.mul_mod_mul_right]
  constructor
  · intro h
    rcases Nat.mul_eq_zero.1 h with h | h
    · exact h
    · have := Nat.two_pow_pos r; omega
  · intro h
    rw [h, Nat.zero_mul]
theorem may_rest (s : ByteArray) (k : Nat) (h : k % 8 ≠ 0) (h1 : s.size = k / 8 + 1) (hlt : k / 8 < s.size) : mayB s k = decide (s[k / 8].toNat * 2 ^ (k % 8) % 256 = 0) := by
  rw [Bool.eq_iff_iff, may_parts, decide_eq_true_iff, low_iff _ _ (by omega), ← zeros_iff]
  have hd : (bitsB s.data.toList).drop k = bitsN s[k / 8].toNat (8 - k % 8) := by
    have hl : s.data.toList.length = k / 8 + 1 := by rw [← h1]; rfl
    have hjl : k / 8 < s.data.toList.length := by omega
    have e : s.data.toList = s.data.toList.take (k / 8) ++ [s[k / 8]] := by
      have e1 := List.take_succ_eq_append_getElem hjl
      rw [List.take_of_length_le (by omega)] at e1
      exact e1
    have hlen : (bitsB (s.data.toList.take (k / 8))).length = 8 * (k / 8) := by rw [bitsB_length, List.length_take]; omega
    have hb8 : bitsN s[k / 8].toNat 8 = bitsN (s[k / 8].toNat / 2 ^ (8 - k % 8)) (k % 8) ++ bitsN s[k / 8].toNat (8 - k % 8) := by
      rw [← bitsN_add, show k % 8 + (8 - k % 8) = 8 by omega]
    conv => lhs; rw [e]
    rw [bitsB_append, bitsB_cons, bitsB_nil, List.append_nil]
    conv => lhs; lhs; rw [show k = 8 * (k / 8) + k % 8 by omega]
    rw [← List.drop_drop, List.drop_left' hlen, hb8, List.drop_left' (bitsN_length _ _)]
  rw [hd]
  constructor
  · rintro ⟨_, _, h3⟩
    exact h3
  · intro h3
    exact ⟨by omega, by omega, h3⟩
/-- The bits of the first i pieces, one behind the other; how many bytes their texts have. -/
def joinL (T : Nat → ByteArray) (K : Nat → Int) : Nat → List Nat
  | 0 => []
  | i + 1 => joinL T K i ++ (bitsB (T i).data.toList).take (K i).toNat
def totS (T : Nat → ByteArray) : Nat → Nat
  | 0 => 0
  | i + 1 => totS T i + (T i).size
set_option maxRecDepth 100000 in
theorem joinL_length (T : Nat → ByteArray) (K : Nat → Int) (i : Nat) : (joinL T K i).length ≤ 8 * totS T i := by
  induction i with
  | zero => simp [joinL]
  | succ i ih =>
    have hl : (bitsB (T i).data.toList).length = 8 * (T i).size := by rw [bitsB_length]; rfl
    rw [joinL, totS, List.length_append, List.length_take]
    omega
theorem totS_mono (T : Nat → ByteArray) {i j : Nat} (h : i ≤ j) : totS T i ≤ totS T j := by
  induction h with
  | refl => exact Nat.le_refl _
  | step _ ih => exact Nat.le_trans ih (by rw [totS]; omega)
theorem take_more (l : List Nat) (a i k : Nat) : (l.drop a).take (i + k) = (l.drop a).take i ++ (l.drop (a + i)).take k := by
  rw [List.take_add, List.drop_drop]
theorem bitsN_took (l : List Nat) (a k : Nat) (hb : Bit01 l) (h : a + k ≤ l.length) : bitsN (val ((l.drop a).take k)) k = (l.drop a).take k := by
  have h1 := bitsN_val ((l.drop a).take k) ((hb.drop a).take k)
  rwa [List.length_take, List.length_drop, Nat.min_eq_left (by omega)] at h1
def CarryPost (B : Nat) (w : World) (p q : Nat) (L : List Nat) (s : ByteArray) (a m : Nat) (e : Ending) (w' : World) : Prop :=
  e = .returned (.tuple #[]) ∧ (∃ v', IsW B w' p v' (L ++ ((bitsB s.data.toList).drop a).take m)) ∧ IsR B w' q s (a + m) ∧ Step B [p, q] [5] w w'
set_option maxRecDepth 100000 in
set_option maxHeartbeats 800000 in
theorem carry_ok (B : Nat) (w : World) (p q : Nat) (v : Value) (L : List Nat) (s : ByteArray) (a m : Nat) (hW : IsW B w p v L) (hR : IsR B w q s a) (hs : s.size ≤ 281474976710656) (ham : a + m ≤ 8 * s.size) (hL : L.length + m ≤ 1000000000000) :
    Calls Try.prog 51 #[.pointer (some ⟨p, 0, none⟩), .pointer (some ⟨q, 0, none⟩), .int .i64 m] w (CarryPost B w p q L s a m) := by
  have hbl : (bitsB s.data.toList).length = 8 * s.size := by rw [bitsB_length]; rfl
  have HBL := Lib.hid hbl
  clear hbl
  go_enter Try.func51, Try.ntmps51
  go_wp2
  go_loopw [2] (fun i wr => ∃ (r : Nat) (v' : Value), r ≤ m ∧ i = .int .i64 r ∧ IsW B wr p v' (L ++ ((bitsB s.data.toList).drop a).take (m - r)) ∧ IsR B wr q s (a + (m - r)) ∧ Step B [p, q] [5] w wr) (fun i _ => (intOf i).toNat)
  case atStart => exact ⟨m, v, Nat.le_refl _, rfl, by simpa using hW, by simpa using hR, Step.refl _ _ _ _⟩
  case round =>
    obtain ⟨r, v', hr, rfl, hW1, hR1, hS⟩ := hrel
    have hlen : (L ++ ((bitsB s.data.toList).drop a).take (m - r)).length ≤ 1000000000000 := by
      rw [List.length_append, List.length_take]; omega
    by_cases h : 0 < r
    · by_cases h64 : r ≤ 64
      · have hT := take_ok B wr q s (a + (m - r)) r hR1 hs h64 (by omega)
        have hx : val (((bitsB s.data.toList).drop (a + (m - r))).take r) < 2 ^ r := val_take_lt _ _ _ _ (bit01_bitsB _) (Nat.le_refl _)
        have hbk := bitsN_took (bitsB s.data.toList) (a + (m - r)) r (bit01_bitsB _) (by rw [HBL.out]; omega)
        generalize val (((bitsB s.data.toList).drop (a + (m - r))).take r) = x at *
        have HT := Lib.hid hT
        have HB := Lib.hid hbk
        clear hT hbk
        go_wp2_with fail
        refine HT.out.mono ?_
        rintro e w2 ⟨rfl, hR2, hS2⟩
        have hW2 := hW1.take hR1 hS2
        go_wp2_with fail
        refine (put_ok _ _ _ _ _ _ _ hW2 hlen h64 hx).mono ?_
        rintro e w3 ⟨rfl, v3, hW3, hS3⟩
        have hR3 := hR2.put hW2 hS3
        have hSS := (hS.trans (hS2.mono (Nat.le_refl _) (by simp) (by simp))).trans (hS3.mono (Nat.le_refl _) (by simp) (by simp))
        rw [HB.out, List.append_assoc, ← take_more, show m - r + r = m - 0 by omega] at hW3
        rw [Nat.add_assoc, show m - r + r = m - 0 by omega] at hR3
        go_wp2_with fail
        go_roundw
        case rel => exact ⟨0, v3, Nat.zero_le _, rfl, hW3, hR3, hSS⟩
        case measure => simp [intOf]; omega
      · have h64' : 64 < r := by omega
        have hT := take_ok B wr q s (a + (m - r)) 64 hR1 hs (Nat.le_refl _) (by omega)
        have hx : val (((bitsB s.data.toList).drop (a + (m - r))).take 64) < 2 ^ 64 := val_take_lt _ _ _ _ (bit01_bitsB _) (Nat.le_refl _)
        have hbk := bitsN_took (bitsB s.data.toList) (a + (m - r)) 64 (bit01_bitsB _) (by rw [HBL.out]; omega)
        generalize val (((bitsB s.data.toList).drop (a + (m - r))).take 64) = x at *
        have HT : Hid (Calls Try.prog 72 #[.pointer (some ⟨q, 0, none⟩), .int .i64 64] wr (TookPost B wr q s (a + (m - r)) 64 x 0)) := Lib.hid hT
        have HB := Lib.hid hbk
        clear hT hbk h64
        go_wp2_with fail
        refine HT.out.mono ?_
        rintro e w2 ⟨rfl, hR2, hS2⟩
        have hW2 := hW1.take hR1 hS2
        have hP : Calls Try.prog 41 #[.pointer (some ⟨p, 0, none⟩), .int .u64 x, .int .i64 64] w2 _ := put_ok _ _ _ _ _ _ 64 hW2 hlen (Nat.le_refl _) hx
        have HP := Lib.hid hP
        clear hP
        go_wp2_with fail
        refine HP.out.mono ?_
        rintro e w3 ⟨rfl, v3, hW3, hS3⟩
        have hR3 := hR2.put hW2 hS3
        have hSS := (hS.trans (hS2.mono (Nat.le_refl _) (by simp) (by simp))).trans (hS3.mono (Nat.le_refl _) (by simp) (by simp))
        rw [HB.out, List.append_assoc, ← take_more, show m - r + 64 = m - (r - 64) by omega] at hW3
        rw [Nat.add_assoc, show m - r + 64 = m - (r - 64) by omega] at hR3
        go_wp2_with fail
        go_roundw
        case rel =>
          have hint : ((r - 64 : Nat) : Int) = (r : Int) - 64 := by omega
          exact ⟨r - 64, v3, by omega, by rw [hint], hW3, hR3, hSS⟩
        case measure => simp [intOf]; omega
    · obtain rfl : r = 0 := by omega
      rw [Nat.sub_zero] at hW1 hR1
      go_wp2
      go_end0
      exact ⟨rfl, ⟨v', hW1⟩, hR1, hS⟩
def SlicePost (w : World) (t : List UInt8) (n r : Nat) (e : Ending) (w' : World) : Prop :=
  e = .returned (.tuple #[.agg #[.string ⟨t.toArray⟩, .int .i64 n], .int .i64 r]) ∧ Below w.heap.size w w'
def MayPost (w : World) (b : Bool) (e : Ending) (w' : World) : Prop := e = .returned (.bool b) ∧ Below w.heap.size w w'

set_option maxRecDepth 100000 in
theorem may_walk (w : World) (s : ByteArray) (n : Int) (hs : s.size ≤ 100000000) (hn : -9223372036854775808 ≤ n ∧ n ≤ 9223372036854775807) :
    Calls Try.prog 50 #[.agg #[.string s, .int .i64 n]] w (MayPost w (mayB s n)) := by
  have hbl : Below w.heap.size w (w.alloc (.cells #[.string s, .int .i64 n] 35)) := (Below.refl _ _).alloc (Nat.le_refl _) _
  by_cases hneg : n < 0
  · rw [may_neg s n hneg]
    go_enter Try.func50, Try.ntmps50
    go_wp2
    go_ret
    exact ⟨rfl, hbl⟩
  obtain ⟨k, rfl⟩ := Int.eq_ofNat_of_zero_le (show 0 ≤ n by omega)
  by_cases h8 : k % 8 = 0
  · have hb : ((s.size : Int) == (k : Int) / 8) = mayB s k := by
      rw [may_whole s k h8, Bool.eq_iff_iff, beq_iff_eq, decide_eq_true_iff]; omega
    have hd : ((k : Int) % 8 == 0) = true := by rw [beq_iff_eq]; omega
    rw [← hb]
    have HB := Lib.hid hb
    have H8 := Lib.hid h8
    clear hb h8
    go_enter Try.func50, Try.ntmps50
    go_wp2
    go_region
    go_wp2
    go_ret
    exact ⟨rfl, by first | exact hbl | exact hbl.drew⟩
  have hd : ((k : Int) % 8 == 0) = false := by rw [beq_eq_false_iff_ne]; omega
  by_cases h1 : s.size = k / 8 + 1
  · have hlt : k / 8 < s.size := by omega
    have hb : ((s[k / 8].toNat : Int) * 2 ^ (k % 8) % 256 == 0) = mayB s k := by
      rw [may_rest s k h8 h1 hlt, Bool.eq_iff_iff, beq_iff_eq, decide_eq_true_iff]
      have e : ((s[k / 8].toNat : Int) * 2 ^ (k % 8) % 256) = ((s[k / 8].toNat * 2 ^ (k % 8) % 256 : Nat) : Int) := by rw [Int.natCast_emod, Int.natCast_mul, Int.natCast_pow]; rfl
      rw [e]
      omega
    have hq : ((s.size : Int) == (k : Int) / 8 + 1) = true := by rw [beq_iff_eq]; omega
    have hi0 : 0 ≤ (k : Int) / 8 := by omega
    have hi1 : (k : Int) / 8 < s.size := by omega
    rw [← hb]
    have HB := Lib.hid hb
    have H8 := Lib.hid h8
    have H1 := Lib.hid h1
    clear hb h8 h1
    go_enter Try.func50, Try.ntmps50
    go_wp2
    go_region
    go_wp2
    go_ret
    exact ⟨rfl, by first | exact hbl | exact hbl.drew⟩
  · have hq : ((s.size : Int) == (k : Int) / 8 + 1) = false := by rw [beq_eq_false_iff_ne]; omega
    rw [may_rest_no s k h8 h1]
    have H8 := Lib.hid h8
    have H1 := Lib.hid h1
    clear h8 h1
    go_enter Try.func50, Try.ntmps50
    go_wp2
    go_region
    go_wp2
    go_ret
    exact ⟨rfl, by first | exact hbl | exact hbl.drew⟩

set_option maxRecDepth 100000 in
set_option maxHeartbeats 800000 in
theorem join_ok (w : World) (A : Option Addr) (n c : Nat) (T : Nat → ByteArray) (K : Nat → Int) (hp : PairsIn w w.heap.size A n (fun i => .string (T i)) (fun i => .int .i64 (K i))) (hn : n ≤ maxLen)
    (htot : totS T n ≤ 1000000000) (hone : ∀ i, i < n → (T i).size ≤ 100000000) (hK : ∀ i, i < n → -9223372036854775808 ≤ K i ∧ K i ≤ 9223372036854775807) (hall : ∀ i, i < n → mayB (T i) (K i) = true) :
    Calls Try.prog 25 #[.slice A n c] w (SlicePost w (pack (joinL T K n)) (joinL T K n).length 0) := by
  unfold maxLen at hn
  go_enter Try.func25, Try.ntmps25
  go_wp2_with fail
  refine (newW _).mono ?_
  rintro e w1 ⟨rfl, hw1⟩
  have hsz : (World.alloc w (.cells #[.string ⟨#[]⟩, .int .i64 0] 35)).heap.size = w.heap.size + 1 := by simp
  rw [hsz]
  have hW1 : IsW w.heap.size w1 (w.heap.size + 1) (.slice none 0 0) [] := by
    have := isW_new (w.alloc (.cells #[.string ⟨#[]⟩, .int .i64 0] 35)) w.heap.size (by simp)
    rw [hsz] at this
    rw [hw1]
    exact this
  have hk1 : Blk w1 w.heap.size 35 #[.string ⟨#[]⟩, .int .i64 0] := by
    rw [hw1]
    exact (Below.heap_alloc _ _ _ (by simp)).trans (blk_new w 35 _)
  have hb1 : Below w.heap.size w w1 := by
    rw [hw1]
    exact ((Below.refl _ _).alloc (Nat.le_refl _) _).alloc (by simp) _
  have HW1 := Lib.hid hw1
  clear hw1 hsz
  go_wp2_with fail
  go_loopw [10] (fun i wr => ∃ (j : Nat) (v : Value), j ≤ n ∧ i = .int .i64 j ∧ IsW w.heap.size wr (w.heap.size + 1) v (joinL T K j) ∧ Blk wr w.heap.size 35 #[.string ⟨#[]⟩, .int .i64 0] ∧ Below w.heap.size w wr) (fun i _ => n - (intOf i).toNat)
  case atStart => exact ⟨0, _, Nat.zero_le _, rfl, hW1, hk1, hb1⟩
  case round =>
    obtain ⟨j, v, hj, rfl, hW, hk, hb⟩ := hrel
    have hjl := joinL_length T K j
    have hjt := totS_mono T hj
    have hz := hb.size
    by_cases h : j < n
    · obtain ⟨b, off, rfl, hbB, hc⟩ := hp (by omega)
      obtain ⟨k, hkk, hk8⟩ := may_nat (hall j h)
      have hTj := hone j h
      have hmay := may_walk (wr.alloc (.cells #[.string (T j), .int .i64 k] 35)) (T j) (K j) (by omega) (hK j h)
      rw [hall j h, hkk] at hmay
      have g1 : wr.cell? ⟨b, off + j * 2, none⟩ = some (.string (T j)) := (hb.cell (p := ⟨b, off + j * 2, none⟩) hbB).trans (hc j h).1
      have g2 : wr.cell? ⟨b, off + j * 2 + 1, none⟩ = some (.int .i64 k) := by rw [← hkk]; exact (hb.cell (p := ⟨b, off + j * 2 + 1, none⟩) hbB).trans (hc j h).2
      have HM := Lib.hid hmay
      have HKK := Lib.hid hkk
      clear hmay hkk hc
      have hWa := hW.alloc (.cells #[.string (T j), .int .i64 k] 35)
      go_wp2_with fail
      refine HM.out.mono ?_
      rintro e w2 ⟨rfl, hb2⟩
      have hs2 := step_of_below hb2
      have hW2 : IsW w.heap.size w2.drew (w.heap.size + 1) v (joinL T K j) := (hWa.step hs2 (by simp) (by simp) (by simp) (by simp)).drew
      have hk2 : Blk w2.drew w.heap.size 35 #[.string ⟨#[]⟩, .int .i64 0] := hs2.blk ((Below.heap_alloc _ _ _ (blk_lt hk)).trans hk) (by simp) (by simp)
      have hq2 : Blk w2.drew wr.heap.size 35 #[.string (T j), .int .i64 k] := hs2.blk (blk_new wr 35 _) (by simp) (by simp)
      have hbl2 : Below w.heap.size w w2.drew := ((hb.alloc hz _).trans (hb2.mono (by simp; omega))).drew
      have e1 : w2.cell? ⟨wr.heap.size, 0, none⟩ = some (.string (T j)) := blk_cell hq2 0
      have e2 : w2.cell? ⟨wr.heap.size, 1, none⟩ = some (.int .i64 k) := blk_cell hq2 1
      have hz2 := hbl2.size
      have hmem : wr.heap.size ∉ [w.heap.size + 1, w2.drew.heap.size] := by
        have h1 := blk_lt hW.blk
        have h2 := blk_lt hq2
        simp only [List.mem_cons, List.not_mem_nil, or_false]
        omega
      have hmem0 : w.heap.size ∉ [w.heap.size + 1, w2.drew.heap.size] := by
        have h2 := blk_lt hk2
        simp only [List.mem_cons, List.not_mem_nil, or_false]
        omega
      go_upto_region 7 with fail
      go_region_held3 (fun w' => w'.cell? ⟨wr.heap.size, 0, none⟩ = some (.string (T j)) ∧ w'.cell? ⟨wr.heap.size, 1, none⟩ = some (.int .i64 k)) (first | exact ⟨e1, e2⟩ | exact ⟨blk_cell hq4 0, blk_cell hq4 1⟩ | exact ⟨blk_cell hq3 0, blk_cell hq3 1⟩ | go_keep)
        (first | (go_at_call 52; refine (newR_yes _ _ 0 (by omega) (by omega) (by omega)).mono ?_; rintro e w3 ⟨rfl, hw3⟩; have hW3 : IsW w.heap.size w3 (w.heap.size + 1) v (joinL T K j) := (by rw [hw3]; exact hW2.alloc _); have hR3 : IsR w.heap.size w3 w2.drew.heap.size (T j) 0 := (by rw [hw3]; exact isR_new w2.drew _ hz2 (T j) 0); have hq3 : Blk w3 wr.heap.size 35 #[.string (T j), .int .i64 k] := (by rw [hw3]; exact (Below.heap_alloc _ _ _ (blk_lt hq2)).trans hq2); have hk3 : Blk w3 w.heap.size 35 #[.string ⟨#[]⟩, .int .i64 0] := (by rw [hw3]; exact (Below.heap_alloc _ _ _ (blk_lt hk2)).trans hk2); have hbl3 : Below w.heap.size w w3 := (by rw [hw3]; exact hbl2.alloc hz2 _); clear hw3) | (go_at_call 51; refine (carry_ok _ _ _ _ _ _ _ 0 k hW3 hR3 (by omega) (by omega) (by omega)).mono ?_; rintro e w4 ⟨rfl, ⟨v4, hW4⟩, hR4, hS4⟩; have hq4 := hS4.blk hq3 hmem (by simp)))
      have hk4 := hS4.blk hk3 hmem0 (by simp)
      have hjn : joinL T K j ++ ((bitsB (T j).data.toList).drop 0).take k = joinL T K (j + 1) := by
        rw [joinL, HKK.out, Int.toNat_natCast, List.drop_zero]
      rw [hjn] at hW4
      have HJN := Lib.hid hjn
      clear hjn
      have hbl4 := hbl3.trans hS4.below
      go_wp2_with fail
      go_roundw
      case rel => exact ⟨j + 1, v4, h, by go_num, hW4, hk4, hbl4⟩
      case measure => simp [intOf]; omega
    · obtain rfl : j = n := by omega
      have q0 : wr.cell? ⟨w.heap.size, 0, none⟩ = some (.string ⟨#[]⟩) := blk_cell hk 0
      have q1 : wr.cell? ⟨w.heap.size, 1, none⟩ = some (.int .i64 0) := blk_cell hk 1
      have f0 := blk_frozen hk 0
      have f1 := blk_frozen hk 1
      go_wp2_with (first | (go_at_call 22; refine (wtext_yes _ _ _ _ _ hW).mono ?_; rintro e w' ⟨rfl, rfl⟩) | (go_at_call 23; refine (lenW hW).mono ?_; rintro e w' ⟨rfl, rfl⟩))
      refine bodyPost_ret (v := .tuple #[.agg #[.string ⟨(pack (joinL T K j)).toArray⟩, .int .i64 (joinL T K j).length], .int .i64 0]) ?_ rfl ⟨rfl, ?_⟩
      · simp [results, Try.results25, go_sem, q0, q1]
      · exact (hb.setCell (p := ⟨w.heap.size, 0, none⟩) (Nat.le_refl _) _).setCell (p := ⟨w.heap.size, 1, none⟩) (Nat.le_refl _) _

end Go.Proofs.Ytmgmgmbpldboiaa
