/- Wc Wd We Wp Wb: texts laid together, what is not used left out. -/
import Derived.Test.YtmgmgmbpldboiaaGreatZ27
import Derived.RegionTactic
import Derived.BigRegion
import Derived.Laws.BitsAllLaws
import Derived.LoopTactic
import Derived.Deep.LoopGhost
import Derived.Laws.IdiomStrings
import Derived.Laws.BytesArg
import Derived.IntWalk
import Derived.Deep.DeepCutAuto
import Derived.StillTailTactics
import Derived.Laws.AppendOwn
namespace Go.Proofs.YtmgmgmbpldboiaaGreat
open Go.RowKit

/-- The closure that tells a reader's bits one by one: where it stands, the text. -/
abbrev nextV (ba bt : Nat) : Value := .func (.func 148) #[] #[.pointer (some ⟨ba, 0, none⟩), .pointer (some ⟨bt, 0, none⟩)]

def AheadPost (w : World) (s : ByteArray) (n : Nat) (e : Ending) (w' : World) : Prop :=
  ∃ ba bt, e = .returned (nextV ba bt) ∧ Blk w' ba 3 #[.int .i64 n] ∧ Blk w' bt 9 #[.string s] ∧ w.heap.size ≤ ba ∧ w.heap.size ≤ bt ∧ Step w.heap.size [] [] w w'

set_option maxRecDepth 100000 in
theorem ahead_any (w : World) (p : Nat) (s : ByteArray) (n : Nat) (hb : Blk w p 115 #[.bool true, .string s, .int .i64 n]) :
    Calls Tryz.prog 127 #[.pointer (some ⟨p, 0, none⟩)] w (AheadPost w s n) := by
  have c1 := blk_cell hb 1
  have c2 := blk_cell hb 2
  have hlt := blk_lt hb
  simp at c1 c2
  go_enter Tryz.func127, Tryz.ntmps127
  go_wp2
  go_region
  all_goals (go_wp2; go_ret)
  · refine ⟨w.heap.size + 1, w.heap.size, rfl, ?_, ?_, by omega, by omega, ?_⟩
    · exact (by simpa using blk_new (w.alloc (.cells #[.string s] 9)) 3 #[.int .i64 n] : Blk ((w.alloc (.cells #[.string s] 9)).alloc (.cells #[.int .i64 n] 3)) (w.heap.size + 1) 3 #[.int .i64 n])
    · exact (Below.heap_alloc (w.alloc (.cells #[.string s] 9)) (.cells #[.int .i64 n] 3) w.heap.size (by simp)).trans (blk_new w 9 #[.string s])
    · exact (((Step.refl _ _ _ w).alloc (Nat.le_refl _) _).alloc (by simp) _).drew
  · refine ⟨w.heap.size, w.heap.size + 1, rfl, ?_, ?_, by omega, by omega, ?_⟩
    · exact (Below.heap_alloc (w.alloc (.cells #[.int .i64 n] 3)) (.cells #[.string s] 9) w.heap.size (by simp)).trans (blk_new w 3 #[.int .i64 n])
    · exact (by simpa using blk_new (w.alloc (.cells #[.int .i64 n] 3)) 9 #[.string s] : Blk ((w.alloc (.cells #[.int .i64 n] 3)).alloc (.cells #[.string s] 9)) (w.heap.size + 1) 9 #[.string s])
    · exact (((Step.refl _ _ _ w).alloc (Nat.le_refl _) _).alloc (by simp) _).drew

set_option maxRecDepth 100000 in
theorem next_no (w : World) (ba bt : Nat) (s : ByteArray) (n : Nat) (ha : Blk w ba 3 #[.int .i64 n]) (ht : Blk w bt 9 #[.string s]) (hs : s.size ≤ 281474976710656) (hn : n = 8 * s.size) :
    Calls Tryz.prog 148 #[.pointer (some ⟨ba, 0, none⟩), .pointer (some ⟨bt, 0, none⟩)] w fun e w' => e = .returned (.tuple #[.int .u64 0, .bool false]) ∧ w = w' := by
  have c1 := blk_cell ha 0
  have c2 := blk_cell ht 0
  simp at c1 c2
  have hd : ((n : Int) == 8 * (s.size : Int)) = true := by rw [beq_iff_eq]; omega
  have HN := Lib.hid hn; clear hn
  go_enter Tryz.func148, Tryz.ntmps148
  go_wp2
  go_ret2
  exact ⟨rfl, rfl⟩

def WNextPost (w : World) (ba n b : Nat) (e : Ending) (w' : World) : Prop :=
  e = .returned (.tuple #[.int .u64 b, .bool true]) ∧ Blk w' ba 3 #[.int .i64 (n + 1 : Nat)] ∧ Step ba [ba] [] w w'

set_option maxRecDepth 100000 in
theorem bit_val (s : ByteArray) (n : Nat) (hn : n < 8 * s.size) (h : n / 8 < s.size) :
    IntKind.u64.wrap (bits BinOp.and IntKind.u8 ((s[n / 8].toNat : Int) / 2 ^ (7 - n % 8)) 1) = (((bitsB s.data.toList).getD n 0 : Nat) : Int) := by
  have h1 : ((s[n / 8].toNat : Int) / 2 ^ (7 - n % 8)) = ((s[n / 8].toNat / 2 ^ (7 - n % 8) : Nat) : Int) := by rw [Int.natCast_ediv, Int.natCast_pow]; rfl
  have hlt : s[n / 8].toNat / 2 ^ (7 - n % 8) < 256 := Nat.lt_of_le_of_lt (Nat.div_le_self _ _) (s[n / 8].toNat_lt)
  have h2 := u8_and_nat _ 1 hlt (by omega)
  rw [nat_mask1] at h2
  rw [h1]
  rw [show ((1 : Nat) : Int) = 1 from rfl] at h2
  rw [h2, List.getD_eq_getElem?_getD, bitsB_get _ _ (by simpa using hn)]
  have h3 : s.data.toList.getD (n / 8) 0 = s[n / 8] := by
    rw [List.getD_eq_getElem?_getD, List.getElem?_eq_getElem (by simpa using h)]
    rfl
  rw [h3]
  simp [IntKind.wrap, IntKind.bits, IntKind.signed]
  omega

set_option maxRecDepth 100000 in
theorem next_yes (w : World) (ba bt : Nat) (s : ByteArray) (n : Nat) (ha : Blk w ba 3 #[.int .i64 n]) (ht : Blk w bt 9 #[.string s]) (hs : s.size ≤ 281474976710656) (hn : n < 8 * s.size) :
    Calls Tryz.prog 148 #[.pointer (some ⟨ba, 0, none⟩), .pointer (some ⟨bt, 0, none⟩)] w (WNextPost w ba n ((bitsB s.data.toList).getD n 0)) := by
  have c1 := blk_cell ha 0
  have c2 := blk_cell ht 0
  have f1 := blk_frozen ha 0
  simp at c1 c2
  have hd : ((n : Int) == 8 * (s.size : Int)) = false := by rw [beq_eq_false_iff_ne]; omega
  have hb1 : n / 8 < s.size := by omega
  have hi0 : 0 ≤ (n : Int) / 8 := by omega
  have hi1 : (n : Int) / 8 < s.size := by omega
  go_enter Tryz.func148, Tryz.ntmps148
  go_wp2
  go_region
  go_wp2
  go_ret2
  refine ⟨?_, blk_set ha 0 _, ((Step.refl ba [ba] [] w).set (p := ⟨ba, 0, none⟩) (Nat.le_refl _) (List.mem_singleton.2 rfl) _).drew⟩
  show Ending.returned (Value.tuple #[.int .u64 _, .bool true]) = _
  rw [bit_val s n hn hb1]

end Go.Proofs.YtmgmgmbpldboiaaGreat
namespace Go.Proofs.YtmgmgmbpldboiaaGreat
open Go.RowKit

theorem or_bit (x b : Nat) (hx : x < 9223372036854775808) (hb : b < 2) : bits BinOp.or IntKind.u64 ((x : Int) * 2) (b : Int) = ((2 * x + b : Nat) : Int) := by
  have h := u64_or_nat (2 * x) b (by omega) (by omega)
  rw [nat_join 1 (2 * x) b (by omega) (by omega)] at h
  rw [← h, Int.natCast_mul, Int.mul_comm]
  rfl

theorem val_next (l : List Nat) (n j : Nat) (h : n + j < l.length) : val ((l.drop n).take (j + 1)) = 2 * val ((l.drop n).take j) + l.getD (n + j) 0 := by
  have h1 : j < (l.drop n).length := by rw [List.length_drop]; omega
  rw [List.take_succ_eq_append_getElem h1, val_snoc, List.getElem_drop, List.getD_eq_getElem?_getD, List.getElem?_eq_getElem h]
  rfl

theorem val_take_lt (l : List Nat) (n j k : Nat) (hb : Bit01 l) (hj : j ≤ k) : val ((l.drop n).take j) < 2 ^ k := by
  refine Nat.lt_of_lt_of_le (val_lt _ ((hb.drop n).take j)) (Nat.pow_le_pow_right (by omega) ?_)
  rw [List.length_take]
  omega

set_option maxRecDepth 100000 in
theorem wbit_lt (l : List Nat) (i : Nat) (hb : Bit01 l) : l.getD i 0 < 2 := by
  rw [List.getD_eq_getElem?_getD]
  rcases h : l[i]? with _ | b
  · simp
  · exact hb b (List.mem_of_getElem? h)

def TookPost (B : Nat) (w : World) (p : Nat) (s : ByteArray) (n k : Nat) (x r : Nat) (e : Ending) (w' : World) : Prop :=
  e = .returned (.tuple #[.int .u64 x, .int .i64 r]) ∧ IsR B w' p s (n + k) ∧ Step B [p] [] w w'

set_option maxRecDepth 100000 in
theorem take_ok (B : Nat) (w : World) (p : Nat) (s : ByteArray) (n k : Nat) (hR : IsR B w p s n) (hs : s.size ≤ 281474976710656) (hk : k ≤ 64) (hle : n + k ≤ 8 * s.size) :
    Calls Tryz.prog 86 #[.pointer (some ⟨p, 0, none⟩), .int .i64 k] w (TookPost B w p s n k (val (((bitsB s.data.toList).drop n).take k)) 0) := by
  have c0 := blk_cell hR.blk 0
  simp at c0
  go_enter Tryz.func86, Tryz.ntmps86
  go_wp2_with (first | (go_at_call 92; refine (rright_yes _ _ c0).mono ?_; rintro e w' ⟨rfl, rfl⟩) | (go_at_call 127; refine (ahead_any _ _ s n hR.blk).mono ?_; rintro e w1 ⟨ba, bt, he, ha, ht, hba, hbt, hS1⟩; unfold nextV at he; subst he))
  have hw1 := hS1.size
  go_loopw [7, 22] (fun v i wr => ∃ j x : Nat, j ≤ k ∧ i = .int .i64 j ∧ v = .int .u64 x ∧ x = val (((bitsB s.data.toList).drop n).take j) ∧ Blk wr ba 3 #[.int .i64 (n + j : Nat)] ∧ Blk wr bt 9 #[.string s] ∧ Step w.heap.size [] [] w wr) (fun _ i _ => k - (intOf i).toNat)
  case atStart => exact ⟨0, 0, Nat.zero_le _, rfl, rfl, by simp [val], ha, ht, hS1⟩
  case round =>
    obtain ⟨j, x, hj, rfl, rfl, hx, hba1, hbt1, hS⟩ := hrel
    have HX := Lib.hid hx; clear hx
    by_cases h : j < k
    · have hx2 : x < 9223372036854775808 := by
        rw [HX.out]
        exact Nat.lt_of_lt_of_eq (val_take_lt _ n j 63 (bit01_bitsB _) (by omega)) (by decide)
      obtain ⟨b, hb⟩ : ∃ b, b = (bitsB s.data.toList).getD (n + j) 0 := ⟨_, rfl⟩
      have hb2 : b < 2 := by rw [hb]; exact wbit_lt _ _ (bit01_bitsB _)
      have hn := next_yes wr ba bt s (n + j) hba1 hbt1 hs (by omega)
      rw [← hb] at hn
      have HB := Lib.hid hb; clear hb
      have HN := Lib.hid hn; clear hn
      go_wp2_with (go_at_call 148; refine HN.out.mono ?_; rintro e w2 ⟨rfl, ha2, hS2⟩)
      go_roundw
      case rel =>
        refine ⟨j + 1, 2 * x + b, h, rfl, by rw [or_bit x b hx2 hb2], ?_, ha2, hS2.blk hbt1 ?_ (by simp), hS.after hS2 hba (fun i hi => by simp at hi; subst hi; exact .inr hba) (by simp)⟩
        · rw [HX.out, HB.out, val_next]
          rw [bitsB_length]; simpa using by omega
        · intro hm
          simp at hm
          subst hm
          unfold Blk at hba1 hbt1
          rw [hba1] at hbt1
          simp at hbt1
      case measure => simp [intOf]; omega
    · obtain rfl : j = k := by omega
      have hbp := hS.blk hR.blk (by simp) (by simp)
      have c0 := blk_cell hbp 0
      have c2 := blk_cell hbp 2
      have f2 := blk_frozen hbp 2
      simp at c0 c2
      have hlo := hR.lo
      go_wp2
      go_ret2
      refine ⟨?_, ⟨hR.lo, ?_⟩, ?_⟩
      · show Ending.returned (Value.tuple #[.int .u64 x, .int .i64 0]) = _
        rw [HX.out]
        rfl
      · exact blk_set hbp 2 _
      · exact ((hS.mono (Nat.le_trans hR.lo (Nat.le_of_lt (blk_lt hR.blk))) (by simp) (by simp)).set (p := ⟨p, 2, none⟩) hR.lo (List.mem_singleton.2 rfl) _)

set_option maxRecDepth 100000 in
theorem take_short (B : Nat) (w : World) (p : Nat) (s : ByteArray) (n k : Nat) (hR : IsR B w p s n) (hs : s.size ≤ 281474976710656) (hk : k ≤ 64) (hn : n ≤ 8 * s.size) (hle : 8 * s.size < n + k) :
    Calls Tryz.prog 86 #[.pointer (some ⟨p, 0, none⟩), .int .i64 k] w (TookPost B w p s n 0 0 10) := by
  have c0 := blk_cell hR.blk 0
  simp at c0
  go_enter Tryz.func86, Tryz.ntmps86
  go_wp2_with (first | (go_at_call 92; refine (rright_yes _ _ c0).mono ?_; rintro e w' ⟨rfl, rfl⟩) | (go_at_call 127; refine (ahead_any _ _ s n hR.blk).mono ?_; rintro e w1 ⟨ba, bt, he, ha, ht, hba, hbt, hS1⟩; unfold nextV at he; subst he))
  have hw1 := hS1.size
  go_loopw [7, 22] (fun v i wr => ∃ j x : Nat, n + j ≤ 8 * s.size ∧ i = .int .i64 j ∧ v = .int .u64 x ∧ x = val (((bitsB s.data.toList).drop n).take j) ∧ Blk wr ba 3 #[.int .i64 (n + j : Nat)] ∧ Blk wr bt 9 #[.string s] ∧ Step w.heap.size [] [] w wr) (fun _ i _ => k - (intOf i).toNat)
  case atStart => exact ⟨0, 0, hn, rfl, rfl, by simp [val], ha, ht, hS1⟩
  case round =>
    obtain ⟨j, x, hj, rfl, rfl, hx, hba1, hbt1, hS⟩ := hrel
    have HX := Lib.hid hx; clear hx
    have h : j < k := by omega
    by_cases hin : n + j < 8 * s.size
    · have hx2 : x < 9223372036854775808 := by
        rw [HX.out]
        exact Nat.lt_of_lt_of_eq (val_take_lt _ n j 63 (bit01_bitsB _) (by omega)) (by decide)
      obtain ⟨b, hb⟩ : ∃ b, b = (bitsB s.data.toList).getD (n + j) 0 := ⟨_, rfl⟩
      have hb2 : b < 2 := by rw [hb]; exact wbit_lt _ _ (bit01_bitsB _)
      have hn := next_yes wr ba bt s (n + j) hba1 hbt1 hs (by omega)
      rw [← hb] at hn
      have HB := Lib.hid hb; clear hb
      have HN := Lib.hid hn; clear hn
      go_wp2_with (go_at_call 148; refine HN.out.mono ?_; rintro e w2 ⟨rfl, ha2, hS2⟩)
      go_roundw
      case rel =>
        refine ⟨j + 1, 2 * x + b, hin, rfl, by rw [or_bit x b hx2 hb2], ?_, ha2, hS2.blk hbt1 ?_ (by simp), hS.after hS2 hba (fun i hi => by simp at hi; subst hi; exact .inr hba) (by simp)⟩
        · rw [HX.out, HB.out, val_next]
          rw [bitsB_length]; simpa using by omega
        · intro hm
          simp at hm
          subst hm
          unfold Blk at hba1 hbt1
          rw [hba1] at hbt1
          simp at hbt1
      case measure => simp [intOf]; omega
    · have hn := next_no wr ba bt s (n + j) hba1 hbt1 hs (by omega)
      have HN := Lib.hid hn; clear hn
      go_wp2_with (go_at_call 148; refine HN.out.mono ?_; rintro e w2 ⟨rfl, rfl⟩)
      go_ret2
      exact ⟨rfl, ⟨hR.lo, hS.blk hR.blk (by simp) (by simp)⟩, hS.mono (Nat.le_trans hR.lo (Nat.le_of_lt (blk_lt hR.blk))) (by simp) (by simp)⟩

end Go.Proofs.YtmgmgmbpldboiaaGreat
namespace Go.Proofs.YtmgmgmbpldboiaaGreat
open Go.RowKit

set_option maxRecDepth 100000 in
theorem wconv_row {w : World} {B : Nat} {v : Value} {l : List UInt8} (h : w.ownsRow B 5 1 v l.length (l.map bv)) : (convert 139 9 v).run Tryz.prog w = .ok (.string ⟨l.toArray⟩) w := by
  rcases h.2 with ⟨rfl, h0⟩ | ⟨g, cap, cur, rfl, _⟩
  · have : l = [] := List.eq_nil_of_length_eq_zero h0
    subst this
    exact run_convert_bytes_nil w 139 5 Tryz.underlying139 Tryz.underlying5 0 0 9 Tryz.underlying9
  · have hn : ∀ j (hj : j < l.length), w.cell? ((⟨g, 0, none⟩ : Addr).add j) = some (.int .u8 (l[j].toNat : Int)) := by
      intro j hj
      have h1 := h.cells (g := g) rfl j (.int .u8 (l[j].toNat : Int))
      exact h1 (by rw [List.getElem?_map, List.getElem?_eq_getElem hj]; rfl)
    exact run_convert_bytes_back w 139 9 5 ⟨g, 0, none⟩ cap l Tryz.underlying139 Tryz.underlying5 Tryz.underlying9 hn

set_option maxRecDepth 100000 in
theorem wtext_yes (B : Nat) (w : World) (p : Nat) (v : Value) (L : List Nat) (hW : IsW B w p v L) :
    Calls Tryz.prog 67 #[.pointer (some ⟨p, 0, none⟩)] w fun e w' => e = .returned (.string ⟨(pack L).toArray⟩) ∧ w = w' := by
  have c0 := blk_cell hW.blk 0
  have c1 := blk_cell hW.blk 1
  simp at c0 c1
  have hc := wconv_row hW.row
  go_enter Tryz.func67, Tryz.ntmps67
  go_wp2_with (go_at_call 110; refine (wright_yes _ _ c0).mono ?_; rintro e w' ⟨rfl, rfl⟩)
  go_ret
  exact ⟨rfl, rfl⟩

end Go.Proofs.YtmgmgmbpldboiaaGreat
namespace Go.Proofs.YtmgmgmbpldboiaaGreat
open Go.RowKit

set_option maxRecDepth 100000 in
/-- A row of bytes that is not empty, in its own block. -/
theorem row_form {w : World} {B n : Nat} {v : Value} {xs : List Value} (h : w.ownsRow B 5 1 v (n + 1) xs) : ∃ g cap, v = .slice (some ⟨g, 0, none⟩) (n + 1) cap ∧ B ≤ g := by
  rcases h.2 with ⟨_, h⟩ | ⟨g, cap, cur, hv, hb, _⟩
  · omega
  · exact ⟨g, cap, hv, hb⟩

/-- What stands at p within a round: the last byte, not yet filled, is c. -/
def Mid (B : Nat) (w wx : World) (p len t : Nat) (pre : List UInt8) (c : UInt8) : Prop :=
  ∃ g cap, Blk wx p 143 #[.bool true, .slice (some ⟨g, 0, none⟩) (t + 1) cap, .int .i64 len] ∧ wx.ownsRow B 5 1 (.slice (some ⟨g, 0, none⟩) (t + 1) cap) (t + 1) ((pre ++ [c]).map bv) ∧ B ≤ g ∧ Step B [p] [5] w wx

theorem mid_same {B p len t : Nat} {w wx : World} {v : Value} {l pre : List UInt8} {c : UInt8} (hl : l = pre ++ [c]) (ht : pre.length = t) (hb : Blk wx p 143 #[.bool true, v, .int .i64 len]) (hr : wx.ownsRow B 5 1 v l.length (l.map bv)) (hs : Step B [p] [5] w wx) : Mid B w wx p len t pre c := by
  subst hl
  subst ht
  rw [List.length_append, List.length_singleton] at hr
  obtain ⟨g, cap, rfl, hg⟩ := row_form hr
  exact ⟨g, cap, hb, hr, hg, hs⟩

set_option maxRecDepth 100000 in
theorem mid_new {B p len t : Nat} {w wx wy : World} {v v1 : Value} {l : List UInt8} (ht : l.length = t) (hb : Blk wx p 143 #[.bool true, v, .int .i64 len]) (hB : B ≤ p) (hr : wx.ownsRow B 5 1 v l.length (l.map bv)) (hs : Step B [p] [5] w wx)
    (hn : wy.ownsRow B 5 1 v1 (l.length + 1) (l.map bv ++ [.int .u8 0])) (hg : (wx.alloc (.cells #[.int .u8 0] 5)).grownBy wy v.ownBlock) : Mid B w (wy.setCell ⟨p, 1, none⟩ v1) p len t l 0 := by
  subst ht
  obtain ⟨g, cap, rfl, hg0⟩ := row_form hn
  have hB' : B ≤ wx.heap.size := Nat.le_trans hB (Nat.le_of_lt (blk_lt hb))
  have hs1 : Step B [p] [5] w (wx.alloc (.cells #[.int .u8 0] 5)) := hs.alloc hB' _
  have hs2 : Step B [p] [5] w wy := hs1.grown hg (by simp; omega) (row_blk (hr.alloc _))
  have hb1 : Blk (wx.alloc (.cells #[.int .u8 0] 5)) p 143 #[.bool true, v, .int .i64 len] := (Below.heap_alloc wx _ p (blk_lt hb)).trans hb
  have hb2 : Blk wy p 143 #[.bool true, v, .int .i64 len] := (hg.block p (blk_lt hb1) (fun e => row_ne (hr.alloc _) hb1 (by decide) p e.symm rfl)).trans hb1
  have hb3 := blk_set hb2 1 (.slice (some ⟨g, 0, none⟩) (l.length + 1) cap)
  refine ⟨g, cap, hb3, ?_, hg0, hs2.set hB (by simp) _⟩
  have hx : Step B [p] [] wy (wy.setCell ⟨p, 1, none⟩ (.slice (some ⟨g, 0, none⟩) (l.length + 1) cap)) := (Step.refl B [p] [] wy).set hB (by simp) _
  have := hx.row hn (fun k hk => by
    have := row_ne hn hb2 (by decide) k hk
    simpa using this) (by simp)
  simpa [bv] using this

theorem blk_grown {B p n : Nat} {e t : TypeId} {wx wy : World} {v : Value} {xs : List Value} {cs : Array Value} {o : Obj} (hb : Blk wx p t cs) (hr : wx.ownsRow B e 1 v n xs) (hne : e ≠ t) (hg : (wx.alloc o).grownBy wy v.ownBlock) : Blk wy p t cs := by
  have hb1 : Blk (wx.alloc o) p t cs := (Below.heap_alloc wx _ p (blk_lt hb)).trans hb
  exact (hg.block p (blk_lt hb1) (fun e => row_ne (hr.alloc _) hb1 hne p e.symm rfl)).trans hb1

set_option maxRecDepth 100000 in
theorem pack_mid0 (L : List Nat) (h : L.length % 8 = 0) : pack (L.take (8 * (L.length / 8))) = pack L ∧ UInt8.ofNat (val (L.drop (8 * (L.length / 8))) * 2 ^ (8 - L.length % 8)) = 0 := by
  have e : 8 * (L.length / 8) = L.length := by omega
  rw [e, List.take_length, List.drop_length]
  exact ⟨rfl, by simp [val]⟩
set_option maxRecDepth 100000 in
theorem pack_mid1 (L : List Nat) (h : ¬ L.length % 8 = 0) : pack L = pack (L.take (8 * (L.length / 8))) ++ [UInt8.ofNat (val (L.drop (8 * (L.length / 8))) * 2 ^ (8 - L.length % 8))] := by
  conv => lhs; rw [pack_split L]
  rw [pack_short (L.drop (8 * (L.length / 8))) (by simp; omega) (by simp; omega)]
  rw [List.length_drop, show L.length - 8 * (L.length / 8) = L.length % 8 by omega]

set_option maxRecDepth 100000 in
theorem byte_low (z k s r : Nat) (h : r + k + s = 8) (hz : r = 0 ∨ z < 2 ^ k) : z % 256 * 2 ^ s % 256 = z % 2 ^ k * 2 ^ s := by
  rcases hz with hr | hz
  · subst hr
    have e : 256 = 2 ^ k * 2 ^ s := by rw [← Nat.pow_add, show k + s = 8 by omega]
    conv => lhs; rhs; rw [e]
    rw [Nat.mul_mod_mul_right, Nat.mod_mod_of_dvd _ ⟨2 ^ s, e⟩]
  · have e : 2 ^ (k + s) ≤ 2 ^ 8 := Nat.pow_le_pow_right (by omega) (by omega)
    have h1 : z * 2 ^ s < 2 ^ (k + s) := by rw [Nat.pow_add]; exact Nat.mul_lt_mul_of_pos_right hz (Nat.two_pow_pos _)
    have h2 : z ≤ z * 2 ^ s := Nat.le_mul_of_pos_right _ (Nat.two_pow_pos _)
    rw [Nat.mod_eq_of_lt (show z < 256 by omega), Nat.mod_eq_of_lt hz, Nat.mod_eq_of_lt (by omega)]

theorem or_byte (R z r k s : Nat) (h : r + k + s = 8) (hz : r = 0 ∨ z < 2 ^ k) :
    bits .or .u8 ((R : Int) * 2 ^ (8 - r) % 256) ((z : Int) % 256 * 2 ^ s % 256) = ((R * 2 ^ (8 - r) % 256 ||| z % 2 ^ k * 2 ^ s : Nat) : Int) := by
  have e1 : ((R : Int) * 2 ^ (8 - r) % 256) = ((R * 2 ^ (8 - r) % 256 : Nat) : Int) := by rw [Int.natCast_emod, Int.natCast_mul, Int.natCast_pow]; rfl
  have e2 : ((z : Int) % 256 * 2 ^ s % 256) = ((z % 256 * 2 ^ s % 256 : Nat) : Int) := by rw [Int.natCast_emod, Int.natCast_mul, Int.natCast_pow, Int.natCast_emod]; rfl
  rw [e1, e2, u8_or_nat _ _ (Nat.mod_lt _ (by omega)) (Nat.mod_lt _ (by omega)), byte_low z k s r h hz]

set_option maxRecDepth 100000 in
theorem put_close {B p g cap t len k m m1 n x : Nat} {w wc : World} {L : List Nat} {y : Int}
    (hlen : len = (L ++ bitsN (x / 2 ^ m) (n - m)).length) (ht : (pack ((L ++ bitsN (x / 2 ^ m) (n - m)).take (8 * (len / 8)))).length = t)
    (hb : Blk wc p 143 #[.bool true, .slice (some ⟨g, 0, none⟩) (t + 1) cap, .int .i64 len])
    (hr : wc.ownsRow B 5 1 (.slice (some ⟨g, 0, none⟩) (t + 1) cap) (t + 1) ((pack ((L ++ bitsN (x / 2 ^ m) (n - m)).take (8 * (len / 8))) ++ [UInt8.ofNat (val ((L ++ bitsN (x / 2 ^ m) (n - m)).drop (8 * (len / 8))) * 2 ^ (8 - len % 8))]).map bv))
    (hBp : B ≤ p) (hBg : B ≤ g) (hS : Step B [p] [5] w wc) (hbit : Bit01 L) (hk : 0 < k) (hk8 : k ≤ 8 - len % 8) (hm : m = m1 + k) (hmn : m ≤ n) (hend : m1 = 0 ∨ k = 8 - len % 8) (hne : g ≠ p)
    (hy : y = ((val ((L ++ bitsN (x / 2 ^ m) (n - m)).drop (8 * (len / 8))) * 2 ^ (8 - len % 8) % 256 ||| (x / 2 ^ m1) % 2 ^ k * 2 ^ (8 - len % 8 - k) : Nat) : Int)) :
    let W := ((wc.setCell ⟨g, t, none⟩ (.int .u8 y)).setCell ⟨p, 2, none⟩ (.int .i64 (len + k))).drew
    (∃ v', IsW B W p v' (L ++ bitsN (x / 2 ^ m1) (n - m1))) ∧ Step B [p] [5] w W ∧ (m1 = 0 ∨ (L.length + (n - m1)) % 8 = 0 ∨ x / 2 ^ m1 = 0) := by
  intro W
  have hbits : bitsN (x / 2 ^ m1) (n - m1) = bitsN (x / 2 ^ m) (n - m) ++ bitsN (x / 2 ^ m1) k := by
    rw [show n - m1 = (n - m) + k by omega, bitsN_add, Nat.div_div_eq_div_mul, ← Nat.pow_add, ← hm]
  have hmore := pack_more (L ++ bitsN (x / 2 ^ m) (n - m)) (bitsN (x / 2 ^ m1) k) (by rw [bitsN_length]; exact hk) (by rw [← hlen, bitsN_length]; omega) (bit01_bitsN _ _)
  rw [List.append_assoc, ← hbits, ← hlen, val_bitsN, bitsN_length] at hmore
  have hR : val ((L ++ bitsN (x / 2 ^ m) (n - m)).drop (8 * (len / 8))) * 2 ^ (8 - len % 8) < 256 := by
    have h1 := val_lt _ ((hbit.append (bit01_bitsN (n - m) (x / 2 ^ m))).drop (8 * (len / 8)))
    rw [List.length_drop, ← hlen, show len - 8 * (len / 8) = len % 8 by omega] at h1
    have h2 : (256 : Nat) = 2 ^ (len % 8) * 2 ^ (8 - len % 8) := by rw [← Nat.pow_add, show len % 8 + (8 - len % 8) = 8 by omega]
    rw [h2]
    exact Nat.mul_lt_mul_of_pos_right h1 (Nat.two_pow_pos _)
  rw [Nat.mod_eq_of_lt hR] at hy
  generalize val ((L ++ bitsN (x / 2 ^ m) (n - m)).drop (8 * (len / 8))) * 2 ^ (8 - len % 8) = R at *
  generalize hpre : pack ((L ++ bitsN (x / 2 ^ m) (n - m)).take (8 * (len / 8))) = pre at *
  generalize hM : (x / 2 ^ m1) % 2 ^ k * 2 ^ (8 - len % 8 - k) = M at *
  have hMl : M < 256 := by
    have h1 : (x / 2 ^ m1) % 2 ^ k < 2 ^ k := Nat.mod_lt _ (Nat.two_pow_pos _)
    have h2 : M < 2 ^ k * 2 ^ (8 - len % 8 - k) := by rw [← hM]; exact Nat.mul_lt_mul_of_pos_right h1 (Nat.two_pow_pos _)
    rw [← Nat.pow_add] at h2
    have h3 : 2 ^ (k + (8 - len % 8 - k)) ≤ 2 ^ 8 := Nat.pow_le_pow_right (by omega) (by omega)
    omega
  have hlenall : (L ++ bitsN (x / 2 ^ m1) (n - m1)).length = len + k := by
    rw [hlen, List.length_append, List.length_append, bitsN_length, bitsN_length]; omega
  obtain ⟨hr1, hg1⟩ := hr.stored t (.int .u8 y)
  have hb1 : Blk (wc.setCell ⟨g, t, none⟩ (.int .u8 y)) p 143 #[.bool true, .slice (some ⟨g, 0, none⟩) (t + 1) cap, .int .i64 len] :=
    (Below.heap_setCell wc ⟨g, t, none⟩ _ p (fun e => hne e.symm)).trans hb
  have hb2 := blk_set hb1 2 (.int .i64 ((len : Int) + k))
  have hSt : Step B [p] [5] w (wc.setCell ⟨g, t, none⟩ (.int .u8 y)) := by
    obtain ⟨_, cs, t', fr, hh, ht'⟩ := row_blk hr g rfl
    exact hS.setT hBg hh ht' _
  refine ⟨⟨.slice (some ⟨g, 0, none⟩) (t + 1) cap, hBp, ?_, ?_, hbit.append (bit01_bitsN _ _)⟩, (hSt.set hBp (by simp) _).drew, ?_⟩
  · show Blk (((wc.setCell ⟨g, t, none⟩ (.int .u8 y)).setCell ⟨p, 2, none⟩ (.int .i64 (len + k))).drew) p 143 _
    rw [hlenall]
    have : (((len + k : Nat) : Int)) = (len : Int) + k := by omega
    rw [this]
    exact hb2
  · have hx : Step B [p] [] (wc.setCell ⟨g, t, none⟩ (.int .u8 y)) (((wc.setCell ⟨g, t, none⟩ (.int .u8 y)).setCell ⟨p, 2, none⟩ (.int .i64 (len + k))).drew) := ((Step.refl B [p] [] _).set hBp (by simp) _).drew
    have h3 := hx.row hr1 (fun j hj => by simp [Value.ownBlock] at hj; subst hj; simpa using hne) (by simp)
    rw [hmore, List.length_append, List.length_singleton, ht]
    have hset : ((pre ++ [UInt8.ofNat R]).map bv).set t (.int .u8 y) = (pre ++ [UInt8.ofNat (R ||| M)]).map bv := by
      rw [List.map_append, List.map_append, List.set_append, if_neg (by simp [ht]), List.length_map, ht, Nat.sub_self]
      simp [bv, hy, Nat.mod_eq_of_lt hR, Nat.mod_eq_of_lt hMl]
    rw [hset] at h3
    exact h3
  · rcases hend with h | h
    · exact .inl h
    · right; left
      rw [hlen, List.length_append, bitsN_length] at h
      omega

set_option maxRecDepth 100000 in
theorem low_zero {L : List Nat} {x n m m1 k len : Nat} (hz : m = 0 ∨ (L.length + (n - m)) % 8 = 0 ∨ x / 2 ^ m = 0) (h0 : 0 < m) (hm : m = m1 + k) (hlen : len = (L ++ bitsN (x / 2 ^ m) (n - m)).length) : len % 8 = 0 ∨ x / 2 ^ m1 < 2 ^ k := by
  rcases hz with h9 | h9 | h9
  · omega
  · left; rw [hlen, List.length_append, bitsN_length]; exact h9
  · right
    rw [hm, Nat.pow_add, ← Nat.div_div_eq_div_mul] at h9
    exact (Nat.div_eq_zero_iff_lt (Nat.two_pow_pos k)).1 h9

theorem y_last (R x len m : Nat) (hk : m ≤ 8 - len % 8) (hz : len % 8 = 0 ∨ x / 2 ^ 0 < 2 ^ m) :
    bits .or .u8 ((R : Int) * 2 ^ (8 - len % 8) % 256) ((x : Int) % 256 * 2 ^ (8 - len % 8 - m) % 256) = ((R * 2 ^ (8 - len % 8) % 256 ||| (x / 2 ^ 0) % 2 ^ m * 2 ^ (8 - len % 8 - m) : Nat) : Int) := by
  rw [Nat.pow_zero, Nat.div_one] at *
  exact or_byte R x (len % 8) m _ (by omega) hz

set_option maxRecDepth 100000 in
theorem y_full (R x len m1 : Nat) (hz : len % 8 = 0 ∨ x / 2 ^ m1 < 2 ^ (8 - len % 8)) :
    bits .or .u8 ((R : Int) * 2 ^ (8 - len % 8) % 256) ((x : Int) / 2 ^ m1 % 256) = ((R * 2 ^ (8 - len % 8) % 256 ||| (x / 2 ^ m1) % 2 ^ (8 - len % 8) * 2 ^ (8 - len % 8 - (8 - len % 8)) : Nat) : Int) := by
  have h := or_byte R (x / 2 ^ m1) (len % 8) (8 - len % 8) (8 - len % 8 - (8 - len % 8)) (by omega) hz
  rw [← h, Nat.sub_self]
  simp

end Go.Proofs.YtmgmgmbpldboiaaGreat
namespace Go.Proofs.YtmgmgmbpldboiaaGreat
open Go.RowKit

set_option maxRecDepth 100000 in
theorem put_ok (B : Nat) (w : World) (p : Nat) (v : Value) (L : List Nat) (x n : Nat) (hW : IsW B w p v L) (hL : L.length ≤ 1000000000000) (hn : n ≤ 64) (hx : x < 2 ^ n) :
    Calls Tryz.prog 101 #[.pointer (some ⟨p, 0, none⟩), .int .u64 x, .int .i64 n] w fun e w' => e = .returned (.int .i64 0) ∧ ∃ v', IsW B w' p v' (L ++ bitsN x n) ∧ Step B [p] [5] w w' := by
  have hd : ((x : Int) / 2 ^ n != 0) = false := by
    have h2 : ((x / 2 ^ n : Nat) : Int) = (x : Int) / 2 ^ n := by simp
    rw [← h2, Nat.div_eq_of_lt hx]; rfl
  have h0 := blk_cell hW.blk 0
  simp at h0
  go_enter Tryz.func101, Tryz.ntmps101
  go_wp2_with (go_at_call 110; refine (wright_yes _ _ h0).mono ?_; rintro e w' ⟨rfl, rfl⟩)
  go_loopw [2] (fun i wr => ∃ (m : Nat) (v' : Value), m ≤ n ∧ i = .int .i64 m ∧ IsW B wr p v' (L ++ bitsN (x / 2 ^ m) (n - m)) ∧ Step B [p] [5] w wr ∧ (m = 0 ∨ (L.length + (n - m)) % 8 = 0 ∨ x / 2 ^ m = 0)) (fun i _ => (intOf i).toNat)
  case atStart =>
    refine ⟨n, v, Nat.le_refl _, rfl, ?_, Step.refl _ _ _ _, .inr (.inr (Nat.div_eq_of_lt hx))⟩
    rw [Nat.sub_self, show bitsN (x / 2 ^ n) 0 = [] from rfl, List.append_nil]
    exact hW
  case round =>
    clear h0 hd
    obtain ⟨m, v', hm, rfl, hWr, hS, hz⟩ := hrel
    have HZ := Lib.hid hz; clear hz
    obtain ⟨len, hlen⟩ : ∃ len, len = (L ++ bitsN (x / 2 ^ m) (n - m)).length := ⟨_, rfl⟩
    have hlen' : len ≤ L.length + 64 := by rw [hlen, List.length_append, bitsN_length]; omega
    have c1 := blk_cell hWr.blk 1
    have c2 := blk_cell hWr.blk 2
    have f1 := blk_frozen hWr.blk 1
    have f2 := blk_frozen hWr.blk 2
    rw [← hlen] at c2
    simp at c1 c2
    have hblk : Blk wr p 143 #[.bool true, v', .int .i64 len] := by rw [hlen]; exact hWr.blk
    have HL := Lib.hid hlen; clear hlen
    obtain ⟨t, ht⟩ : ∃ t, (pack ((L ++ bitsN (x / 2 ^ m) (n - m)).take (8 * (len / 8)))).length = t := ⟨_, rfl⟩
    have HT := Lib.hid ht; clear ht
    have htl : 8 * t ≤ len := by
      rw [← HT.out, pack_length, List.length_take, ← HL.out]; omega
    by_cases h : 0 < m
    · go_upto_if 33 with fail
      go_cut [] from 24 to 80 (fun wx => Mid B w wx p len t (pack ((L ++ bitsN (x / 2 ^ m) (n - m)).take (8 * (len / 8)))) (UInt8.ofNat (val ((L ++ bitsN (x / 2 ^ m) (n - m)).drop (8 * (len / 8))) * 2 ^ (8 - len % 8))))
      case first =>
        obtain ⟨i5, hi, hz0, hz1, hz2⟩ := info_parts Tryz.info5
        by_cases h8 : len % 8 = 0
        · have h88 : ((8 - (len : Int) % 8) == 8) = true := by rw [beq_iff_eq]; omega
          have H8 := Lib.hid h8; clear h8
          go_wp2_with (at_builtin; refine wpList_append_own _ rfl _ _ 139 rfl B 5 i5 (.int .u8 0) 1 1 Tryz.underlying139 hi hz0 hz1 hz2 rfl (by decide) _ _ _ rfl (hWr.row.alloc _) ⟨wr.heap.size, 0, none⟩ 1 1 [.int .u8 0] rfl rfl ?c1 ?c2 ?c3 ?c4 ?c5 ?_)
          case c1 => exact cell_one_new _ _ _
          case c2 => intro u hu; simp at hu; subst hu; rfl
          case c3 => rw [pack_length, ← HL.out]; unfold maxLen; omega
          case c4 => rw [pack_length, ← HL.out]; omega
          case c5 => have := blk_lt hWr.blk; have := hWr.lo; simp; omega
          intro v1 w1 hown1 hgrow1 _
          have hm0 := pack_mid0 _ (by rw [← HL.out]; exact H8.out : (L ++ bitsN (x / 2 ^ m) (n - m)).length % 8 = 0)
          rw [← HL.out] at hm0
          have hm1 := mid_new (t := t) (by rw [← hm0.1]; exact HT.out) hblk hWr.lo hWr.row hS hown1 hgrow1
          have HM : Hid (_ ∧ _) := Lib.hid hm0
          clear hm0
          have hb1 := blk_grown hblk hWr.row (by decide) hgrow1
          have d1 := blk_cell hb1 1
          have e1 := blk_frozen hb1 1
          simp at d1
          obtain ⟨g1, cap1, hv1, hg1⟩ := row_form hown1
          rw [hv1] at hm1 ⊢
          have HV1 := Lib.hid hv1; clear hv1
          go_wp2
          go_meet
          case rel => rw [HM.out.1, HM.out.2]; exact hm1
        · have h88 : ((8 - (len : Int) % 8) == 8) = false := by rw [beq_eq_false_iff_ne]; omega
          have H8 := Lib.hid h8; clear h8
          go_wp2
          go_meet
          case rel => exact mid_same (by have := pack_mid1 _ (by rw [← HL.out]; exact H8.out); rw [← HL.out] at this; exact this) HT.out hblk hWr.row hS
      case rest =>
        obtain ⟨g, cap, hb, hr, hg, hS1⟩ := hcut
        clear c1 c2 f1 f2 hblk hWr
        have c0 := blk_cell hb 0
        have c1 := blk_cell hb 1
        have c2 := blk_cell hb 2
        have f1 := blk_frozen hb 1
        have f2 := blk_frozen hb 2
        simp at c0 c1 c2
        have r1 := hr.cellAt t (by omega)
        have r2 := hr.frozenAt t
        rw [List.map_append, List.getElem?_append_right (by rw [List.length_map, HT.out]; exact Nat.le_refl _)] at r1
        rw [List.length_map, HT.out, Nat.sub_self] at r1
        simp [bv] at r1
        have hne : g ≠ p := row_ne hr hb (by decide) g rfl
        have hne' : p ≠ g := fun e => hne e.symm
        by_cases hmin : m ≤ 8 - len % 8
        · go_upto_region 10 with fail
          go_region
          go_wp2
          go_roundw
          case rel =>
            obtain ⟨⟨v2, h1⟩, h2, h3⟩ := put_close (m1 := 0) (k := m) HL.out HT.out hb hr hW.lo hg hS1 hW.bit h (by omega) (by omega) hm (.inl rfl) hne (y_last _ x len m hmin (low_zero HZ.out h (by omega) HL.out))
            exact ⟨0, v2, Nat.zero_le _, rfl, h1, h2, h3⟩
          case measure => simp [intOf]; omega
        · have hmin' : 8 - len % 8 < m := by omega
          clear hmin
          go_upto_region 10 with fail
          go_region
          go_wp2
          go_roundw
          case rel =>
            obtain ⟨⟨v2, h1⟩, h2, h3⟩ := put_close (m1 := m - (8 - len % 8)) (k := 8 - len % 8) HL.out HT.out hb hr hW.lo hg hS1 hW.bit (by omega) (by omega) (by omega) hm (.inr rfl) hne (y_full _ x len _ (low_zero HZ.out h (by omega) HL.out))
            have hk : (((8 - len % 8 : Nat) : Int)) = 8 - (len : Int) % 8 := by omega
            rw [hk] at h1 h2
            exact ⟨m - (8 - len % 8), v2, by omega, by congr 1; omega, h1, h2, h3⟩
          case measure => simp [intOf]; omega
    · obtain rfl : m = 0 := by omega
      rw [Nat.pow_zero, Nat.div_one, Nat.sub_zero] at hWr
      go_wp2
      go_ret
      exact ⟨rfl, ⟨v', hWr⟩, hS⟩

end Go.Proofs.YtmgmgmbpldboiaaGreat
