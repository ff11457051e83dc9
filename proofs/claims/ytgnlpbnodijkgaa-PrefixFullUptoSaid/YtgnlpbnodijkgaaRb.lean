/- Two lists of numbers held against each other, as law 4 does (kistlaw04.Ints). Conditions: at most a million numbers. -/
import Derived.Test.YtgnlpbnodijkgaaI
namespace Go.Proofs.Ytgnlpbnodijkgaa
open Go.RowKit

set_option maxHeartbeats 1600000 in
set_option maxRecDepth 100000 in
theorem ints_same (w : World) (A B : Option Addr) (n c d : Nat) (L : List Nat) (h : IntsIn w A n L) (k : IntsIn w B n L) (hn : n ≤ 1000000) :
    Calls Try.prog 12 #[.slice A n c, .slice B n d] w fun e w' => e = .returned (.bool true) ∧ ∃ m, w' = w.drewN m := by
  have d0 : ((n : Int) != (n : Int)) = false := by simp
  have H := Lib.hid h
  have K := Lib.hid k
  clear h k
  go_enter Try.func12, Try.ntmps12
  go_wp2_with fail
  go_loopw [5] (fun x wr => ∃ q : Nat, q ≤ n ∧ x = .int .i64 q ∧ ∃ m, wr = w.drewN m) (fun x _ => n - (intOf x).toNat)
  case atStart => exact ⟨0, Nat.zero_le _, rfl, 0, rfl⟩
  case round =>
    obtain ⟨q, hq, rfl, hd⟩ := hrel
    have HD := Lib.hid hd
    by_cases e : q < n
    · obtain ⟨b1, o1, rfl, hc1⟩ := H.out.2 (by omega)
      obtain ⟨b2, o2, rfl, hc2⟩ := K.out.2 (by omega)
      have c1 : wr.cell? ⟨b1, o1 + q, none⟩ = some (.int .i64 (L.getD q 0)) := by obtain ⟨m, rfl⟩ := hd; exact hc1 q e
      have c2 : wr.cell? ⟨b2, o2 + q, none⟩ = some (.int .i64 (L.getD q 0)) := by obtain ⟨m, rfl⟩ := hd; exact hc2 q e
      obtain ⟨v, hv⟩ : ∃ v, v = L.getD q 0 := ⟨_, rfl⟩
      rw [← hv] at c1 c2
      clear hv hd hc1 hc2
      have d1 : decide ((q : Int) < (n : Int)) = true := decide_eq_true (by omega)
      have d2 : ((v : Int) != (v : Int)) = false := by simp
      go_wp2_with fail
      go_quiet (fail)
      go_wp2_with fail
      go_roundw
      case rel =>
        obtain ⟨m, hm⟩ := HD.out
        exact ⟨q + 1, by omega, by go_num, m + nq, by rw [hm]; simp⟩
      case measure => simp [intOf]; omega
    · have d1 : decide ((q : Int) < (n : Int)) = false := decide_eq_false (by omega)
      clear hd
      go_wp2_with fail
      go_ret
      exact ⟨rfl, HD.out⟩

end Go.Proofs.Ytgnlpbnodijkgaa
/- The reference Number tells the number that a list of bits is. Conditions: at most 64 bits. -/
namespace Go.Proofs.Ytgnlpbnodijkgaa
open Go.RowKit

theorem number_any (w : World) (A : Option Addr) (n c : Nat) (L : List Nat) (h : IntsIn w A n L) (hb : Bit01 L) (hn : n ≤ 64) :
    Calls Try.prog 27 #[.slice A n c] w fun e w' => e = .returned (.int .u64 (val L)) ∧ w = w' := by
  have HI := Lib.hid h
  clear h
  go_enter Try.func27, Try.ntmps27
  go_wp2
  go_loop [3, 4] (fun v i => ∃ j x : Nat, j ≤ n ∧ i = .int .i64 j ∧ v = .int .u64 x ∧ x = val (L.take j)) (fun _ i => n - (intOf i).toNat)
  case atStart => exact ⟨0, 0, Nat.zero_le _, rfl, rfl, by simp [val]⟩
  case round =>
    obtain ⟨j, x, hj, rfl, rfl, hx⟩ := hrel
    by_cases h : j < n
    · obtain ⟨hl, hc⟩ := HI.out
      have HL := Lib.hid hl
      clear hl
      obtain ⟨b, off, rfl, hc'⟩ := hc (by omega)
      have hc1 := hc' j h
      have hx2 : x < 9223372036854775808 := by
        rw [hx]
        refine Nat.lt_of_lt_of_le (val_lt _ (hb.take j)) (Nat.le_trans (Nat.pow_le_pow_right (by omega) (show (L.take j).length ≤ 63 by rw [List.length_take]; omega)) (by decide))
      obtain ⟨y, hy⟩ : ∃ y, y = L.getD j 0 := ⟨_, rfl⟩
      rw [← hy] at hc1
      have hy2 : y < 2 := by
        rw [hy, List.getD_eq_getElem?_getD, List.getElem?_eq_getElem (by rw [HL.out]; exact h)]
        exact hb _ (List.getElem_mem _)
      have HX := Lib.hid hx; clear hx
      have HY := Lib.hid hy; clear hy
      clear hc hc'
      go_wp2
      go_round
      case rel =>
        refine ⟨j + 1, 2 * x + y, h, rfl, ?_, ?_⟩
        · congr 1; omega
        · rw [HX.out, HY.out, List.take_succ_eq_append_getElem (by rw [HL.out]; exact h), val_snoc, List.getD_eq_getElem?_getD, List.getElem?_eq_getElem (by rw [HL.out]; exact h)]
          rfl
      case measure => simp [intOf]; omega
    · obtain rfl : j = n := by omega
      have HX := Lib.hid hx; clear hx
      go_wp2
      go_ret
      refine ⟨?_, rfl⟩
      rw [HX.out, List.take_of_length_le (by rw [HI.out.1]; exact Nat.le_refl _)]
      rfl

end Go.Proofs.Ytgnlpbnodijkgaa
/- The reference Of tells the bits of a text. Conditions: a text of at most a million bytes. -/
namespace Go.Proofs.Ytgnlpbnodijkgaa
open Go.RowKit

theorem of_any (w : World) (s : ByteArray) (hs : s.size ≤ 1000000) :
    Calls Try.prog 18 #[.string s] w fun e w' => ∃ v, e = .returned v ∧ w'.ownsRow w.heap.size 3 1 v (8 * s.size) ((bitsB s.data.toList).map iv) ∧ Below w.heap.size w w' := by
  obtain ⟨i3, hi, hz0, hz1, hz2⟩ := info_parts Try.info3
  go_enter Try.func18, Try.ntmps18
  go_wp2
  go_loopw [3, 4] (fun v i wr => ∃ j : Nat, j ≤ s.size ∧ i = .int .i64 j ∧ wr.ownsRow w.heap.size 3 1 v (8 * j) ((bitsB (s.data.toList.take j)).map iv) ∧ Below w.heap.size w wr) (fun _ i _ => s.size - (intOf i).toNat)
  case atStart => exact ⟨0, Nat.zero_le _, rfl, World.ownsRow_nil _ _ _ _, Below.refl _ _⟩
  case round =>
    obtain ⟨j, hj, rfl, hown, hb⟩ := hrel
    rename_i v0 _
    have hsize := hb.size
    by_cases h : j < s.size
    · go_wp2
      obtain ⟨wo, ho⟩ : ∃ wo : World, wo = wr := ⟨_, rfl⟩
      have HO := Lib.hid ho
      clear ho
      go_loopw [3, 5] (fun v k wx => ∃ m r : Nat, m + r = 8 ∧ k = .int .i64 ((r : Int) - 1) ∧ wx.ownsRow w.heap.size 3 1 v (8 * j + m) ((bitsB (s.data.toList.take j) ++ (bitsN (s[j]).toNat 8).take m).map iv) ∧ Below w.heap.size w wx) (fun _ k _ => (intOf k + 1).toNat)
      case atStart => exact ⟨0, 8, rfl, rfl, by simpa using hown, hb⟩
      case round =>
        obtain ⟨m, r, hmr, rfl, hown1, hb1⟩ := hrel
        have hmr1 : m ≤ 8 := by omega
        have hsize1 := hb1.size
        match r, hmr with
        | 0, hmr =>
          obtain rfl : m = 8 := by omega
          have e1 : ((0 : Nat) : Int) - 1 = -1 := rfl
          rw [e1]
          clear e1
          have hown4 := hown1
          rw [List.take_of_length_le (show (bitsN (s[j]).toNat 8).length ≤ 8 by rw [bitsN_length]; exact Nat.le_refl _)] at hown4
          have HT : Hid (s.data.toList.take (j + 1) = s.data.toList.take j ++ [s[j]]) := by
            have hjl : j < s.data.toList.length := by simpa using h
            exact List.take_succ_eq_append_getElem hjl
          go_wp2
          go_roundw
          case rel =>
            refine ⟨j + 1, h, by go_num, ?_, hb1⟩
            rw [HT.out, bitsB_append, bitsB_cons, bitsB_nil, List.append_nil]
            exact hown4
          case measure => simp [intOf]; omega
        | q + 1, hmr =>
          have e1 : ((q + 1 : Nat) : Int) - 1 = (q : Int) := by omega
          rw [e1]
          clear e1
          have hq : (q : Int) ≤ 7 := by omega
          obtain ⟨xs, hxs⟩ : ∃ xs, xs = (bitsB (s.data.toList.take j) ++ (bitsN (s[j]).toNat 8).take m).map iv := ⟨_, rfl⟩
          rw [← hxs] at hown1
          have HX := Lib.hid hxs
          clear hxs
          have hbyte : (s[j].toNat : Int) < 256 := by have := s[j].toNat_lt; omega
          go_wp2_with (at_builtin; refine wpList_append_own _ rfl _ _ 22 rfl w.heap.size 3 i3 (.int .i64 0) 1 8 Try.underlying22 hi hz0 hz1 hz2 rfl (by decide) _ _ _ rfl (hown1.alloc _) ⟨wr.heap.size, 0, none⟩ 1 1 [.int .i64 (bits BinOp.and IntKind.i64 (s[j].toNat / 2 ^ q) 1)] rfl rfl ?c1 ?c2 ?c3 ?c4 ?c5 ?_)
          case c1 => exact cell_one_new _ _ _
          case c2 => intro u hu; simp at hu; subst hu; rfl
          case c3 => unfold maxLen; omega
          case c4 => omega
          case c5 => simp; omega
          intro v2 w2 hown2 hgrow2 _
          have hb2 : Below w.heap.size w w2 := (hb1.alloc hsize1 _).grown hgrow2 (by simp; omega) (fun k hk => (hown1.lt k hk).1)
          have HE := bit_and _ q s[j].toNat_lt
          rw [HE] at hown2
          clear HE
          have hown3 : w2.ownsRow w.heap.size 3 1 v2 (8 * j + (m + 1)) ((bitsB (s.data.toList.take j) ++ (bitsN (s[j]).toNat 8).take (m + 1)).map iv) := by
            have hg := bitsN_get 8 (s[j]).toNat m (by omega)
            rw [List.take_add_one, hg, ← List.append_assoc, List.map_append, ← HX.out, show 8 - 1 - m = q by omega, ← Nat.add_assoc]
            exact hown2
          clear hown2 hgrow2 hown1 hb1
          go_wp2
          go_roundw
          case rel => exact ⟨m + 1, q, by omega, rfl, hown3, hb2⟩
          case measure => simp [intOf]
    · obtain rfl : j = s.size := by omega
      go_wp2
      go_ret
      refine ⟨_, rfl, ?_, hb⟩
      rw [List.take_of_length_le (by simp)] at hown
      exact hown

end Go.Proofs.Ytgnlpbnodijkgaa
/- The reference Text packs bits. Conditions: at most 10^9 bits. -/
namespace Go.Proofs.Ytgnlpbnodijkgaa
open Go.RowKit

theorem conv_row {w : World} {B : Nat} {v : Value} {l : List UInt8} (h : w.ownsRow B 5 1 v l.length (l.map bv)) : (convert 89 9 v).run Try.prog w = .ok (.string ⟨l.toArray⟩) w := by
  rcases h.2 with ⟨rfl, h0⟩ | ⟨g, cap, cur, rfl, _⟩
  · have : l = [] := List.eq_nil_of_length_eq_zero h0
    subst this
    exact run_convert_bytes_nil w 89 5 Try.underlying89 Try.underlying5 0 0 9 Try.underlying9
  · have hn : ∀ j (hj : j < l.length), w.cell? ((⟨g, 0, none⟩ : Addr).add j) = some (.int .u8 (l[j].toNat : Int)) := by
      intro j hj
      have h1 := h.cells (g := g) rfl j (.int .u8 (l[j].toNat : Int))
      exact h1 (by rw [List.getElem?_map, List.getElem?_eq_getElem hj]; rfl)
    exact run_convert_bytes_back w 89 9 5 ⟨g, 0, none⟩ cap l Try.underlying89 Try.underlying5 Try.underlying9 hn

/-- Eight bits from bit number i on, filled up with 0 bits. -/
def eight (L : List Nat) (i : Nat) : List Nat := (L.drop i).take 8 ++ List.replicate (8 - ((L.drop i).take 8).length) 0

theorem eight_length (L : List Nat) (i : Nat) : (eight L i).length = 8 := by
  unfold eight
  rw [List.length_append, List.length_replicate]
  have : ((L.drop i).take 8).length ≤ 8 := by rw [List.length_take]; omega
  omega

theorem eight_get (L : List Nat) (i m : Nat) (hm : m < 8) : (eight L i)[m]? = some (L.getD (i + m) 0) := by
  unfold eight
  rw [List.getD_eq_getElem?_getD]
  by_cases h : i + m < L.length
  · rw [List.getElem?_append_left (by rw [List.length_take, List.length_drop]; omega), List.getElem?_take, if_pos hm, List.getElem?_drop, List.getElem?_eq_getElem h]
    rfl
  · rw [List.getElem?_append_right (by rw [List.length_take, List.length_drop]; omega), List.getElem?_replicate, if_pos (by rw [List.length_take, List.length_drop]; omega), List.getElem?_eq_none (by omega)]
    rfl

theorem eight_bits (L : List Nat) (i : Nat) (h : Bit01 L) : Bit01 (eight L i) := by
  refine ((h.drop i).take 8).append ?_
  intro b hb
  have := (List.mem_replicate.1 hb).2
  omega

theorem val_zeros (k : Nat) : val (List.replicate k 0) = 0 := by
  rw [← bitsN_zero, val_bitsN, Nat.zero_mod]

theorem pack_eight (L : List Nat) (j : Nat) (h : 8 * j < L.length) : pack (L.take (8 * (j + 1))) = pack (L.take (8 * j)) ++ [UInt8.ofNat (val (eight L (8 * j)))] := by
  rw [show 8 * (j + 1) = 8 * j + 8 by omega, List.take_add, pack_append j _ _ (by rw [List.length_take]; omega)]
  congr 1
  have hl : ((L.drop (8 * j)).take 8).length ≤ 8 := by rw [List.length_take]; omega
  rw [pack_short _ (by rw [List.length_take, List.length_drop]; omega) hl]
  unfold eight
  rw [val_append, val_zeros, List.length_replicate, Nat.add_zero]

theorem eight_next (L : List Nat) (i m : Nat) (hm : m < 8) : val ((eight L i).take (m + 1)) = 2 * val ((eight L i).take m) + L.getD (i + m) 0 := by
  rw [List.take_add_one, eight_get L i m hm]
  exact val_snoc _ _

set_option maxRecDepth 100000 in
theorem text_any (w : World) (A : Option Addr) (n c : Nat) (L : List Nat) (hi : IntsIn w A n L) (hb : Bit01 L) (hn : n ≤ 1000000000) :
    Calls Try.prog 35 #[.slice A n c] w fun e w' => e = .returned (.string ⟨(pack L).toArray⟩) ∧ Below w.heap.size w w' := by
  obtain ⟨i5, h5, hz0, hz1, hz2⟩ := info_parts Try.info5
  have hI : (0 < n → ∃ b off, A = some ⟨b, off, none⟩ ∧ b < w.heap.size ∧ ∀ i, i < n → w.cell? ⟨b, off + i, none⟩ = some (.int .i64 (L.getD i 0))) := fun h => by
    obtain ⟨b, off, hA, hc⟩ := hi.2 h
    exact ⟨b, off, hA, World.block_lt_of_cell? w _ (hc 0 h), hc⟩
  have HL := Lib.hid hi.1
  have HI := Lib.hid hI
  clear hi hI
  go_enter Try.func35, Try.ntmps35
  go_wp2
  go_loopw [3, 4] (fun v i wr => ∃ j : Nat, 8 * j ≤ n + 7 ∧ i = .int .i64 (8 * j : Nat) ∧ wr.ownsRow w.heap.size 5 1 v (pack (L.take (8 * j))).length ((pack (L.take (8 * j))).map bv) ∧ Below w.heap.size w wr) (fun _ i _ => n + 8 - (intOf i).toNat)
  case atStart => exact ⟨0, by omega, rfl, World.ownsRow_nil _ _ _ _, Below.refl _ _⟩
  case round =>
    obtain ⟨j, hj, rfl, hown, hbl⟩ := hrel
    have hsize := hbl.size
    by_cases h : 8 * j < n
    · obtain ⟨J, hJ⟩ : ∃ J, J = 8 * j := ⟨_, rfl⟩
      rw [← hJ] at hown h hj ⊢
      have HJ := Lib.hid hJ
      clear hJ
      obtain ⟨b, off, rfl, hbB, hc⟩ := HI.out (by omega)
      go_wp2
      go_loop [5, 6] (fun x k => ∃ m : Nat, m ≤ 8 ∧ k = .int .i64 m ∧ x = .int .i64 (val ((eight L J).take m))) (fun _ k => 8 - (intOf k).toNat)
      case atStart => exact ⟨0, by omega, rfl, by simp [val]⟩
      case round =>
        obtain ⟨m, hm, rfl, rfl⟩ := hrel
        have hv : val ((eight L J).take m) < 256 := by
          refine Nat.lt_of_lt_of_le (val_lt _ ((eight_bits L J hb).take m)) (Nat.le_trans (Nat.pow_le_pow_right (by omega) (show ((eight L J).take m).length ≤ 8 by rw [List.length_take]; omega)) (by decide))
        by_cases hm8 : m < 8
        · have hnext := eight_next L J m hm8
          by_cases hin : J + m < n
          · have hcell := (hbl.cell (p := ⟨b, off + (J + m), none⟩) hbB).trans (hc (J + m) hin)
            have hy2 : L.getD (J + m) 0 < 2 := bit_lt L (J + m) hb
            generalize val ((eight L J).take m) = X at *
            generalize L.getD (J + m) 0 = y at *
            have HN := Lib.hid hnext
            clear hnext hc
            go_wp2
            go_round
            case rel => exact ⟨m + 1, hm8, by go_num, by rw [HN.out]; congr 1; omega⟩
            case measure => simp [intOf]; omega
          · have hy0 : L.getD (J + m) 0 = 0 := by
              rw [List.getD_eq_getElem?_getD, List.getElem?_eq_none (by rw [HL.out]; omega)]; rfl
            rw [hy0] at hnext
            generalize val ((eight L J).take m) = X at *
            have HN := Lib.hid hnext
            clear hnext hc hy0
            go_wp2
            go_round
            case rel => exact ⟨m + 1, hm8, by go_num, by rw [HN.out]; congr 1; omega⟩
            case measure => simp [intOf]; omega
        · obtain rfl : m = 8 := by omega
          obtain ⟨xs, hxs⟩ : ∃ xs, xs = (pack (L.take J)).map bv := ⟨_, rfl⟩
          rw [← hxs] at hown
          have HX := Lib.hid hxs
          clear hxs
          have hpl : (pack (L.take J)).length ≤ n := by rw [pack_length, List.length_take]; omega
          generalize hpk : (pack (L.take J)).length = K at *
          have HK := Lib.hid hpk
          clear hpk
          rw [List.take_of_length_le (by rw [eight_length]; exact Nat.le_refl _)] at hv ⊢
          generalize hev : val (eight L J) = X at *
          have HE := Lib.hid hev
          clear hev hc
          go_wp2_with (at_builtin; refine wpList_append_own _ rfl _ _ 89 rfl w.heap.size 5 i5 (.int .u8 0) 1 1 Try.underlying89 h5 hz0 hz1 hz2 rfl (by decide) _ _ _ rfl (hown.alloc _) ⟨wr.heap.size, 0, none⟩ 1 1 [.int .u8 X] rfl rfl ?c1 ?c2 ?c3 ?c4 ?c5 ?_)
          case c2 => rfl
          case c3 => unfold maxLen; omega
          case c4 => omega
          case c5 => omega
          intro v2 w2 hown2 hgrow2 _
          have hb2 : Below w.heap.size w w2 := (hbl.alloc hsize _).grown hgrow2 (by simp; omega) (fun k hk => (hown.lt k hk).1)
          have hpe := pack_eight L j (by rw [HL.out, ← HJ.out]; exact h)
          rw [← HJ.out, HE.out] at hpe
          have hown3 : w2.ownsRow w.heap.size 5 1 v2 (pack (L.take (8 * (j + 1)))).length ((pack (L.take (8 * (j + 1)))).map bv) := by
            rw [hpe, List.length_append, List.length_singleton, HK.out, List.map_append, ← HX.out]
            have : bv (UInt8.ofNat X) = .int .u8 X := by simp [bv]; omega
            rw [List.map_singleton, this]
            exact hown2
          have HP := Lib.hid hpe
          clear hpe hown2 hgrow2 hown hbl
          go_wp2
          go_roundw
          case rel => exact ⟨j + 1, by rw [HJ.out] at h; omega, by rw [HJ.out]; rfl, hown3, hb2⟩
          case measure => simp [intOf]; omega
    · have hall : L.take (8 * j) = L := List.take_of_length_le (by rw [HL.out]; omega)
      rw [hall] at hown
      have hconv := conv_row hown
      have HA := Lib.hid hall
      clear hall
      go_wp2
      go_ret
      exact ⟨rfl, hbl⟩

end Go.Proofs.Ytgnlpbnodijkgaa
/- The reference Bits tells the lowest bits of a number. No conditions but at most 64 bits. -/
namespace Go.Proofs.Ytgnlpbnodijkgaa
open Go.RowKit

set_option maxRecDepth 100000 in
theorem rbits_arg (w : World) (x n : Int) (hn : n < 0 ∨ 64 < n) : Calls Try.prog 49 #[.int .u64 x, .int .i64 n] w fun e w' => e = .returned (.tuple #[.slice none 0 0, .bool false]) ∧ w = w' := by
  rcases hn with hn | hn
  · go_enter Try.func49, Try.ntmps49
    go_wp2
    go_ret2
    exact ⟨rfl, rfl⟩
  · have h' : 0 ≤ n := by omega
    go_enter Try.func49, Try.ntmps49
    go_wp2
    go_ret2
    exact ⟨rfl, rfl⟩

def RBitsPost (w : World) (x n : Nat) (e : Ending) (w' : World) : Prop :=
  ∃ g cap, e = .returned (.tuple #[.slice (some ⟨g, 0, none⟩) n cap, .bool (decide (x < 2 ^ n))]) ∧ w'.ownsRow w.heap.size 3 1 (.slice (some ⟨g, 0, none⟩) n cap) n ((bitsN x n).map iv) ∧ Below w.heap.size w w'

theorem bitsN_front (x k : Nat) : bitsN x (k + 1) = (x / 2 ^ k % 2) :: bitsN x k := by
  rw [Nat.add_comm k 1, bitsN_add]
  rfl

set_option maxRecDepth 100000 in
theorem set_front (q k x : Nat) : ((List.replicate (q + 1) 0 ++ bitsN x k).map iv).set q (.int .i64 (x / 2 ^ k % 2 : Nat)) = (List.replicate q 0 ++ bitsN x (k + 1)).map iv := by
  have h1 : (List.replicate (q + 1) 0 ++ bitsN x k).map iv = List.replicate q (iv 0) ++ (iv 0 :: (bitsN x k).map iv) := by
    rw [List.replicate_succ', List.append_assoc, List.map_append, List.map_replicate]
    rfl
  rw [h1, List.set_append, if_neg (by simp), List.length_replicate, Nat.sub_self, bitsN_front, List.map_append, List.map_replicate]
  rfl

set_option maxRecDepth 100000 in
theorem rbits_any (w : World) (x n : Nat) (hx : x < 2 ^ 64) (hn : n ≤ 64) : Calls Try.prog 49 #[.int .u64 x, .int .i64 n] w (RBitsPost w x n) := by
  obtain ⟨i3, hi, hz0, hz1, hz2⟩ := info_parts Try.info3
  have HX := Lib.hid hx
  clear hx
  go_enter Try.func49, Try.ntmps49
  go_wp2_with (refine wpList_make_full w rfl _ _ 22 rfl w.heap.size 3 i3 (.int .i64 0) 1 Try.underlying22 hi hz0 hz1 .i64 .i64 _ _ n rfl rfl rfl rfl ?b2 ?b3 ?b4 ?_)
  case b2 => rw [hz2]; omega
  case b3 => unfold maxLen; omega
  case b4 => exact Nat.le_refl _
  intro w1 hown1 hgrow1
  have hb1 : Below w.heap.size w w1 := (Below.refl _ _).grown hgrow1 (Nat.le_refl _) (fun k hk => by cases hk)
  have hown2 : w1.ownsRow w.heap.size 3 1 (.slice (some ⟨w.heap.size, 0, none⟩) n n) n ((List.replicate n 0).map iv) := by
    have e : (madeCells #[Value.int .i64 0] n).toList = (List.replicate n 0).map iv := by
      rw [toList_madeCells_one, List.map_replicate]
      rfl
    rw [← e]
    exact hown1
  clear hown1 hgrow1
  go_wp2
  go_loopw [0, 7] (fun v i wr => ∃ r : Nat, r ≤ n ∧ i = .int .i64 ((r : Int) - 1) ∧ v = .int .u64 (x / 2 ^ (n - r) : Nat) ∧ wr.ownsRow w.heap.size 3 1 (.slice (some ⟨w.heap.size, 0, none⟩) n n) n ((List.replicate r 0 ++ bitsN x (n - r)).map iv) ∧ Below w.heap.size w wr) (fun _ i _ => (intOf i + 1).toNat)
  case atStart => exact ⟨n, Nat.le_refl _, rfl, by simp, by simpa [bitsN] using hown2, hb1⟩
  case round =>
    obtain ⟨r, hr, rfl, rfl, hown, hb⟩ := hrel
    have hy : x / 2 ^ (n - r) < 18446744073709551616 := Nat.lt_of_le_of_lt (Nat.div_le_self _ _) HX.out
    cases r with
    | zero =>
      have e1 : ((0 : Nat) : Int) - 1 = -1 := rfl
      rw [e1]
      clear e1
      simp only [Nat.sub_zero, List.replicate_zero, List.nil_append] at hown hy ⊢
      have hdec : ((x / 2 ^ n : Nat) : Int) = 0 ↔ x < 2 ^ n := by
        rw [← Nat.div_eq_zero_iff_lt (Nat.two_pow_pos n)]
        omega
      generalize x / 2 ^ n = y at *
      have HD := Lib.hid hdec
      clear hdec
      go_wp2
      go_ret2
      refine ⟨w.heap.size, n, ?_, hown, hb⟩
      show Ending.returned (Value.tuple #[_, .bool ((y : Int) == 0)]) = _
      have he : ((y : Int) == 0) = decide (x < 2 ^ n) := by
        rw [Bool.eq_iff_iff, beq_iff_eq, decide_eq_true_iff]
        exact HD.out
      rw [he]
      rfl
    | succ q =>
      have e1 : ((q + 1 : Nat) : Int) - 1 = (q : Int) := by omega
      rw [e1]
      clear e1
      have h1 := hown.cellAt q (by omega)
      have h2 := hown.frozenAt q
      rw [List.getElem?_map, List.getElem?_append_left (by rw [List.length_replicate]; omega), List.getElem?_replicate, if_pos (by omega)] at h1
      simp [iv] at h1
      have hnext : x / 2 ^ (n - (q + 1)) / 2 = x / 2 ^ (n - q) := by rw [Nat.div_div_eq_div_mul, ← Nat.pow_succ, Nat.succ_eq_add_one, show n - (q + 1) + 1 = n - q by omega]
      have hst := (hown.stored q (.int .i64 (x / 2 ^ (n - (q + 1)) % 2 : Nat))).1
      have hset : ((List.replicate (q + 1) 0 ++ bitsN x (n - (q + 1))).map iv).set q (.int .i64 (x / 2 ^ (n - (q + 1)) % 2 : Nat)) = (List.replicate q 0 ++ bitsN x (n - q)).map iv := by
        rw [show n - q = n - (q + 1) + 1 by omega]
        exact set_front q _ x
      rw [hset] at hst
      generalize x / 2 ^ (n - (q + 1)) = y at *
      have HN := Lib.hid hnext
      clear hnext hset
      have hcast : ((y % 2 : Nat) : Int) = (y : Int) % 2 := by omega
      rw [hcast] at hst
      have HC := Lib.hid hcast
      clear hcast
      go_wp2
      go_roundw
      case rel => exact ⟨q, by omega, rfl, by rw [← HN.out, Int.natCast_ediv]; rfl, hst, hb.setCell (p := ⟨w.heap.size, q, none⟩) (Nat.le_refl _) _⟩
      case measure => simp [intOf]

end Go.Proofs.Ytgnlpbnodijkgaa
