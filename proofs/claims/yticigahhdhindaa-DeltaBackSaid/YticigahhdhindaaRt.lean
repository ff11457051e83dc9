/- The reference Text packs bits. Conditions: at most 10^9 bits. -/
import Derived.Test.YticigahhdhindaaI
namespace Go.Proofs.Yticigahhdhindaa
open Go.RowKit

set_option maxRecDepth 100000 in
theorem conv_row {w : World} {B : Nat} {v : Value} {l : List UInt8} (h : w.ownsRow B 5 1 v l.length (l.map bv)) : (convert 40 9 v).run Try.prog w = .ok (.string ⟨l.toArray⟩) w := by
  rcases h.2 with ⟨rfl, h0⟩ | ⟨g, cap, cur, rfl, _⟩
  · have : l = [] := List.eq_nil_of_length_eq_zero h0
    subst this
    exact run_convert_bytes_nil w 40 5 Try.underlying40 Try.underlying5 0 0 9 Try.underlying9
  · have hn : ∀ j (hj : j < l.length), w.cell? ((⟨g, 0, none⟩ : Addr).add j) = some (.int .u8 (l[j].toNat : Int)) := by
      intro j hj
      have h1 := h.cells (g := g) rfl j (.int .u8 (l[j].toNat : Int))
      exact h1 (by rw [List.getElem?_map, List.getElem?_eq_getElem hj]; rfl)
    exact run_convert_bytes_back w 40 9 5 ⟨g, 0, none⟩ cap l Try.underlying40 Try.underlying5 Try.underlying9 hn

/-- Eight bits from bit number i on, filled up with 0 bits. -/
def eight (L : List Nat) (i : Nat) : List Nat := (L.drop i).take 8 ++ List.replicate (8 - ((L.drop i).take 8).length) 0

theorem eight_length (L : List Nat) (i : Nat) : (eight L i).length = 8 := by
  unfold eight
  rw [List.length_append, List.length_replicate]
  have : ((L.drop i).take 8).length ≤ 8 := by rw [List.length_take]; omega
  omega

theorem eight_get (L : List Nat) (i m : Nat) (hm : m < 8) : (eight L i)[m]? = some (L.getD (i + m) 0) := by
  unfold eight
  rw [List.getD_eq_getElem?_getD]
  by_cases h : i + m < L.length
  · rw [List.getElem?_append_left (by rw [List.length_take, List.length_drop]; omega), List.getElem?_take, if_pos hm, List.getElem?_drop, List.getElem?_eq_getElem h]
    rfl
  · rw [List.getElem?_append_right (by rw [List.length_take, List.length_drop]; omega), List.getElem?_replicate, if_pos (by rw [List.length_take, List.length_drop]; omega), List.getElem?_eq_none (by omega)]
    rfl

theorem eight_bits (L : List Nat) (i : Nat) (h : Bit01 L) : Bit01 (eight L i) := by
  refine ((h.drop i).take 8).append ?_
  intro b hb
  have := (List.mem_replicate.1 hb).2
  omega

theorem val_zeros (k : Nat) : val (List.replicate k 0) = 0 := by
  rw [← bitsN_zero, val_bitsN, Nat.zero_mod]

theorem pack_eight (L : List Nat) (j : Nat) (h : 8 * j < L.length) : pack (L.take (8 * (j + 1))) = pack (L.take (8 * j)) ++ [UInt8.ofNat (val (eight L (8 * j)))] := by
  rw [show 8 * (j + 1) = 8 * j + 8 by omega, List.take_add, pack_append j _ _ (by rw [List.length_take]; omega)]
  congr 1
  have hl : ((L.drop (8 * j)).take 8).length ≤ 8 := by rw [List.length_take]; omega
  rw [pack_short _ (by rw [List.length_take, List.length_drop]; omega) hl]
  unfold eight
  rw [val_append, val_zeros, List.length_replicate, Nat.add_zero]

theorem eight_next (L : List Nat) (i m : Nat) (hm : m < 8) : val ((eight L i).take (m + 1)) = 2 * val ((eight L i).take m) + L.getD (i + m) 0 := by
  rw [List.take_add_one, eight_get L i m hm]
  exact val_snoc _ _

set_option maxRecDepth 100000 in
theorem text_any (w : World) (A : Option Addr) (n c : Nat) (L : List Nat) (hi : IntsIn w A n L) (hb : Bit01 L) (hn : n ≤ 1000000000) :
    Calls Try.prog 24 #[.slice A n c] w fun e w' => e = .returned (.string ⟨(pack L).toArray⟩) ∧ Below w.heap.size w w' := by
  obtain ⟨i5, h5, hz0, hz1, hz2⟩ := info_parts Try.info5
  have hI : (0 < n → ∃ b off, A = some ⟨b, off, none⟩ ∧ b < w.heap.size ∧ ∀ i, i < n → w.cell? ⟨b, off + i, none⟩ = some (.int .i64 (L.getD i 0))) := fun h => by
    obtain ⟨b, off, hA, hc⟩ := hi.2 h
    exact ⟨b, off, hA, World.block_lt_of_cell? w _ (hc 0 h), hc⟩
  have HL := Lib.hid hi.1
  have HI := Lib.hid hI
  clear hi hI
  go_enter Try.func24, Try.ntmps24
  go_wp2
  go_loopw [3, 4] (fun v i wr => ∃ j : Nat, 8 * j ≤ n + 7 ∧ i = .int .i64 (8 * j : Nat) ∧ wr.ownsRow w.heap.size 5 1 v (pack (L.take (8 * j))).length ((pack (L.take (8 * j))).map bv) ∧ Below w.heap.size w wr) (fun _ i _ => n + 8 - (intOf i).toNat)
  case atStart => exact ⟨0, by omega, rfl, World.ownsRow_nil _ _ _ _, Below.refl _ _⟩
  case round =>
    obtain ⟨j, hj, rfl, hown, hbl⟩ := hrel
    have hsize := hbl.size
    by_cases h : 8 * j < n
    · obtain ⟨J, hJ⟩ : ∃ J, J = 8 * j := ⟨_, rfl⟩
      rw [← hJ] at hown h hj ⊢
      have HJ := Lib.hid hJ
      clear hJ
      obtain ⟨b, off, rfl, hbB, hc⟩ := HI.out (by omega)
      go_wp2
      go_loop [5, 6] (fun x k => ∃ m : Nat, m ≤ 8 ∧ k = .int .i64 m ∧ x = .int .i64 (val ((eight L J).take m))) (fun _ k => 8 - (intOf k).toNat)
      case atStart => exact ⟨0, by omega, rfl, by simp [val]⟩
      case round =>
        obtain ⟨m, hm, rfl, rfl⟩ := hrel
        have hv : val ((eight L J).take m) < 256 := by
          refine Nat.lt_of_lt_of_le (val_lt _ ((eight_bits L J hb).take m)) (Nat.le_trans (Nat.pow_le_pow_right (by omega) (show ((eight L J).take m).length ≤ 8 by rw [List.length_take]; omega)) (by decide))
        by_cases hm8 : m < 8
        · have hnext := eight_next L J m hm8
          by_cases hin : J + m < n
          · have hcell := (hbl.cell (p := ⟨b, off + (J + m), none⟩) hbB).trans (hc (J + m) hin)
            have hy2 : L.getD (J + m) 0 < 2 := bit_lt L (J + m) hb
            generalize val ((eight L J).take m) = X at *
            generalize L.getD (J + m) 0 = y at *
            have HN := Lib.hid hnext
            clear hnext hc
            go_wp2
            go_round
            case rel => exact ⟨m + 1, hm8, by go_num, by rw [HN.out]; congr 1; omega⟩
            case measure => simp [intOf]; omega
          · have hy0 : L.getD (J + m) 0 = 0 := by
              rw [List.getD_eq_getElem?_getD, List.getElem?_eq_none (by rw [HL.out]; omega)]; rfl
            rw [hy0] at hnext
            generalize val ((eight L J).take m) = X at *
            have HN := Lib.hid hnext
            clear hnext hc hy0
            go_wp2
            go_round
            case rel => exact ⟨m + 1, hm8, by go_num, by rw [HN.out]; congr 1; omega⟩
            case measure => simp [intOf]; omega
        · obtain rfl : m = 8 := by omega
          obtain ⟨xs, hxs⟩ : ∃ xs, xs = (pack (L.take J)).map bv := ⟨_, rfl⟩
          rw [← hxs] at hown
          have HX := Lib.hid hxs
          clear hxs
          have hpl : (pack (L.take J)).length ≤ n := by rw [pack_length, List.length_take]; omega
          generalize hpk : (pack (L.take J)).length = K at *
          have HK := Lib.hid hpk
          clear hpk
          rw [List.take_of_length_le (by rw [eight_length]; exact Nat.le_refl _)] at hv ⊢
          generalize hev : val (eight L J) = X at *
          have HE := Lib.hid hev
          clear hev hc
          go_wp2_with (at_builtin; refine wpList_append_own _ rfl _ _ 40 rfl w.heap.size 5 i5 (.int .u8 0) 1 1 Try.underlying40 h5 hz0 hz1 hz2 rfl (by decide) _ _ _ rfl (hown.alloc _) ⟨wr.heap.size, 0, none⟩ 1 1 [.int .u8 X] rfl rfl ?c1 ?c2 ?c3 ?c4 ?c5 ?_)
          case c2 => rfl
          case c3 => unfold maxLen; omega
          case c4 => omega
          case c5 => omega
          intro v2 w2 hown2 hgrow2 _
          have hb2 : Below w.heap.size w w2 := (hbl.alloc hsize _).grown hgrow2 (by simp; omega) (fun k hk => (hown.lt k hk).1)
          have hpe := pack_eight L j (by rw [HL.out, ← HJ.out]; exact h)
          rw [← HJ.out, HE.out] at hpe
          have hown3 : w2.ownsRow w.heap.size 5 1 v2 (pack (L.take (8 * (j + 1)))).length ((pack (L.take (8 * (j + 1)))).map bv) := by
            rw [hpe, List.length_append, List.length_singleton, HK.out, List.map_append, ← HX.out]
            have : bv (UInt8.ofNat X) = .int .u8 X := by simp [bv]; omega
            rw [List.map_singleton, this]
            exact hown2
          have HP := Lib.hid hpe
          clear hpe hown2 hgrow2 hown hbl
          go_wp2
          go_roundw
          case rel => exact ⟨j + 1, by rw [HJ.out] at h; omega, by rw [HJ.out]; rfl, hown3, hb2⟩
          case measure => simp [intOf]; omega
    · have hall : L.take (8 * j) = L := List.take_of_length_le (by rw [HL.out]; omega)
      rw [hall] at hown
      have hconv := conv_row hown
      have HA := Lib.hid hall
      clear hall
      go_wp2
      go_ret
      exact ⟨rfl, hbl⟩

end Go.Proofs.Yticigahhdhindaa
