/- The reference of symbols, walked: Of, May. Conditions: at most a million bytes. -/
import Derived.Test.YtcmhcfbmjceioaaJc
import Derived.Laws.BytesArg
namespace Go.Proofs.Ytcmhcfbmjceioaa
open Go.RowKit

/-- The bytes below b that stand in a text. -/
def ofUp (s : List UInt8) (b : Nat) : List UInt8 := ((List.range b).map UInt8.ofNat).filter fun x => decide (x ∈ s)
theorem ofUp_all (s : List UInt8) : ofUp s 256 = ofL s := rfl
theorem ofUp_next (s : List UInt8) (b : Nat) : ofUp s (b + 1) = ofUp s b ++ if UInt8.ofNat b ∈ s then [UInt8.ofNat b] else [] := by
  unfold ofUp
  rw [List.range_succ, List.map_append, List.filter_append]
  congr 1
  simp only [List.map_cons, List.map_nil, List.filter_cons, List.filter_nil, decide_eq_true_eq]
theorem ofUp_length (s : List UInt8) (b : Nat) : (ofUp s b).length ≤ b := by
  unfold ofUp
  refine Nat.le_trans (List.length_filter_le _ _) ?_
  rw [List.length_map, List.length_range]
  exact Nat.le_refl _
theorem conv_one (w1 : World) (v : Int) : (convert 56 9 (.slice (some ⟨w1.heap.size, 0, none⟩) 1 1)).run Try.prog (w1.alloc (.cells #[.int .u8 v] 5)) = .ok (.string ⟨#[UInt8.ofNat v.toNat]⟩) (w1.alloc (.cells #[.int .u8 v] 5)) := by
  refine run_convert_bytes_arg (P := Try.prog) (w1.alloc (.cells #[.int .u8 v] 5)) 56 5 Try.underlying56 Try.underlying5 w1.heap.size 0 1 1 [v] rfl (fun i hi => ?_) 9 Try.underlying9
  obtain rfl : i = 0 := by omega
  rw [World.cell?_alloc_new]
  rfl
theorem idx_lt (s : List UInt8) (b : UInt8) : s.idxOf b < s.length ↔ b ∈ s := List.idxOf_lt_length_iff

set_option maxHeartbeats 1600000 in
set_option maxRecDepth 100000 in
theorem rsof_any (w : World) (s : ByteArray) (hs : s.size ≤ 1000000) : Calls Try.prog 11 #[.string s] w fun e w' => e = .returned (.string (strB (ofL s.data.toList))) ∧ Below w.heap.size w w' := by
  have HSL := Lib.hid (show s.data.toList.length = s.size from rfl)
  have HN := Lib.hid (ofUp_next s.data.toList)
  have HLN := Lib.hid (ofUp_length s.data.toList)
  go_enter Try.func11, Try.ntmps11
  go_wp2_with fail
  go_loopw [3, 4] (fun out x wx => ∃ (b : Nat) (t : ByteArray), b ≤ 256 ∧ x = .int .i64 b ∧ out = .string t ∧ t.data.toList = ofUp s.data.toList b ∧ Below w.heap.size w wx) (fun _ x _ => 256 - (intOf x).toNat)
  case atStart => exact ⟨0, ⟨#[]⟩, by omega, rfl, rfl, rfl, Below.refl _ _⟩
  case round =>
    obtain ⟨b, t, hb, rfl, rfl, ht, hbl⟩ := hrel
    have HT := Lib.hid ht
    have HB := Lib.hid hbl
    have hz := hbl.size
    by_cases e : b < 256
    · have d1 : decide ((b : Int) < 256) = true := decide_eq_true (by omega)
      have hbn : (UInt8.ofNat b).toNat = b := by rw [UInt8.toNat_ofNat', Nat.mod_eq_of_lt e]
      have hpl := place_any wr s (UInt8.ofNat b) hs
      rw [hbn] at hpl
      have hnx := HN.out b
      have hlt := idx_lt s.data.toList (UInt8.ofNat b)
      rw [HSL.out] at hlt
      obtain ⟨p, hp⟩ : ∃ p, p = s.data.toList.idxOf (UInt8.ofNat b) := ⟨_, rfl⟩
      rw [← hp] at hpl hlt
      have HPL := Lib.hid hpl
      have hw8 : IntKind.u8.wrap (b : Int) = (b : Int) := by
        show (b : Int) % 256 = b
        omega
      by_cases e1 : UInt8.ofNat b ∈ s.data.toList
      · have hps : p < s.size := hlt.2 e1
        have d2 : decide ((p : Int) < (s.size : Int)) = true := decide_eq_true (by omega)
        rw [if_pos e1] at hnx
        have hcv := conv_one wr (b : Int)
        rw [Int.toNat_natCast] at hcv
        obtain ⟨t2, ht2⟩ : ∃ t2 : ByteArray, t2 = t ++ ⟨#[UInt8.ofNat b]⟩ := ⟨_, rfl⟩
        have hts : t.size ≤ 256 := by
          show t.data.toList.length ≤ 256
          rw [ht]
          exact Nat.le_trans (HLN.out b) (by omega)
        have hcat : ∀ w9 : World, (Op.stringOp .add t ⟨#[UInt8.ofNat b]⟩).run Try.prog w9 = .ok (.string t2) w9 := fun w9 => (run_string_add_sum w9 _ _ (by show t.size + 1 ≤ _; omega)).trans (by rw [ht2])
        have ht2d : t2.data.toList = ofUp s.data.toList (b + 1) := by
          rw [hnx, ← ht, ht2]
          show (t ++ ⟨#[UInt8.ofNat b]⟩ : ByteArray).data.toList = _
          rw [ByteArray.data_append, Array.toList_append]
        have HT2 := Lib.hid ht2d
        have HB2 := Lib.hid (hbl.alloc hz (.cells #[.int .u8 (b : Int)] 5))
        clear ht hbl hbn hpl hnx hlt hp e1 ht2 hts ht2d
        go_wp2_with fail
        refine HPL.out.mono ?_
        rintro e w1 ⟨rfl, rfl⟩
        go_wp2_with fail
        go_roundw
        case rel => exact ⟨b + 1, t2, by omega, by go_num, rfl, HT2.out, HB2.out⟩
        case measure => simp [intOf]; omega
      · have hps : ¬ p < s.size := fun h => e1 (hlt.1 h)
        have d2 : decide ((p : Int) < (s.size : Int)) = false := decide_eq_false (by omega)
        rw [if_neg e1, List.append_nil] at hnx
        have HNX := Lib.hid hnx
        clear ht hbl hbn hpl hnx hlt hp e1
        go_wp2_with fail
        refine HPL.out.mono ?_
        rintro e w1 ⟨rfl, rfl⟩
        go_wp2_with fail
        go_roundw
        case rel => exact ⟨b + 1, t, by omega, by go_num, rfl, by rw [HNX.out]; exact HT.out, HB.out⟩
        case measure => simp [intOf]; omega
    · obtain rfl : b = 256 := by omega
      have htt : t = strB (ofL s.data.toList) := by
        apply ByteArray.ext
        apply Array.ext'
        exact ht
      subst htt
      clear ht hbl
      go_wp2_with fail
      go_ret
      exact ⟨rfl, HB.out⟩

set_option maxRecDepth 100000 in
theorem may_any (w : World) (s : ByteArray) (hs : s.size ≤ 1000000) : Calls Try.prog 29 #[.string s] w fun e w' => e = .returned (.bool (decide (MayL s.data.toList))) ∧ Below w.heap.size w w' := by
  by_cases h0 : s.size = 0
  · have hd : s = ⟨#[]⟩ := by
      apply ByteArray.ext
      exact Array.eq_empty_of_size_eq_zero h0
    subst hd
    have e : decide (MayL (⟨#[]⟩ : ByteArray).data.toList) = false := decide_eq_false (fun h => h.1 rfl)
    rw [e]
    go_enter Try.func29, Try.ntmps29
    go_wp2_with fail
    go_ret
    exact ⟨rfl, Below.refl _ _⟩
  · have hne := not_empty s (by omega)
    have hnil : s.data.toList ≠ [] := fun h => by
      have hsl : s.data.toList.length = s.size := rfl
      rw [h] at hsl
      simp at hsl
      omega
    have HA := Lib.hid (rsof_any w s hs)
    have heq : ((strB (ofL s.data.toList)).toList == s.toList) = decide (MayL s.data.toList) := by
      rw [ByteArray.toList_eq, ByteArray.toList_eq]
      show (ofL s.data.toList == s.data.toList) = _
      by_cases h : ofL s.data.toList = s.data.toList
      · rw [decide_eq_true ⟨hnil, h⟩, h]
        simp
      · rw [decide_eq_false (fun h2 => h h2.2)]
        simpa using h
    clear hnil
    generalize decide (MayL s.data.toList) = d at *
    go_enter Try.func29, Try.ntmps29
    go_wp2_with fail
    refine HA.out.mono ?_
    rintro e w1 ⟨rfl, hb⟩
    have HB := Lib.hid hb
    clear hb
    go_wp2_with fail
    go_ret
    exact ⟨rfl, HB.out⟩

end Go.Proofs.Ytcmhcfbmjceioaa
