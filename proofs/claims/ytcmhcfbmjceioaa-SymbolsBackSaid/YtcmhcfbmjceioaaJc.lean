/- The reference of symbols, walked: place, turned. Conditions: at most a million bytes. -/
import Derived.Test.YtcmhcfbmjceioaaJa
import Derived.Test.YtcmhcfbmjceioaaI
import Derived.ChangeMaps5
import Derived.BigQuiet
import Derived.Laws.Concat
namespace Go.Proofs.Ytcmhcfbmjceioaa
open Go.RowKit

/-- A list of bytes as a string. -/
def strB (l : List UInt8) : ByteArray := ⟨l.toArray⟩
theorem strB_list (l : List UInt8) : (strB l).data.toList = l := rfl
theorem strB_size (l : List UInt8) : (strB l).size = l.length := rfl
theorem strB_self (s : ByteArray) : strB s.data.toList = s := by
  apply ByteArray.ext
  simp [strB]
theorem getD_byte (s : ByteArray) (i : Nat) (h : i < s.size) : s.data.toList.getD i 0 = s[i] := by
  rw [List.getD_eq_getElem?_getD, List.getElem?_eq_getElem (by simpa using h)]
  rfl
theorem not_empty (s : ByteArray) (h : 0 < s.size) : s.toList.isEmpty = false := by
  rw [ByteArray.toList_eq]
  have hsl : s.data.toList.length = s.size := rfl
  cases hd : s.data.toList with
  | nil => rw [hd] at hsl; simp at hsl; omega
  | cons a l => rfl
theorem idx_eq : ∀ (l : List UInt8) (b : UInt8) (q : Nat), q < l.length → (∀ j, j < q → l.getD j 0 ≠ b) → l.getD q 0 = b → l.idxOf b = q
  | [], _, _, h, _, _ => by simp at h
  | x :: l, b, 0, _, _, h => by
    rw [List.getD_cons_zero] at h
    subst h
    simp
  | x :: l, b, q + 1, hl, hlow, h => by
    have h0 := hlow 0 (Nat.succ_pos q)
    rw [List.getD_cons_zero] at h0
    rw [List.idxOf_cons]
    have e2 : (x == b) = false := by simpa using h0
    rw [e2]
    simp only [List.length_cons] at hl
    rw [List.getD_cons_succ] at h
    have := idx_eq l b q (by omega) (fun j hj => by have := hlow (j + 1) (by omega); rwa [List.getD_cons_succ] at this) h
    simp [this]
theorem idx_none : ∀ (l : List UInt8) (b : UInt8), (∀ j, j < l.length → l.getD j 0 ≠ b) → l.idxOf b = l.length
  | [], _, _ => rfl
  | x :: l, b, hlow => by
    have h0 := hlow 0 (by simp)
    rw [List.getD_cons_zero] at h0
    rw [List.idxOf_cons]
    have e2 : (x == b) = false := by simpa using h0
    rw [e2]
    have := idx_none l b (fun j hj => by have := hlow (j + 1) (by simp; omega); rwa [List.getD_cons_succ] at this)
    simp [this]

set_option maxRecDepth 100000 in
theorem place_any (w : World) (s : ByteArray) (b : UInt8) (hs : s.size ≤ 1000000) : Calls Try.prog 25 #[.string s, .int .u8 b.toNat] w fun e w' => e = .returned (.int .i64 (s.data.toList.idxOf b : Nat)) ∧ w = w' := by
  have HSL := Lib.hid (show s.data.toList.length = s.size from rfl)
  go_enter Try.func25, Try.ntmps25
  go_wp2_with fail
  go_loop [5] (fun x => ∃ q : Nat, q ≤ s.size ∧ x = .int .i64 q ∧ ∀ j, j < q → s.data.toList.getD j 0 ≠ b) (fun x => s.size - (intOf x).toNat)
  case atStart => exact ⟨0, Nat.zero_le _, rfl, fun j h => by omega⟩
  case round =>
    obtain ⟨q, hq, rfl, hlow⟩ := hrel
    have HLOW := Lib.hid hlow
    by_cases e : q < s.size
    · have d1 : decide ((q : Int) < (s.size : Int)) = true := decide_eq_true (by omega)
      have hby := getD_byte s q e
      by_cases e1 : s[q] = b
      · have q1 : ((s[q].toNat : Int) == (b.toNat : Int)) = true := by rw [e1]; simp
        have hix := idx_eq s.data.toList b q (by rw [HSL.out]; exact e) hlow (hby.trans e1)
        have HIX := Lib.hid hix
        clear hlow hby e1 hix
        go_wp2_with fail
        go_ret
        rw [HIX.out]
        exact ⟨rfl, rfl⟩
      · have q1 : ((s[q].toNat : Int) == (b.toNat : Int)) = false := by
          simp only [beq_eq_false_iff_ne, ne_eq]
          exact fun h => e1 (UInt8.toNat_inj.1 (by omega))
        have HE := Lib.hid (show s.data.toList.getD q 0 ≠ b by rw [hby]; exact e1)
        clear hlow hby e1
        go_wp2_with fail
        go_round
        case rel =>
          refine ⟨q + 1, by omega, by go_num, fun j hj => ?_⟩
          by_cases h : j = q
          · rw [h]; exact HE.out
          · exact HLOW.out j (by omega)
        case measure => simp [intOf]; omega
    · obtain rfl : q = s.size := by omega
      have d1 : decide ((s.size : Int) < (s.size : Int)) = false := decide_eq_false (by omega)
      have hix := idx_none s.data.toList b (fun j hj => hlow j (by rw [HSL.out] at hj; exact hj))
      have HIX := Lib.hid hix
      clear hlow hix
      go_wp2_with fail
      go_ret
      rw [HIX.out, HSL.out]
      exact ⟨rfl, rfl⟩

theorem turned_ext (s : ByteArray) (p : Nat) (hp : p < s.size) : s.extract p (p + 1) ++ s.extract 0 p ++ s.extract (p + 1) s.size = strB (turnL s.data.toList p) := by
  apply ByteArray.ext
  apply Array.ext'
  show (s.extract p (p + 1) ++ s.extract 0 p ++ s.extract (p + 1) s.size).data.toList = turnL s.data.toList p
  have hpl : p < s.data.toList.length := hp
  rw [ByteArray.data_append, ByteArray.data_append, Array.toList_append, Array.toList_append, ByteArray.data_extract, ByteArray.data_extract, ByteArray.data_extract, Array.toList_extract, Array.toList_extract, Array.toList_extract, List.extract_eq_take_drop, List.extract_eq_take_drop, List.extract_eq_take_drop, List.drop_zero, Nat.sub_zero, show p + 1 - p = 1 by omega, turnL]
  have h1 : (s.data.toList.drop p).take 1 = [s.data.toList.getD p 0] := by
    rw [List.drop_eq_getElem_cons hpl, List.getD_eq_getElem?_getD, List.getElem?_eq_getElem hpl]
    rfl
  have h2 : (s.data.toList.drop (p + 1)).take (s.size - (p + 1)) = s.data.toList.drop (p + 1) := by
    refine List.take_of_length_le ?_
    rw [List.length_drop]
    exact Nat.le_refl _
  rw [h1, h2]
  simp

set_option maxHeartbeats 1600000 in
set_option maxRecDepth 100000 in
theorem turned_any (w : World) (s : ByteArray) (p : Nat) (hp : p < s.size) (hs : s.size ≤ 1000000) : Calls Try.prog 30 #[.string s, .int .i64 p] w fun e w' => e = .returned (.string (strB (turnL s.data.toList p))) ∧ ∃ m, w' = w.drewN m := by
  have hx := turned_ext s p hp
  have h1 : (s.extract p (p + 1)).size = 1 := by rw [ByteArray.size_extract]; omega
  have h2 : (s.extract 0 p).size = p := by rw [ByteArray.size_extract]; omega
  have h3 : (s.extract (p + 1) s.size).size = s.size - (p + 1) := by rw [ByteArray.size_extract]; omega
  have hc1 : ∀ w9 : World, (Op.stringOp .add (s.extract p (p + 1)) (s.extract 0 p)).run Try.prog w9 = .ok (.string (s.extract p (p + 1) ++ s.extract 0 p)) w9 := fun w9 => run_string_add_sum w9 _ _ (by omega)
  have hc2 : ∀ w9 : World, (Op.stringOp .add (s.extract p (p + 1) ++ s.extract 0 p) (s.extract (p + 1) s.size)).run Try.prog w9 = .ok (.string (strB (turnL s.data.toList p))) w9 := fun w9 => (run_string_add_sum w9 _ _ (by rw [ByteArray.size_append]; omega)).trans (by rw [hx])
  have hi0 : (0 : Int) ≤ (p : Int) := by omega
  have hi1 : (p : Int) ≤ (p : Int) + 1 := by omega
  have hi2 : (p : Int) + 1 ≤ (s.size : Int) := by omega
  have hi3 : (p : Int) ≤ (s.size : Int) := by omega
  have hi4 : (0 : Int) ≤ (p : Int) + 1 := by omega
  have hwr : IntKind.i64.wrap ((p : Int) + 1) = (p : Int) + 1 := by rw [IntKind.wrap_i64]; omega
  clear hx h1 h2 h3
  generalize strB (turnL s.data.toList p) = t at *
  go_enter Try.func30, Try.ntmps30
  go_wp2_with fail
  go_region
  go_wp2_with fail
  go_ret
  exact ⟨rfl, 1, rfl⟩

end Go.Proofs.Ytcmhcfbmjceioaa
