/- bytes.IndexByte; []byte(s). Conditions: at most a million bytes. -/
import Derived.Test.YtcmhcfbmjceioaaVg
import Derived.Lib.AtoiErrMem
namespace Go.Proofs.Ytcmhcfbmjceioaa
open Go.RowKit

theorem index_idx (l : List UInt8) (b : UInt8) : Lib.indexByte l b = if b ∈ l then ((l.idxOf b : Nat) : Int) else -1 := by
  induction l with
  | nil => simp [Lib.indexByte]
  | cons x l ih =>
    unfold Lib.indexByte
    rw [List.idxOf_cons]
    by_cases e : x = b
    · subst e
      simp
    · have e1 : (x == b) = false := by simpa using e
      have e2 : ¬ b = x := fun h => e h.symm
      rw [e1, ih]
      simp only [Bool.false_eq_true, if_false, cond_false, List.mem_cons, e2, false_or]
      by_cases hm : b ∈ l
      · rw [if_pos hm, if_pos hm]
        have : (((l.idxOf b : Nat) : Int) == -1) = false := by
          rw [beq_eq_false_iff_ne]
          omega
        rw [this]
        simp
      · rw [if_neg hm, if_neg hm]
        simp
theorem bytes_of (l : List UInt8) : Lib.bytesOf (l.map fun b => (b.toNat : Int)) = l := by
  unfold Lib.bytesOf
  rw [List.map_map]
  conv => rhs; rw [← List.map_id l]
  refine List.map_congr_left fun b _ => ?_
  show UInt8.ofNat ((b.toNat : Int).toNat) = b
  rw [Int.toNat_natCast, UInt8.ofNat_toNat]

theorem idxbyte_any (w : World) (g n c : Nat) (l : List UInt8) (b : UInt8) (hL : LIn w g l) (hn : l.length = n) :
    Calls Try.prog 27 #[.slice (some ⟨g, 0, none⟩) n c, .int .u8 b.toNat] w fun e w' => e = .returned (.int .i64 (if b ∈ l then ((l.idxOf b : Nat) : Int) else -1)) ∧ w' = w := by
  have hrun := Lib.run_indexByteSlice (P := Try.prog) w g 0 n c (l.map fun b => (b.toNat : Int)) (by rw [List.length_map, hn]) (fun i hi => by
    rw [Nat.zero_add, (hL i (by omega)).1, List.getD_eq_getElem?_getD, List.getD_eq_getElem?_getD, List.getElem?_map, List.getElem?_eq_getElem (by omega)]
    rfl) b.toNat
  rw [bytes_of, Int.toNat_natCast, show b.toNat.toUInt8 = b from UInt8.ofNat_toNat, index_idx] at hrun
  have HR := Lib.hid hrun
  clear hrun hL hn
  generalize (if b ∈ l then ((l.idxOf b : Nat) : Int) else -1) = y at *
  go_enter Try.func27, Try.ntmps27
  go_wp2_with fail
  rw [run_callFunc_extern Try.func42 (by kernel_rfl) (by kernel_rfl) (by kernel_rfl) (e := Extern.BytealgIndexByte.indexByte) (by kernel_rfl), HR.out]
  simp only [Result.andThen]
  rw [Oper.upon_value]
  go_wp2_with fail
  go_ret
  exact ⟨rfl, rfl⟩

/-- What []byte(s) makes. -/
theorem conv_lin (w : World) (s : ByteArray) : ∃ c w2, (convert 9 56 (.string s)).run Try.prog w = .ok (.slice (some ⟨w.heap.size, 0, none⟩) s.size c) w2 ∧ s.size ≤ c ∧ LIn w2 w.heap.size s.data.toList ∧ Below w.heap.size w w2 ∧ w2.heap.size = w.heap.size + 1 := by
  refine ⟨_, _, Lib.run_convert_string_bytes (P := Try.prog) w 9 56 5 s Try.underlying9 Try.underlying56 Try.underlying5, ?_, ?_, Lib.bytesWorld_below w 5 s, Lib.bytesWorld_size w 5 s⟩
  · exact grownCap_ge _ _ _ _
  · intro i hi
    have hi2 : i < s.size := hi
    refine ⟨Lib.bytesWorld_cell w 5 s i hi2, ?_⟩
    have hsz : s.size ≤ (Lib.bytesCells w 5 s).size := by
      simp [Lib.bytesCells]
    simp [World.frozen?, Lib.bytesWorld_at_new]
    intro h1
    exfalso
    omega

end Go.Proofs.Ytcmhcfbmjceioaa
