/- The exclusive or of two texts of one length, walked. -/
import Derived.Test.YtkhabmbclepjpaaDj
import Derived.Lib.ConvBytes
import Derived.Lib.AtoiErrMem
import Derived.Laws.BytesArg
namespace Go.Proofs.Ytkhabmbclepjpaa
open Go.RowKit

/-- A block of bytes whose first n cells may be read and written. -/
def BytesAt (w : World) (g n : Nat) (f : Nat → Nat) : Prop := ∀ i, i < n → w.cell? ⟨g, i, none⟩ = some (.int .u8 (f i)) ∧ w.frozen? ⟨g, i, none⟩ = false
theorem BytesAt.set {w : World} {g n : Nat} {f : Nat → Nat} (h : BytesAt w g n f) (j v : Nat) (hj : j < n) : BytesAt (w.setCell ⟨g, j, none⟩ (.int .u8 v)) g n (fun i => if i = j then v else f i) := by
  intro i hi
  refine ⟨?_, by rw [World.frozen?_setCell]; exact (h i hi).2⟩
  by_cases e : i = j
  · subst e
    rw [World.cell?_setCell_same _ _ _ (h i hi).1]
    simp
  · rw [World.cell?_setCell_other _ _ _ _ (by intro hh; cases hh; exact e rfl), (h i hi).1]
    simp [e]

/-- What stands in the bytes when j of them are mixed. -/
def mixF (A B : List UInt8) (j i : Nat) : Nat := if i < j then (A.getD i 0).toNat ^^^ (B.getD i 0).toNat else (A.getD i 0).toNat
theorem mixF_next (A B : List UInt8) (j : Nat) : (fun i => if i = j then (A.getD j 0).toNat ^^^ (B.getD j 0).toNat else mixF A B j i) = mixF A B (j + 1) := by
  funext i
  unfold mixF
  by_cases e : i = j
  · subst e
    simp
  · by_cases h : i < j
    · simp [e, h, show i < j + 1 by omega]
    · simp [e, h, show ¬ i < j + 1 by omega]
theorem mixF_self (A B : List UInt8) (j : Nat) : mixF A B j j = (A.getD j 0).toNat := by simp [mixF]
def mixB (A B : List UInt8) : ByteArray := ⟨(List.zipWith (· ^^^ ·) A B).toArray⟩
theorem mix_all (A B : List UInt8) (n : Nat) (hA : A.length = n) (hB : B.length = n) : strOfNums ((List.range n).map fun i => ((mixF A B n i : Nat) : Int)) = mixB A B := by
  unfold strOfNums mixB
  congr 2
  apply List.ext_getElem?
  intro i
  rw [List.getElem?_map, List.getElem?_map, List.getElem?_zipWith]
  by_cases h : i < n
  · rw [List.getElem?_range h, List.getElem?_eq_getElem (by omega), List.getElem?_eq_getElem (by omega)]
    have e1 : A.getD i 0 = A[i] := by rw [List.getD_eq_getElem?_getD, List.getElem?_eq_getElem (by omega)]; rfl
    have e2 : B.getD i 0 = B[i] := by rw [List.getD_eq_getElem?_getD, List.getElem?_eq_getElem (by omega)]; rfl
    simp only [Option.map_some, mixF, if_pos h, e1, e2, Int.toNat_natCast]
    rw [← UInt8.toNat_xor, UInt8.ofNat_toNat]
  · rw [List.getElem?_eq_none (l := List.range n) (by simp; omega), List.getElem?_eq_none (by omega)]
    rfl

theorem bytesWorld_frozen (w : World) (e : TypeId) (s : ByteArray) (i : Nat) (h : i < s.size) : (Lib.bytesWorld w e s).frozen? ⟨w.heap.size, i, none⟩ = false := by
  have hsz : s.size ≤ (Lib.bytesCells w e s).size := by
    simp [Lib.bytesCells]
  simp [World.frozen?, Lib.bytesWorld_at_new]
  intro h1
  exfalso
  omega

set_option maxHeartbeats 1600000 in
theorem mixed_any (w : World) (a b : ByteArray) (n : Nat) (ha : a.size = n) (hb : b.size = n) (hs : n ≤ 140737488355328) :
    Calls Try.prog 18 #[.string a, .string b] w fun e w' => e = .returned (.string (mixB a.data.toList b.data.toList)) ∧ Below w.heap.size w w' := by
  have hcv := Lib.run_convert_string_bytes (P := Try.prog) w 9 51 5 a Try.underlying9 Try.underlying51 Try.underlying5
  have h0 : BytesAt (Lib.bytesWorld w 5 a) w.heap.size n (mixF a.data.toList b.data.toList 0) := by
    intro i hi
    exact ⟨Lib.bytesWorld_cell w 5 a i (by omega), bytesWorld_frozen w 5 a i (by omega)⟩
  have hb0 : Below w.heap.size w (Lib.bytesWorld w 5 a) := Lib.bytesWorld_below w 5 a
  rw [ha] at hcv
  have hall := mix_all a.data.toList b.data.toList n ha hb
  have hbl : ∀ i (h : i < n), (b.data.toList.getD i 0).toNat = (b[i]'(by omega)).toNat := by
    intro i h
    rw [List.getD_eq_getElem?_getD, List.getElem?_eq_getElem (by show i < b.size; omega)]
    rfl
  generalize grownCap w n 0 5 = cap at *
  generalize Lib.bytesWorld w 5 a = w1 at *
  have H0 := Lib.hid h0
  have HB := Lib.hid hb0
  have HA := Lib.hid hall
  have HL := Lib.hid hbl
  have HSA := Lib.hid ha
  clear h0 hb0 hall hbl ha
  go_enter Try.func18, Try.ntmps18
  go_wp2_with fail
  clear hcv
  go_loopw [6] (fun i wr => ∃ j : Nat, j ≤ n ∧ i = .int .i64 j ∧ BytesAt wr w.heap.size n (mixF a.data.toList b.data.toList j) ∧ Below w.heap.size w wr) (fun i _ => n - (intOf i).toNat)
  case atStart => exact ⟨0, Nat.zero_le _, rfl, H0.out, HB.out⟩
  case round =>
    obtain ⟨j, hj, rfl, hby, hbw⟩ := hrel
    by_cases h : j < n
    · have hst := hby.set j ((a.data.toList.getD j 0).toNat ^^^ (b.data.toList.getD j 0).toNat) h
      rw [mixF_next] at hst
      obtain ⟨g1, g2⟩ := hby j h
      rw [mixF_self] at g1
      have e1 := HL.out j h
      have hx1 : (a.data.toList.getD j 0).toNat < 256 := UInt8.toNat_lt _
      have hx2 : (b.data.toList.getD j 0).toNat < 256 := UInt8.toNat_lt _
      have hx := u8_xor_nat _ _ hx1 hx2
      have HST := Lib.hid hst
      rw [e1] at hx hx2 HST
      clear hst
      have HBY := Lib.hid hby
      have HBW := Lib.hid hbw
      clear hby hbw
      generalize (a.data.toList.getD j 0).toNat = x at *
      go_wp2_with fail
      go_region
      go_wp2_with fail
      go_roundw
      case rel => exact ⟨j + 1, by omega, by go_num, HST.out, (HBW.out.setCell (p := ⟨w.heap.size, j, none⟩) (Nat.le_refl _) _).drew⟩
      case measure => simp [intOf]; omega
    · obtain rfl : j = n := by omega
      have hcv := run_convert_bytes_arg (P := Try.prog) wr 51 5 Try.underlying51 Try.underlying5 w.heap.size 0 j cap ((List.range j).map fun i => ((mixF a.data.toList b.data.toList j i : Nat) : Int)) (by simp) (fun i hi => by
        rw [Nat.zero_add, (hby i hi).1, List.getD_eq_getElem?_getD, List.getElem?_map, List.getElem?_range hi]
        rfl) 9 Try.underlying9
      rw [HA.out] at hcv
      have HBW := Lib.hid hbw
      clear hby hbw
      go_wp2_with fail
      go_ret
      exact ⟨rfl, HBW.out⟩

end Go.Proofs.Ytkhabmbclepjpaa
