/- Pax: pairs in memory; the reference's Last and Same, the law's light. Written ahead of stage 17. -/
import Derived.Test.YtccfjabmmecbkaaDoorPxa
import Derived.Laws.StructEq
namespace Go.Proofs.YtccfjabmmecbkaaDoor
open Go.RowKit

abbrev PairB := ByteArray × ByteArray
def noB : PairB := (⟨#[]⟩, ⟨#[]⟩)
/-- Pairs that are read: two cells each. -/
def PIn (w : World) (A : Option Addr) (n : Nat) (L : List PairB) : Prop := L.length = n ∧ (0 < n → ∃ b off, A = some ⟨b, off, none⟩ ∧ ∀ i, i < n → w.cell? ⟨b, off + i * 2, none⟩ = some (.string (L.getD i noB).1) ∧ w.cell? ⟨b, off + i * 2 + 1, none⟩ = some (.string (L.getD i noB).2))
theorem PIn.below {w w' : World} {A : Option Addr} {n : Nat} {L : List PairB} (h : PIn w A n L) (hb : Below w.heap.size w w') : PIn w' A n L := by
  refine ⟨h.1, fun hn => ?_⟩
  obtain ⟨b, off, rfl, hc⟩ := h.2 hn
  exact ⟨b, off, rfl, fun i hi => ⟨(hb.cell (p := ⟨b, _, none⟩) (World.block_lt_of_cell? w _ (hc i hi).1)).trans (hc i hi).1, (hb.cell (p := ⟨b, _, none⟩) (World.block_lt_of_cell? w _ (hc i hi).2)).trans (hc i hi).2⟩⟩
theorem pbytes_same (a b : ByteArray) : (a.toList == b.toList) = true ↔ a = b := by
  rw [ByteArray.toList_eq, ByteArray.toList_eq, beq_iff_eq]
  constructor
  · intro h
    apply ByteArray.ext
    exact Array.toList_inj.1 h
  · exact fun h => by rw [h]
theorem bytes_eql (a b : ByteArray) : (a.toList == b.toList) = decide (a = b) := by
  by_cases h : a = b
  · rw [decide_eq_true h]
    exact (pbytes_same a b).2 h
  · rw [decide_eq_false h, ← Bool.not_eq_true]
    exact fun hs => h ((pbytes_same a b).1 hs)
/-- The answer's two parts. -/
def optS (v : Option ByteArray) : ByteArray := v.getD ⟨#[]⟩
def optB (v : Option ByteArray) : Bool := v.isSome
theorem last_next (k : ByteArray) (L : List PairB) (q : Nat) (hq : q < L.length) (v : Option ByteArray) : lastA k (L.take (q + 1)) v = if (L.getD q noB).1 = k then some (L.getD q noB).2 else lastA k (L.take q) v := by
  rw [List.take_succ_eq_append_getElem hq, lastA_append, lastA, lastA, List.getD_eq_getElem?_getD, List.getElem?_eq_getElem hq]
  rfl

set_option maxHeartbeats 3200000 in
set_option maxRecDepth 100000 in
theorem rlast_any (w : World) (A : Option Addr) (n c : Nat) (L : List PairB) (k : ByteArray) (hI : PIn w A n L) (hn : n ≤ maxLen) :
    Calls Tryd.prog 7 #[.slice A n c, .string k] w fun e w' => e = .returned (.tuple #[.string (optS (lastA k L none)), .bool (optB (lastA k L none))]) ∧ Below w.heap.size w w' := by
  have HI := Lib.hid hI
  have HNX := Lib.hid (last_next k L)
  have hlen := hI.1
  have HL : Hid (lastA k (L.take n) none = lastA k L none) := Lib.hid (by rw [← hlen, List.take_length])
  have H0 : Hid (lastA k (L.take 0) none = none) := Lib.hid rfl
  have HP : Hid (∀ w' : World, Below w.heap.size w w' → (fun e w' => e = Ending.returned (.tuple #[.string (optS (lastA k L none)), .bool (optB (lastA k L none))]) ∧ Below w.heap.size w w') (.returned (.tuple #[.string (optS (lastA k L none)), .bool (optB (lastA k L none))])) w') := Lib.hid fun w' h => ⟨rfl, h⟩
  generalize (fun e w' => e = Ending.returned (.tuple #[.string (optS (lastA k L none)), .bool (optB (lastA k L none))]) ∧ Below w.heap.size w w') = PO at *
  have HLEN := Lib.hid hlen
  unfold maxLen at hn
  generalize lastA k L none = V at *
  generalize hZ : (fun q => lastA k (L.take q) none) = Z at *
  have HZ : Hid (∀ q, lastA k (L.take q) none = Z q) := Lib.hid fun q => by rw [← hZ]
  clear hZ hI hlen
  go_enter Tryd.func7, Tryd.ntmps7
  go_wp2_with fail
  go_loopw [6, 7, 8] (fun sv ss si wx => ∃ q : Nat, sv = .string (optS (Z q)) ∧ ss = .bool (optB (Z q)) ∧ si = .int .i64 q ∧ q ≤ n ∧ Below w.heap.size w wx) (fun _ _ si _ => n - (intOf si).toNat)
  case atStart =>
    refine ⟨0, ?_, ?_, rfl, Nat.zero_le _, Below.refl _ _⟩
    · rw [← HZ.out, H0.out]
      rfl
    · rw [← HZ.out, H0.out]
      rfl
  case round =>
    obtain ⟨q, rfl, rfl, rfl, hqn, hbx⟩ := hrel
    have HBX := Lib.hid hbx
    by_cases e : q < n
    · have d2 : decide ((q : Int) < (n : Int)) = true := decide_eq_true (by omega)
      obtain ⟨b, off, hA, hc⟩ := (HI.out.below hbx).2 (by omega)
      obtain ⟨c1, c2⟩ := hc q e
      have hnx := HNX.out q (by rw [HLEN.out]; exact e) none
      rw [HZ.out, HZ.out] at hnx
      obtain ⟨K, hK⟩ : ∃ K, K = (L.getD q noB).1 := ⟨_, rfl⟩
      obtain ⟨U, hU⟩ : ∃ U, U = (L.getD q noB).2 := ⟨_, rfl⟩
      rw [← hK] at c1 hnx
      rw [← hU] at c2 hnx
      subst hA
      clear hc hK hU hbx
      by_cases ek : K = k
      · have hs : (K.toList == k.toList) = true := (pbytes_same K k).2 ek
        rw [if_pos ek] at hnx
        have HNXT := Lib.hid hnx
        clear hnx ek
        go_wp2_with fail
        go_roundw
        case rel => exact ⟨q + 1, by rw [HNXT.out]; rfl, by rw [HNXT.out]; rfl, by go_num, by omega, HBX.out⟩
        case measure => simp [intOf]; omega
      · have hs : (K.toList == k.toList) = false := by rw [bytes_eql, decide_eq_false ek]
        rw [if_neg ek] at hnx
        have HNXT := Lib.hid hnx
        clear hnx ek
        go_wp2_with fail
        go_roundw
        case rel => exact ⟨q + 1, by rw [HNXT.out], by rw [HNXT.out], by go_num, by omega, HBX.out⟩
        case measure => simp [intOf]; omega
    · obtain rfl : q = n := by omega
      have d2 : decide ((q : Int) < (q : Int)) = false := decide_eq_false (by omega)
      have hv : Z q = V := by rw [← HZ.out, HL.out]
      rw [hv]
      have HF := Lib.hid (HP.out _ hbx)
      clear hbx hv
      go_wp2_with fail
      exact HF.out
end Go.Proofs.YtccfjabmmecbkaaDoor
