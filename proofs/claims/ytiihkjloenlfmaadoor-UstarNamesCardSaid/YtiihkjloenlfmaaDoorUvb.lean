/- Ustar's code: lay. No conditions. -/
import Derived.Test.YtiihkjloenlfmaaDoorUva
namespace Go.Proofs.YtiihkjloenlfmaaDoor
open Go.RowKit

abbrev LaidP := List UInt8 × Nat
def noL : LaidP := ([], 0)
/-- Fields that are read: two cells each. -/
def LIn16 (w : World) (A : Option Addr) (n : Nat) (L : List LaidP) : Prop := L.length = n ∧ (0 < n → ∃ b off, A = some ⟨b, off, none⟩ ∧ ∀ i, i < n → w.cell? ⟨b, off + i * 2, none⟩ = some (.string (strF (L.getD i noL).1)) ∧ w.cell? ⟨b, off + i * 2 + 1, none⟩ = some (.int .i64 (L.getD i noL).2))
theorem LIn16.below {w w' : World} {A : Option Addr} {n : Nat} {L : List LaidP} (h : LIn16 w A n L) (hb : Below w.heap.size w w') : LIn16 w' A n L := by
  refine ⟨h.1, fun hn => ?_⟩
  obtain ⟨b, off, rfl, hc⟩ := h.2 hn
  exact ⟨b, off, rfl, fun i hi => ⟨(hb.cell (p := ⟨b, _, none⟩) (World.block_lt_of_cell? w _ (hc i hi).1)).trans (hc i hi).1, (hb.cell (p := ⟨b, _, none⟩) (World.block_lt_of_cell? w _ (hc i hi).2)).trans (hc i hi).2⟩⟩
/-- What lay answers. -/
def layS (L : List LaidP) : List UInt8 := L.flatMap (·.1)
def layOk (L : List LaidP) : Prop := ∀ p ∈ L, p.2 = 0
instance (L : List LaidP) : Decidable (layOk L) := by unfold layOk; infer_instance
def layA (L : List LaidP) : List UInt8 × Bool := if layOk L then (layS L, true) else ([], false)
set_option maxRecDepth 100000 in
theorem layS_next (L : List LaidP) (q : Nat) (hq : q < L.length) : strF (layS (L.take q)) ++ strF (L.getD q noL).1 = strF (layS (L.take (q + 1))) := by
  rw [strF_app, List.take_succ_eq_append_getElem hq, List.getD_eq_getElem?_getD, List.getElem?_eq_getElem hq]
  unfold layS
  rw [List.flatMap_append]
  simp
theorem layS_le (L : List LaidP) (q : Nat) : (layS (L.take q)).length ≤ (layS L).length := by
  have h := congrArg (fun l => (layS l).length) (List.take_append_drop q L)
  unfold layS at *
  rw [List.flatMap_append, List.length_append] at h
  omega

set_option maxHeartbeats 3200000 in
set_option maxRecDepth 100000 in
theorem clay_any (w : World) (A : Option Addr) (n c : Nat) (L : List LaidP) (hI : LIn16 w A n L) (hn : n ≤ 1000) (hz : (layS L).length ≤ 100000) :
    Calls Tryd.prog 17 #[.slice A n c] w fun e w' => e = .returned (.tuple #[.string (strF (layA L).1), .bool (layA L).2]) ∧ Below w.heap.size w w' := by
  have HI := Lib.hid hI
  have hlen := hI.1
  have HP : Hid (∀ (l : List UInt8) (b : Bool) (w' : World), layA L = (l, b) → Below w.heap.size w w' → (fun e w' => e = Ending.returned (.tuple #[.string (strF (layA L).1), .bool (layA L).2]) ∧ Below w.heap.size w w') (.returned (.tuple #[.string (strF l), .bool b])) w') := Lib.hid fun l b w' h hb => ⟨by rw [h], hb⟩
  generalize (fun e w' => e = Ending.returned (.tuple #[.string (strF (layA L).1), .bool (layA L).2]) ∧ Below w.heap.size w w') = PO at *
  have HZ : Hid (∀ q, (strF (layS (L.take q))).size ≤ 100000) := Lib.hid fun q => by
    have := layS_le L q
    show (layS (L.take q)).length ≤ _
    omega
  have HNX := Lib.hid (layS_next L)
  have HLEN := Lib.hid hlen
  have H0 : Hid (strF (layS (L.take 0)) = ⟨#[]⟩) := Lib.hid rfl
  have HYES : Hid (layOk (L.take n) → layA L = (layS (L.take n), true)) := Lib.hid (by
    rw [← hlen, List.take_length]
    intro h
    unfold layA
    rw [if_pos h])
  clear hI hlen hz
  go_enter Tryd.func17, Tryd.ntmps17
  go_wp2_with fail
  go_loopw [4, 9] (fun ss si wx => ∃ q : Nat, ss = .string (strF (layS (L.take q))) ∧ si = .int .i64 q ∧ q ≤ n ∧ Hid (layOk (L.take q)) ∧ Below w.heap.size w wx) (fun _ si _ => n - (intOf si).toNat)
  case atStart => exact ⟨0, by rw [H0.out], rfl, Nat.zero_le _, Lib.hid (fun p hp => by simp at hp), Below.refl _ _⟩
  case round =>
    obtain ⟨q, rfl, rfl, hqn, hok, hbx⟩ := hrel
    have HBX := Lib.hid hbx
    by_cases e : q < n
    · have d2 : decide ((q : Int) < (n : Int)) = true := decide_eq_true (by omega)
      obtain ⟨b, off, hA, hc⟩ := (HI.out.below hbx).2 (by omega)
      obtain ⟨c1, c2⟩ := hc q e
      have HN := Lib.hid (HNX.out q (by rw [HLEN.out]; exact e))
      have HG : Hid ((L.getD q noL) ∈ L) := Lib.hid (by
        have hq : q < L.length := by rw [HLEN.out]; exact e
        rw [List.getD_eq_getElem?_getD, List.getElem?_eq_getElem hq]
        exact List.getElem_mem hq)
      have HT : Hid (L.take (q + 1) = L.take q ++ [L.getD q noL]) := Lib.hid (by
        have hq : q < L.length := by rw [HLEN.out]; exact e
        rw [List.take_succ_eq_append_getElem hq, List.getD_eq_getElem?_getD, List.getElem?_eq_getElem hq]
        rfl)
      have hz1 := HZ.out (q + 1)
      rw [← HN.out, ByteArray.size_append] at hz1
      have HBN : Hid (∀ x : Obj, Below w.heap.size w (wr.alloc x)) := Lib.hid fun x => hbx.alloc hbx.size _
      generalize hP : L.getD q noL = P at *
      have HP9 := Lib.hid hP
      obtain ⟨T, E⟩ := P
      dsimp only at c1 c2
      subst hA
      generalize hG : strF (layS (L.take q)) = G at *
      generalize hU : strF T = U at *
      have HU := Lib.hid hU
      have hz2 : G.size ≤ 100000 := by omega
      have hz3 : U.size ≤ 100000 := by omega
      clear hc hP hbx hG hU hz1
      by_cases ek : E = 0
      · subst ek
        have HOK : Hid (layOk (L.take (q + 1))) := Lib.hid (by
          rw [HT.out]
          intro p hp
          rcases List.mem_append.1 hp with h | h
          · exact hok.out p h
          · rw [List.mem_singleton.1 h])
        have hg2 : G ++ U = strF (layS (L.take (q + 1))) := HN.out
        have HG2 := Lib.hid hg2
        clear hg2
        go_wp2_with fail
        go_roundw
        case rel => exact ⟨q + 1, by rw [HG2.out], by go_num, by omega, HOK, HBN.out _⟩
        case measure => simp [intOf]; omega
      · have d3 : ((E : Int) != 0) = true := bne_iff_ne.2 (by omega)
        have HF : Hid (∀ w', Below w.heap.size w w' → PO (.returned (.tuple #[.string (strF []), .bool false])) w') := Lib.hid fun w' h => HP.out [] false w' (by
          unfold layA
          rw [if_neg fun h => ek (h _ HG.out)]) h
        clear ek
        go_wp2_with fail
        exact HF.out _ (HBN.out _)
    · obtain rfl : q = n := by omega
      have d2 : decide ((q : Int) < (q : Int)) = false := decide_eq_false (by omega)
      have HF := Lib.hid (HP.out _ true wr (HYES.out hok.out) hbx)
      clear hbx
      go_wp2_with fail
      exact HF.out
end Go.Proofs.YtiihkjloenlfmaaDoor
