/- What is asked of pax's functions (PaxDone); the answers that the document fixes; PaxLasts walked. Written ahead of stage 17. -/
import Derived.Test.YtccfjabmmecbkaaDoorPxc
import Derived.Test.YtccfjabmmecbkaaDoorTab
namespace Go.Proofs.YtccfjabmmecbkaaDoor
open Go.RowKit

def pencA (l : List PairL) : List UInt8 × Nat := if keysK l then (flatP l, 0) else ([], 170)
/-- Decode's answer: the pairs whose text it is, or none. -/
def DecPost (w : World) (t : ByteArray) (e : Ending) (w' : World) : Prop :=
  (∃ A n c L, e = .returned (.tuple #[.slice A n c, .int .i64 0]) ∧ t.size ≤ 262144 ∧ keysK (L.map toL) ∧ flatP (L.map toL) = t.data.toList ∧ n ≤ c ∧ c ≤ maxLen ∧ PIn w' A n L ∧ Below w.heap.size w w') ∨
  ∃ A c, e = .returned (.tuple #[.slice A 0 c, .int .i64 (if 262144 < t.size then 3 else 170 : Nat)]) ∧ c ≤ maxLen ∧ (∀ l, keysK l → flatP l = t.data.toList → 262144 < t.size) ∧ Below w.heap.size w w'
/-- What is asked of the code's functions. -/
structure PaxDone : Prop where
  encode : ∀ (w : World), Tabs w → ∀ (A : Option Addr) (n c : Nat) (L : List PairB), PIn w A n L → n ≤ maxLen → (flatP (L.map toL)).length ≤ 20000 → Calls Tryd.prog 10 #[.slice A n c] w fun e w' => e = .returned (.tuple #[.string (strF (pencA (L.map toL)).1), .int .i64 (pencA (L.map toL)).2]) ∧ Below w.heap.size w w'
  decode : ∀ (w : World), Tabs w → ∀ (t : ByteArray), t.size ≤ maxLen → Calls Tryd.prog 11 #[.string t] w (DecPost w t)
  last : ∀ (w : World) (A : Option Addr) (n c : Nat) (L : List PairB) (k : ByteArray), PIn w A n L → n ≤ maxLen → Calls Tryd.prog 6 #[.slice A n c, .string k] w fun e w' => e = .returned (.tuple #[.string (optS (lastA k L none)), .bool (optB (lastA k L none))]) ∧ Below w.heap.size w w'

def pathB : ByteArray := ⟨#[112, 97, 116, 104]⟩
def twoB : List PairB := [(pathB, ⟨#[97]⟩), (pathB, ⟨#[97, 98]⟩)]
theorem decL9 : decL 9 = [57] := by rw [decL]; rfl
theorem decL11 : decL 11 = [49, 49] := by rw [decL, if_neg (by decide), decL]; rfl
theorem rec_a : recL (toL (pathB, ⟨#[97]⟩)) = [57, 32, 112, 97, 116, 104, 61, 97, 10] := by
  rw [recL, show recN (toL (pathB, ⟨#[97]⟩)) = 9 from rfl, decL9]
  rfl
theorem rec_ab : recL (toL (pathB, ⟨#[97, 98]⟩)) = [49, 49, 32, 112, 97, 116, 104, 61, 97, 98, 10] := by
  rw [recL, show recN (toL (pathB, ⟨#[97, 98]⟩)) = 11 from rfl, decL11]
  rfl
theorem flat_two : flatP (twoB.map toL) = [57, 32, 112, 97, 116, 104, 61, 97, 10, 49, 49, 32, 112, 97, 116, 104, 61, 97, 98, 10] := by
  show recL (toL (pathB, ⟨#[97]⟩)) ++ (recL (toL (pathB, ⟨#[97, 98]⟩)) ++ []) = _
  rw [rec_a, rec_ab]
  rfl
set_option maxRecDepth 100000 in
theorem keys_two : keysK (twoB.map toL) := by
  intro p hp
  have hk : keyK pathB.data.toList := by decide
  rcases List.mem_cons.1 (show p ∈ [toL (pathB, ⟨#[97]⟩), toL (pathB, ⟨#[97, 98]⟩)] from hp) with h | h
  · rw [h]; exact hk
  · rw [List.mem_singleton.1 h]; exact hk
theorem toL_inj : ∀ (l m : List PairB), l.map toL = m.map toL → l = m
  | [], [], _ => rfl
  | [], _ :: _, h => by cases h
  | _ :: _, [], h => by cases h
  | p :: l, q :: m, h => by
    rw [List.map_cons, List.map_cons] at h
    obtain ⟨h1, h2⟩ := List.cons.inj h
    have e1 : p.1.data.toList = q.1.data.toList := congrArg Prod.fst h1
    have e2 : p.2.data.toList = q.2.data.toList := congrArg Prod.snd h1
    rw [toL_inj l m h2, show p = q from Prod.ext (ByteArray.ext (Array.toList_inj.1 e1)) (ByteArray.ext (Array.toList_inj.1 e2))]
/-- The pairs of a text are one list. -/
theorem pairs_one {L M : List PairB} (hL : keysK (L.map toL)) (hM : keysK (M.map toL)) (h : flatP (L.map toL) = flatP (M.map toL)) (hs : (flatP (L.map toL)).length ≤ 999990) : L = M :=
  toL_inj L M (flat_inj _ _ hL hM (short_of_flat _ hs) (short_of_flat _ (by rw [← h]; exact hs)) h)
theorem not_nine (l : List PairL) (hk : keysK l) : flatP l ≠ [57, 32, 112, 97, 116, 104, 61, 97, 98, 10] := by
  intro h
  have hs := short_of_flat l (by rw [h]; decide)
  cases l with
  | nil => cases h
  | cons p l =>
    have h1 := read_rec p (flatP l) (hk p List.mem_cons_self) (hs p List.mem_cons_self)
    rw [show recL p ++ flatP l = [57, 32, 112, 97, 116, 104, 61, 97, 98, 10] from h] at h1
    have e1 : readR [57, 32, 112, 97, 116, 104, 61, 97, 98, 10] = (([112, 97, 116, 104], [97]), [10]) := by decide +kernel
    rw [e1] at h1
    have e2 : ([112, 97, 116, 104], [97]) = p := congrArg Prod.fst h1
    have e3 : [10] = flatP l := congrArg Prod.snd h1
    have h2 : recL p ++ flatP l = [57, 32, 112, 97, 116, 104, 61, 97, 98, 10] := h
    rw [← e2, show recL ([112, 97, 116, 104], [97]) = [57, 32, 112, 97, 116, 104, 61, 97, 10] from rec_a, ← e3] at h2
    exact absurd h2 (by decide)

set_option maxRecDepth 100000 in
theorem two_in (w : World) : PIn (w.alloc (.cells #[.string ⟨#[112, 97, 116, 104]⟩, .string ⟨#[97]⟩, .string ⟨#[112, 97, 116, 104]⟩, .string ⟨#[97, 98]⟩] 36)) (some ⟨w.heap.size, 0, none⟩) 2 twoB := by
  refine ⟨rfl, fun _ => ⟨w.heap.size, 0, rfl, fun i hi => ?_⟩⟩
  have hc : ∀ j, (w.alloc (.cells #[.string ⟨#[112, 97, 116, 104]⟩, .string ⟨#[97]⟩, .string ⟨#[112, 97, 116, 104]⟩, .string ⟨#[97, 98]⟩] 36)).cell? ⟨w.heap.size, j, none⟩ = (#[Value.string ⟨#[112, 97, 116, 104]⟩, .string ⟨#[97]⟩, .string ⟨#[112, 97, 116, 104]⟩, .string ⟨#[97, 98]⟩] : Array Value)[j]? := fun j => by
    rw [World.cell?_alloc_new]
  rcases (show i = 0 ∨ i = 1 by omega) with rfl | rfl
  · exact ⟨hc 0, hc 1⟩
  · exact ⟨hc 2, hc 3⟩

section
variable (R : PaxDone)
include R
set_option maxHeartbeats 3200000 in
set_option maxRecDepth 100000 in
theorem awake_pax (w : World) (hT : Tabs w) : Calls Tryd.prog 8 #[] w fun e w' => e = .returned (.bool true) ∧ Below w.heap.size w w' := by
  have HTB : Hid (∀ wx : World, Below w.heap.size w wx → Tabs wx) := Lib.hid fun wx hb => hT.below hb
  have CE : Hid (∀ (wx : World) (A : Option Addr), Tabs wx → PIn wx A 2 twoB → Calls Tryd.prog 10 #[.slice A 2 2] wx fun e w' => e = .returned (.tuple #[.string ⟨#[57, 32, 112, 97, 116, 104, 61, 97, 10, 49, 49, 32, 112, 97, 116, 104, 61, 97, 98, 10]⟩, .int .i64 0]) ∧ Below wx.heap.size wx w') := Lib.hid fun wx A ht h => by
    have h := R.encode wx ht A 2 2 twoB h (by decide) (by rw [flat_two]; decide)
    rw [pencA, if_pos keys_two, flat_two] at h
    exact h
  have CD : Hid (∀ wx : World, Tabs wx → Calls Tryd.prog 11 #[.string ⟨#[57, 32, 112, 97, 116, 104, 61, 97, 10, 49, 49, 32, 112, 97, 116, 104, 61, 97, 98, 10]⟩] wx fun e w' => ∃ A c, e = .returned (.tuple #[.slice A 2 c, .int .i64 0]) ∧ 2 ≤ c ∧ c ≤ maxLen ∧ PIn w' A 2 twoB ∧ Below wx.heap.size wx w') := Lib.hid fun wx ht => by
    refine (R.decode wx ht _ (by decide)).mono ?_
    rintro e w' (⟨A, n, c, L, he, _, hk, hf, hnc, hc, hI, hb⟩ | ⟨A, c, _, _, hno, _⟩)
    · have hf2 : flatP (L.map toL) = flatP (twoB.map toL) := by rw [hf, flat_two]
      have hL := pairs_one hk keys_two hf2 (by rw [hf2, flat_two]; decide)
      subst hL
      have hn : n = 2 := hI.1.symm
      subst hn
      exact ⟨A, c, he, hnc, hc, hI, hb⟩
    · exact absurd (hno _ keys_two flat_two) (by decide)
  have CN : Hid (∀ wx : World, Tabs wx → Calls Tryd.prog 11 #[.string ⟨#[57, 32, 112, 97, 116, 104, 61, 97, 98, 10]⟩] wx fun e w' => ∃ A c, e = .returned (.tuple #[.slice A 0 c, .int .i64 170]) ∧ Below wx.heap.size wx w') := Lib.hid fun wx ht => by
    refine (R.decode wx ht _ (by decide)).mono ?_
    rintro e w' (⟨A, n, c, L, he, _, hk, hf, _⟩ | ⟨A, c, he, _, _, hb⟩)
    · exact absurd hf (not_nine _ hk)
    · exact ⟨A, c, he, hb⟩
  have CL : Hid (∀ (wx : World) (A : Option Addr) (c : Nat), PIn wx A 2 twoB → Calls Tryd.prog 6 #[.slice A 2 c, .string ⟨#[112, 97, 116, 104]⟩] wx fun e w' => e = .returned (.tuple #[.string ⟨#[97, 98]⟩, .bool true]) ∧ Below wx.heap.size wx w') := Lib.hid fun wx A c h => by
    have h := R.last wx A 2 c twoB ⟨#[112, 97, 116, 104]⟩ h (by decide)
    exact h
  clear R hT
  go_enter Tryd.func8, Tryd.ntmps8
  go_wp2_with fail
  refine (CE.out _ _ (HTB.out _ ((Below.refl w.heap.size w).alloc (Nat.le_refl _) _)) (two_in w)).mono ?_
  rintro e w1 ⟨rfl, hb1⟩
  have HB1 := Lib.hid (((Below.refl w.heap.size w).alloc (Nat.le_refl _) _).trans (hb1.mono (by simp)))
  clear hb1
  go_wp2_with fail
  refine (CD.out w1 (HTB.out _ HB1.out)).mono ?_
  rintro e w2 ⟨A, c, rfl, hc2, hcm, hI, hb2⟩
  have HI := Lib.hid hI
  have HB2 := Lib.hid (HB1.out.trans (hb2.mono HB1.out.size))
  clear hI hb2
  unfold maxLen at hcm
  go_wp2_with fail
  refine (CN.out w2 (HTB.out _ HB2.out)).mono ?_
  rintro e w3 ⟨A3, c3, rfl, hb3⟩
  have HI3 := Lib.hid (HI.out.below hb3)
  have HB3 := Lib.hid (HB2.out.trans (hb3.mono HB2.out.size))
  clear hb3
  go_wp2_with fail
  refine (CL.out w3 A c HI3.out).mono ?_
  rintro e w4 ⟨rfl, hb4⟩
  have HB4 := Lib.hid (HB3.out.trans (hb4.mono HB3.out.size))
  clear hb4
  go_wp2_with fail
  go_ret
  exact ⟨rfl, HB4.out⟩
set_option maxHeartbeats 3200000 in
set_option maxRecDepth 100000 in
theorem lasts_law (w : World) (hT : Tabs w) (A : Option Addr) (n c : Nat) (L : List PairB) (k : ByteArray) (hI : PIn w A n L) (hn : n ≤ maxLen) : Calls Tryd.prog 3 #[.slice A n c, .string k] w fun e w' => e = .returned (.bool true) ∧ Below w.heap.size w w' := by
  have HTB : Hid (∀ wx : World, Below w.heap.size w wx → Tabs wx) := Lib.hid fun wx hb => hT.below hb
  have HAW := Lib.hid (awake_pax R)
  have CC : Hid (∀ wx : World, PIn wx A n L → Calls Tryd.prog 6 #[.slice A n c, .string k] wx fun e w' => e = .returned (.tuple #[.string (optS (lastA k L none)), .bool (optB (lastA k L none))]) ∧ Below wx.heap.size wx w') := Lib.hid fun wx h => R.last wx A n c L k h hn
  have CR : Hid (∀ wx : World, PIn wx A n L → Calls Tryd.prog 7 #[.slice A n c, .string k] wx fun e w' => e = .returned (.tuple #[.string (optS (lastA k L none)), .bool (optB (lastA k L none))]) ∧ Below wx.heap.size wx w') := Lib.hid fun wx h => rlast_any wx A n c L k h hn
  generalize optS (lastA k L none) = V at *
  have HI := Lib.hid hI
  have hV : (V.toList == V.toList) = true := beq_self_eq_true _
  cases hB : optB (lastA k L none) with
  | true =>
    rw [hB] at CC CR
    clear R hT hI hB
    go_enter Tryd.func3, Tryd.ntmps3
    go_wp2_with fail
    refine (CC.out w HI.out).mono ?_
    rintro e w1 ⟨rfl, hb1⟩
    have HB1 := Lib.hid hb1
    clear hb1
    go_wp2_with fail
    refine (CR.out w1 (HI.out.below HB1.out)).mono ?_
    rintro e w2 ⟨rfl, hb2⟩
    have HB2 := Lib.hid (HB1.out.trans (hb2.mono HB1.out.size))
    clear hb2
    go_wp2_with fail
    refine (HAW.out w2 (HTB.out _ HB2.out)).mono ?_
    rintro e w3 ⟨rfl, hb3⟩
    have HB3 := Lib.hid (HB2.out.trans (hb3.mono HB2.out.size))
    clear hb3
    go_wp2_with fail
    go_ret
    exact ⟨rfl, HB3.out⟩
  | false =>
    rw [hB] at CC CR
    clear R hT hI hB
    go_enter Tryd.func3, Tryd.ntmps3
    go_wp2_with fail
    refine (CC.out w HI.out).mono ?_
    rintro e w1 ⟨rfl, hb1⟩
    have HB1 := Lib.hid hb1
    clear hb1
    go_wp2_with fail
    refine (CR.out w1 (HI.out.below HB1.out)).mono ?_
    rintro e w2 ⟨rfl, hb2⟩
    have HB2 := Lib.hid (HB1.out.trans (hb2.mono HB1.out.size))
    clear hb2
    go_wp2_with fail
    refine (HAW.out w2 (HTB.out _ HB2.out)).mono ?_
    rintro e w3 ⟨rfl, hb3⟩
    have HB3 := Lib.hid (HB2.out.trans (hb3.mono HB2.out.size))
    clear hb3
    go_wp2_with fail
    go_ret
    exact ⟨rfl, HB3.out⟩
end
end Go.Proofs.YtccfjabmmecbkaaDoor
