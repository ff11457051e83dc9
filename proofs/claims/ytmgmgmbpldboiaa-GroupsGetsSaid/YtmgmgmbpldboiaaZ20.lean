/- Ac: texts laid together, what is not used left out. -/
import Derived.Test.YtmgmgmbpldboiaaZ03
import Derived.Lib.SliceRun
namespace Go.Proofs.Ytmgmgmbpldboiaa
open Go.RowKit

/-- A row of the call's own of n numbers. -/
def NewRow (w : World) (n : Nat) (f : Nat → Nat) (e : Ending) (w' : World) : Prop :=
  ∃ g c, e = .returned (.slice (some ⟨g, 0, none⟩) n c) ∧ FRow w' w.heap.size g c n f ∧ Below w.heap.size w w'

set_option maxHeartbeats 1600000 in
set_option maxRecDepth 100000 in
theorem clone_any (w : World) (A : Option Addr) (n c : Nat) (L : List Int) (hL : ZIn w A n L) (hv : ∀ x ∈ L, 0 ≤ x) (h1 : 1 ≤ n) (hn : n ≤ 1000000) :
    Calls Try.prog 35 #[.slice A n c] w (NewRow w n fun j => (L.getD j 0).toNat) := by
  have hln := hL.1
  obtain ⟨b, off, rfl, _⟩ := hL.2 (by omega)
  have hin := ints_of_zin hL hv
  have hown0 : (w.alloc (.cells #[] 3)).ownsRow w.heap.size 3 1 (.slice (some ⟨w.heap.size, 0, none⟩) 0 0) 0 [] := World.ownsRow_made w #[] 0 (Nat.le_refl _) (Nat.zero_le _) rfl
  have hb0 : Below w.heap.size w (w.alloc (.cells #[] 3)) := (Below.refl _ w).alloc (Nat.le_refl _) _
  obtain ⟨v3, w3, hr3, ho3, hg3⟩ := append_ints (w.alloc (.cells #[] 3)) w.heap.size _ 0 [] hown0 (some ⟨b, off, none⟩) n c _ (ints_low hin hb0) (by omega) (by simp)
  have hb3 : Below w.heap.size w w3 := hb0.grown hg3 (by simp) (fun k hk => (hown0.lt k hk).1)
  obtain ⟨A3, cA, rfl, hc3, _, hA3⟩ := own_slice ho3
  obtain ⟨gA, rfl⟩ := hA3 (by omega)
  rw [Nat.zero_add] at ho3 hr3
  have hf3 : FRow w3 w.heap.size gA cA n (fun j => (L.getD j 0).toNat) := by
    have := ho3
    rw [List.nil_append, rowF_list, List.length_map, hln] at this
    have e : rowF n (fun j => (L.map Int.toNat).getD j 0) = rowF n (fun j => (L.getD j 0).toNat) := rowF_same n _ _ fun j hj => by
      show (L.map Int.toNat).getD j 0 = (L.getD j 0).toNat
      rw [List.getD_eq_getElem?_getD, List.getD_eq_getElem?_getD, List.getElem?_map, List.getElem?_eq_getElem (by omega)]
      rfl
    rw [e] at this
    exact this
  have q4 : ∀ w1 : World, (binOp .eql 30 (.slice (some ⟨b, off, none⟩) n c) (.slice none 0 0)).run Try.prog w1 = .ok (.bool false) w1 := fun w1 => Lib.run_eql_slice_nil w1 _ _ (some ⟨b, off, none⟩) n c 0 0 Try.underlying30
  have F : Hid (NewRow w n (fun j => (L.getD j 0).toNat) (.returned (.slice (some ⟨gA, 0, none⟩) n cA)) w3) := Lib.hid ⟨gA, cA, rfl, hf3, hb3⟩
  have HR3 := Lib.hid hr3
  generalize NewRow w n (fun j => (L.getD j 0).toNat) = PO at *
  clear hL hln hin hown0 hb0 hr3 ho3 hg3 hb3 hA3 hc3 hf3
  go_enter Try.func35, Try.ntmps35
  go_wp2_with (at_builtin; refine Lib.wpList_append_run _ rfl (.tmp 5) (.tmp 6) 30 30 rfl (.slice (some ⟨w.heap.size, 0, none⟩) 0 0) (.slice (some ⟨b, off, none⟩) n c) rfl rfl _ w3 HR3.out ?_)
  exact F.out

set_option maxHeartbeats 1600000 in
set_option maxRecDepth 100000 in
/-- lengths.counted: each weight, 0 as 1. -/
theorem counted_any (w : World) (A : Option Addr) (n c : Nat) (L : List Int) (hL : ZIn w A n L) (hv : ∀ x ∈ L, 0 ≤ x) (h1 : 1 ≤ n) (hn : n ≤ 1000000) :
    Calls Try.prog 64 #[.slice A n c] w (NewRow w n (oneF L)) := by
  have HC := Lib.hid (clone_any w A n c L hL hv h1 hn)
  obtain ⟨f0, hf0⟩ : ∃ f0 : Nat → Nat, f0 = fun j => (L.getD j 0).toNat := ⟨_, rfl⟩
  rw [← hf0] at HC
  have HW : Hid (∀ j, oneF L j = max (f0 j) 1) := Lib.hid fun j => by rw [hf0]; rfl
  have hP : Hid (∀ g c w', FRow w' w.heap.size g c n (oneF L) → Below w.heap.size w w' → NewRow w n (oneF L) (.returned (.slice (some ⟨g, 0, none⟩) n c)) w') := Lib.hid fun g c w' h2 h3 => ⟨g, c, rfl, h2, h3⟩
  generalize NewRow w n (oneF L) = PO at *
  generalize oneF L = F1 at *
  clear hL hf0 hv
  go_enter Try.func64, Try.ntmps64
  go_wp2_with fail
  refine HC.out.mono ?_
  rintro e w3 ⟨gA, cA, rfl, hf, hb⟩
  have HF3 := Lib.hid hf
  have HB3 := Lib.hid hb
  clear hf hb HC
  go_wp2_with fail
  go_loopw [4, 5, 10] (fun s4 s5 x wx => ∃ i : Nat, i ≤ n ∧ x = .int .i64 i ∧ FRow wx w.heap.size gA cA n (fun j => if j < i then F1 j else f0 j) ∧ Below w.heap.size w wx) (fun _ _ x _ => n - (intOf x).toNat)
  case atStart =>
    refine ⟨0, Nat.zero_le _, rfl, ?_, HB3.out⟩
    have e0 : (fun j => if j < 0 then F1 j else f0 j) = f0 := by
      funext j
      rw [if_neg (by omega)]
    rw [e0]
    exact HF3.out
  case round =>
    obtain ⟨i, hi, rfl, hf, hb⟩ := hrel
    by_cases e : i < n
    · have di : decide ((i : Int) < (n : Int)) = true := decide_eq_true (by omega)
      have hiI : (0 : Int) ≤ (i : Int) := by omega
      have ci := hf.cell i e
      have fi := hf.frozen i
      rw [if_neg (by omega)] at ci
      have hg := hf.lt
      obtain ⟨x, hx⟩ : ∃ x, x = f0 i := ⟨_, rfl⟩
      rw [← hx] at ci
      have hfn : ∀ m : Nat, m = max x 1 → (fun j => if j = i then m else if j < i then F1 j else f0 j) = fun j => if j < i + 1 then F1 j else f0 j := by
        intro m hm
        funext j
        by_cases ej : j = i
        · rw [if_pos ej, if_pos (by omega), ej, hm, HW.out, hx]
        · rw [if_neg ej]
          by_cases ej2 : j < i
          · rw [if_pos ej2, if_pos (by omega)]
          · rw [if_neg ej2, if_neg (by omega)]
      have HFN := Lib.hid hfn
      have HF := Lib.hid hf
      have HB := Lib.hid hb
      have hgb : w.heap.size ≤ gA := hg.1
      clear hf hb hfn hx hg
      by_cases h0 : 1 < x
      · have hs := HF.out.set i x
        rw [HFN.out x (by omega)] at hs
        have HS := Lib.hid hs
        have HBS := Lib.hid (HB.out.setCell (p := ⟨gA, i, none⟩) hgb (.int .i64 (x : Int)))
        have dx : decide ((1 : Int) < (x : Int)) = true := decide_eq_true (by omega)
        have hx1 : (1 : Int) < (x : Int) := by omega
        clear hs
        go_wp2_with fail
        go_roundw
        case rel => exact ⟨i + 1, by omega, by go_num, HS.out, HBS.out⟩
        case measure => simp [intOf]; omega
      · have hs := HF.out.set i 1
        rw [HFN.out 1 (by omega)] at hs
        have HS := Lib.hid hs
        have HBS := Lib.hid (HB.out.setCell (p := ⟨gA, i, none⟩) hgb (.int .i64 ((1 : Nat) : Int)))
        have dx : decide ((1 : Int) < (x : Int)) = false := decide_eq_false (by omega)
        have hx1 : ¬ (1 : Int) < (x : Int) := by omega
        clear hs
        go_wp2_with fail
        go_roundw
        case rel => exact ⟨i + 1, by omega, by go_num, HS.out, HBS.out⟩
        case measure => simp [intOf]; omega
    · obtain rfl : i = n := by omega
      have di : decide ((i : Int) < (i : Int)) = false := decide_eq_false (by omega)
      have h3 : wr.ownsRow w.heap.size 3 1 (.slice (some ⟨gA, 0, none⟩) i cA) i (rowF i fun j => if j < i then F1 j else f0 j) := hf
      rw [rowF_same i _ F1 fun j hj => if_pos hj] at h3
      have HPE := Lib.hid (hP.out gA cA wr h3 hb)
      clear hf hb h3 hP HF3 HB3
      go_wp2_with fail
      exact HPE.out

end Go.Proofs.Ytmgmgmbpldboiaa
