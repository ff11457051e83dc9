/- Grs Og Xi Grt: texts laid together, what is not used left out. -/
import Derived.Test.YtmgmgmbpldboiaaGreatZ38
import Derived.Test.YtmgmgmbpldboiaaGreatZ16
import Derived.Test.YtmgmgmbpldboiaaGreatZ35
import Derived.Test.YtmgmgmbpldboiaaGreatZ12
import Derived.Test.YtmgmgmbpldboiaaGreatZ00
import Derived.Test.YtmgmgmbpldboiaaGreatZ14
import Derived.Test.YtmgmgmbpldboiaaGreatZ36
import Derived.Test.YtmgmgmbpldboiaaGreatZ28
import Derived.Deep.CutBlock
namespace Go.Proofs.YtmgmgmbpldboiaaGreat
open Go.RowKit

set_option maxHeartbeats 3200000 in
set_option maxRecDepth 100000 in
theorem cput_few (w : World) (v : Value) (T : List (List Int)) (P : List Int) (h : PlanIn w v T P) (A' : Option Addr) (n' c' : Nat) (L : List Int) (hL : L.length = n') (hn' : n' ≤ 2000000) (hP : MayPlan T P) (hM : ¬ FitG T P L) :
    Calls Tryz.prog 22 #[v, .slice A' n' c'] w (BitsPost w (codesG T P L)) := by
  rw [show codesG T P L = ([], 110) from if_neg hM]
  obtain ⟨A, q, c, B, m, d, rfl, _, _, _, hPP, _, hmm⟩ := id h
  have hPm := hPP.1
  have hb1 : Below w.heap.size w (w.alloc (.cells #[.slice A q c, .slice B m d] 26)) := (Below.refl _ _).alloc (Nat.le_refl _) _
  have hk1 := blk_new w 26 #[.slice A q c, .slice B m d]
  obtain ⟨w1, hw1⟩ : ∃ w1, w1 = w.alloc (.cells #[.slice A q c, .slice B m d] 26) := ⟨_, rfl⟩
  have hz1 : w1.heap.size = w.heap.size + 1 := by rw [hw1]; simp
  rw [← hw1] at hb1 hk1
  have hb2 : Below w1.heap.size w1 (w1.alloc (.cells #[.string ⟨#[]⟩, .int .i64 0] 43)) := (Below.refl _ _).alloc (Nat.le_refl _) _
  have hk2 := (step_of_below hb2).blk hk1 List.not_mem_nil List.not_mem_nil
  have hr2 := blk_new w1 43 #[.string ⟨#[]⟩, .int .i64 0]
  rw [hz1] at hr2
  have hb12 := hb1.trans (hb2.mono hb1.size)
  have HW1 := Lib.hid hw1.symm
  have HM2 : Hid (∀ w2, w2 = w1.alloc (.cells #[.string ⟨#[]⟩, .int .i64 0] 43) → Calls Tryz.prog 58 #[.agg #[.slice A q c, .slice B m d]] w2.drew fun e w' => e = .returned (.bool true) ∧ Below w2.heap.size w2.drew w') := Lib.hid fun w2 e2 => by
    have h3 := cmay_any w2.drew _ T P (h.below (by rw [e2]; exact hb12.drew))
    rw [decide_eq_true hP] at h3
    exact h3
  have HGR := Lib.hid fun (wx : World) => cgroups_any wx n' (by omega)
  have hM2 : ¬ (MayPlan T P ∧ groupsN n' ≤ m) := by rw [← hL, ← hPm]; exact hM
  obtain ⟨z, hz⟩ : ∃ z, z = groupsN n' := ⟨_, rfl⟩
  have hzb : z ≤ 50000 := by rw [hz]; unfold groupsN; omega
  rw [← hz] at hM2 HGR
  unfold maxLen at hmm
  have d0 : decide ((m : Int) < (z : Int)) = true := decide_eq_true (by have : ¬ z ≤ m := fun k => hM2 ⟨hP, k⟩; omega)
  have hmz : m < z := by have : ¬ z ≤ m := fun k => hM2 ⟨hP, k⟩; omega
  have HK2 := Lib.hid hk2
  have HR2 := Lib.hid hr2
  have HB2 := Lib.hid hb12
  clear h hM hb1 hk1 hb2 hk2 hr2 hb12 hz1 hw1 hM2 hP hz hL hPm hPP
  go_enter Tryz.func22, Tryz.ntmps22
  go_upto_region 1 with fail
  rw [HW1.out]
  have HM := Lib.hid (HM2.out _ rfl)
  generalize w1.alloc (.cells #[.string ⟨#[]⟩, .int .i64 0] 43) = w2 at *
  clear HW1 HM2
  have p0 : w2.cell? ⟨w.heap.size, 0, none⟩ = some (.slice A q c) := (blk_cell HK2.out 0).trans rfl
  have p1 : w2.cell? ⟨w.heap.size, 1, none⟩ = some (.slice B m d) := (blk_cell HK2.out 1).trans rfl
  have hlt : w.heap.size < w2.heap.size := blk_lt HK2.out
  have hlt2 : w.heap.size + 1 < w2.heap.size := blk_lt HR2.out
  go_region_held3 (fun w' => w'.cell? ⟨w.heap.size, 0, none⟩ = some (.slice A q c) ∧ w'.cell? ⟨w.heap.size, 1, none⟩ = some (.slice B m d))
    (first | exact ⟨p0, p1⟩ | exact ⟨s0, s1⟩ | go_keep)
    (first
      | (go_at_call 58; refine HM.out.mono ?_; rintro e w3 ⟨rfl, hb3⟩
         have s0 : w3.cell? ⟨w.heap.size, 0, none⟩ = some (.slice A q c) := (hb3.cell (p := ⟨w.heap.size, 0, none⟩) hlt).trans p0
         have s1 : w3.cell? ⟨w.heap.size, 1, none⟩ = some (.slice B m d) := (hb3.cell (p := ⟨w.heap.size, 1, none⟩) hlt).trans p1)
      | (go_at_call 46; refine (HGR.out _).mono ?_; rintro e w4 ⟨rfl, rfl⟩))
  have hr3 : Blk w3 (w.heap.size + 1) 43 #[.string ⟨#[]⟩, .int .i64 0] := (hb3.block (w.heap.size + 1) hlt2).trans HR2.out
  have g0 := (blk_cell hr3 0).trans (rfl : _ = some (Value.string ⟨#[]⟩))
  have g1 := (blk_cell hr3 1).trans (rfl : _ = some (Value.int .i64 0))
  have f0 := blk_frozen hr3 0
  have f1 := blk_frozen hr3 1
  have HB3 := Lib.hid (HB2.out.drew.trans (hb3.mono (Nat.le_of_lt hlt)))
  clear hb3 hr3
  go_wp2_with fail
  refine bodyPost_ret (v := .tuple #[.agg #[.string ⟨#[]⟩, .int .i64 0], .int .i64 110]) ?_ rfl ⟨rfl, (HB3.out.setCell (p := ⟨w.heap.size + 1, 0, none⟩) (Nat.le_succ _) _).setCell (p := ⟨w.heap.size + 1, 1, none⟩) (Nat.le_succ _) _⟩
  simp [results, Tryz.results22, go_sem, g0, g1]

set_option maxHeartbeats 3200000 in
set_option maxRecDepth 100000 in
theorem cput_bad (w : World) (v : Value) (T : List (List Int)) (P : List Int) (h : PlanIn w v T P) (A' : Option Addr) (n' c' : Nat) (L : List Int) (hP : ¬ MayPlan T P) :
    Calls Tryz.prog 22 #[v, .slice A' n' c'] w (BitsPost w (codesG T P L)) := by
  rw [show codesG T P L = ([], 110) from if_neg (fun k => hP k.1)]
  obtain ⟨A, q, c, B, m, d, rfl, _⟩ := id h
  have hb1 : Below w.heap.size w (w.alloc (.cells #[.slice A q c, .slice B m d] 26)) := (Below.refl _ _).alloc (Nat.le_refl _) _
  have hk1 := blk_new w 26 #[.slice A q c, .slice B m d]
  obtain ⟨w1, hw1⟩ : ∃ w1, w1 = w.alloc (.cells #[.slice A q c, .slice B m d] 26) := ⟨_, rfl⟩
  have hz1 : w1.heap.size = w.heap.size + 1 := by rw [hw1]; simp
  rw [← hw1] at hb1 hk1
  have hb2 : Below w1.heap.size w1 (w1.alloc (.cells #[.string ⟨#[]⟩, .int .i64 0] 43)) := (Below.refl _ _).alloc (Nat.le_refl _) _
  have hk2 := (step_of_below hb2).blk hk1 List.not_mem_nil List.not_mem_nil
  have hr2 := blk_new w1 43 #[.string ⟨#[]⟩, .int .i64 0]
  rw [hz1] at hr2
  have hb12 := hb1.trans (hb2.mono hb1.size)
  have HW1 := Lib.hid hw1.symm
  have HM2 : Hid (∀ w2, w2 = w1.alloc (.cells #[.string ⟨#[]⟩, .int .i64 0] 43) → Calls Tryz.prog 58 #[.agg #[.slice A q c, .slice B m d]] w2.drew fun e w' => e = .returned (.bool false) ∧ Below w2.heap.size w2.drew w') := Lib.hid fun w2 e2 => by
    have h3 := cmay_any w2.drew _ T P (h.below (by rw [e2]; exact hb12.drew))
    rw [decide_eq_false hP] at h3
    exact h3
  have HK2 := Lib.hid hk2
  have HR2 := Lib.hid hr2
  have HB2 := Lib.hid hb12
  clear h hb1 hk1 hb2 hk2 hr2 hb12 hz1 hw1 hP
  go_enter Tryz.func22, Tryz.ntmps22
  go_upto_region 1 with fail
  rw [HW1.out]
  have HM := Lib.hid (HM2.out _ rfl)
  generalize w1.alloc (.cells #[.string ⟨#[]⟩, .int .i64 0] 43) = w2 at *
  clear HW1 HM2
  have q0 : w2.cell? ⟨w.heap.size, 0, none⟩ = some (.slice A q c) := (blk_cell HK2.out 0).trans rfl
  have q1 : w2.cell? ⟨w.heap.size, 1, none⟩ = some (.slice B m d) := (blk_cell HK2.out 1).trans rfl
  have hlt : w.heap.size < w2.heap.size := blk_lt HK2.out
  have hlt2 : w.heap.size + 1 < w2.heap.size := blk_lt HR2.out
  refine wp_region_held_drew (S := fun w' => w'.cell? ⟨w.heap.size, 0, none⟩ = some (.slice A q c) ∧ w'.cell? ⟨w.heap.size, 1, none⟩ = some (.slice B m d)) (by kernel_rfl) ⟨q0, q1⟩ (fun hHeld => ?_)
  refine wpAnyH_take (i := 0) (v := .agg #[.slice A q c, .slice B m d]) rfl (by kernel_rfl) (by kernel_rfl) (by kernel_rfl) (fun _ _ _ h => h) (Or.inl ⟨by rfl, ?hy⟩) (by assumption) ?_
  case hy =>
    intro w hSw
    (try dsimp only at hSw)
    obtain ⟨s0, s1⟩ := hSw
    go_simp
  (try simp only [List.getElem_toArray, List.getElem_cons_zero, Act.put, List.setIfInBounds_toArray, List.set_cons_zero, List.set_cons_succ])
  refine wpAnyH_ready (rs := [1]) (by kernel_rfl) (by simp) (AllReadyH.cons rfl (fun K hK => ?_) AllReadyH.nil)
  go_simp
  go_at_call 58
  refine HM.out.mono ?_
  rintro e w3 ⟨rfl, hb3⟩
  have p0 : w3.cell? ⟨w.heap.size, 0, none⟩ = some (.slice A q c) := (hb3.cell (p := ⟨w.heap.size, 0, none⟩) hlt).trans q0
  have p1 : w3.cell? ⟨w.heap.size, 1, none⟩ = some (.slice B m d) := (hb3.cell (p := ⟨w.heap.size, 1, none⟩) hlt).trans q1
  have hr3 : Blk w3 (w.heap.size + 1) 43 #[.string ⟨#[]⟩, .int .i64 0] := (hb3.block (w.heap.size + 1) hlt2).trans HR2.out
  have HB3 := Lib.hid (HB2.out.drew.trans (hb3.mono (Nat.le_of_lt hlt)))
  have HR3 := Lib.hid hr3
  dsimp only
  refine hK.out _ _ ⟨p0, p1⟩ (fun hHeld2 => ?_)
  clear hK K hb3 HM hHeld hr3
  (try simp only [List.getElem_toArray, List.getElem_cons_succ, List.getElem_cons_zero, Act.put, List.setIfInBounds_toArray, List.set_cons_zero, List.set_cons_succ])
  refine wpAnyH_take (i := 2) (v := .bool true) rfl (by kernel_rfl) (by kernel_rfl) (by kernel_rfl) (fun _ _ _ h => h) (Or.inl ⟨by rfl, fun w _ => by go_simp⟩) (by assumption) ?_
  (try simp only [List.getElem_toArray, List.getElem_cons_succ, List.getElem_cons_zero, Act.put, List.setIfInBounds_toArray, List.set_cons_zero, List.set_cons_succ])
  refine wpAnyH_take (i := 3) (v := .bool true) rfl (by kernel_rfl) (by kernel_rfl) (by kernel_rfl) (fun _ _ _ h => h) (Or.inl ⟨by rfl, fun w _ => by go_simp⟩) (by assumption) ?_
  (try simp only [List.getElem_toArray, List.getElem_cons_succ, List.getElem_cons_zero, Act.put, List.setIfInBounds_toArray, List.set_cons_zero, List.set_cons_succ])
  refine wpAnyH_take (i := 4) (v := undef) rfl (by kernel_rfl) (by kernel_rfl) (by kernel_rfl) (fun _ _ _ h => h) (Or.inr ⟨by rfl, rfl⟩) (by assumption) ?_
  (try simp only [List.getElem_toArray, List.getElem_cons_succ, List.getElem_cons_zero, Act.put, List.setIfInBounds_toArray, List.set_cons_zero, List.set_cons_succ])
  refine wpAnyH_take (i := 5) (v := undef) rfl (by kernel_rfl) (by kernel_rfl) (by kernel_rfl) (fun _ _ _ h => h) (Or.inr ⟨by rfl, rfl⟩) (by assumption) ?_
  (try simp only [List.getElem_toArray, List.getElem_cons_succ, List.getElem_cons_zero, Act.put, List.setIfInBounds_toArray, List.set_cons_zero, List.set_cons_succ])
  refine wpAnyH_take (i := 6) (v := undef) rfl (by kernel_rfl) (by kernel_rfl) (by kernel_rfl) (fun _ _ _ h => h) (Or.inr ⟨by rfl, rfl⟩) (by assumption) ?_
  (try simp only [List.getElem_toArray, List.getElem_cons_succ, List.getElem_cons_zero, Act.put, List.setIfInBounds_toArray, List.set_cons_zero, List.set_cons_succ])
  refine wpAnyH_take (i := 7) (v := undef) rfl (by kernel_rfl) (by kernel_rfl) (by kernel_rfl) (fun _ _ _ h => h) (Or.inr ⟨by rfl, rfl⟩) (by assumption) ?_
  (try simp only [List.getElem_toArray, List.getElem_cons_succ, List.getElem_cons_zero, Act.put, List.setIfInBounds_toArray, List.set_cons_zero, List.set_cons_succ])
  refine wpAnyH_take (i := 8) (v := undef) rfl (by kernel_rfl) (by kernel_rfl) (by kernel_rfl) (fun _ _ _ h => h) (Or.inr ⟨by rfl, rfl⟩) (by assumption) ?_
  (try simp only [List.getElem_toArray, List.getElem_cons_succ, List.getElem_cons_zero, Act.put, List.setIfInBounds_toArray, List.set_cons_zero, List.set_cons_succ])
  refine wpAnyH_take (i := 9) (v := undef) rfl (by kernel_rfl) (by kernel_rfl) (by kernel_rfl) (fun _ _ _ h => h) (Or.inr ⟨by rfl, rfl⟩) (by assumption) ?_
  (try simp only [List.getElem_toArray, List.getElem_cons_succ, List.getElem_cons_zero, Act.put, List.setIfInBounds_toArray, List.set_cons_zero, List.set_cons_succ])
  refine wpAnyH_take (i := 10) (v := undef) rfl (by kernel_rfl) (by kernel_rfl) (by kernel_rfl) (fun _ _ _ h => h) (Or.inr ⟨by rfl, rfl⟩) (by assumption) ?_
  (try simp only [List.getElem_toArray, List.getElem_cons_succ, List.getElem_cons_zero, Act.put, List.setIfInBounds_toArray, List.set_cons_zero, List.set_cons_succ])
  refine wpAnyH_take (i := 11) (v := .bool true) rfl (by kernel_rfl) (by kernel_rfl) (by kernel_rfl) (fun _ _ _ h => h) (Or.inl ⟨by rfl, fun w _ => by go_simp⟩) (by assumption) ?_
  (try simp only [List.getElem_toArray, List.getElem_cons_succ, List.getElem_cons_zero, Act.put, List.setIfInBounds_toArray, List.set_cons_zero, List.set_cons_succ])
  refine wpAnyH_done (by kernel_rfl) ?_ _
  have g0 := (blk_cell HR3.out 0).trans (rfl : _ = some (Value.string ⟨#[]⟩))
  have g1 := (blk_cell HR3.out 1).trans (rfl : _ = some (Value.int .i64 0))
  have f0 := blk_frozen HR3.out 0
  have f1 := blk_frozen HR3.out 1
  go_wp2_with fail
  refine bodyPost_ret (v := .tuple #[.agg #[.string ⟨#[]⟩, .int .i64 0], .int .i64 110]) ?_ rfl ⟨rfl, (HB3.out.setCell (p := ⟨w.heap.size + 1, 0, none⟩) (Nat.le_succ _) _).setCell (p := ⟨w.heap.size + 1, 1, none⟩) (Nat.le_succ _) _⟩
  simp [results, Tryz.results22, go_sem, g0, g1]

end Go.Proofs.YtmgmgmbpldboiaaGreat
namespace Go.Proofs.YtmgmgmbpldboiaaGreat
open Go.RowKit

end Go.Proofs.YtmgmgmbpldboiaaGreat
namespace Go.Proofs.YtmgmgmbpldboiaaGreat
open Go.RowKit

theorem length_same (w : World) (b off n c s x : Nat) (hs : s < n) (hx : w.cell? ⟨b, off + s, none⟩ = some (.int .i64 (x : Nat))) : Calls Tryz.prog 102 #[.slice (some ⟨b, off, none⟩) n c, .int .i64 s] w fun e w' => e = .returned (.int .i64 (x : Nat)) ∧ w' = w :=
  (length_any w b off n c s x hs hx).mono fun _ _ h => ⟨h.1, h.2.symm⟩

/-- What Encode holds as it goes. -/
def EncAt (w wx : World) (g gc p : Nat) (A : Option Addr) (n c : Nat) (l : List Nat) (v : Value) (o : List Nat) : Prop :=
  TabIs wx g A n c l ∧ FRow wx w.heap.size gc n n (codeN l) ∧ IsW w.heap.size wx p v o ∧ Blk wx w.heap.size 43 #[.string ⟨#[]⟩, .int .i64 0] ∧ Below w.heap.size w wx

set_option maxHeartbeats 1600000 in
set_option maxRecDepth 100000 in
theorem cenc_any (w : World) (A B : Option Addr) (n c m d : Nat) (L list : List Int) (hL : ZIn w A n L) (hn : n ≤ maxLen) (hB : ZIn w B m list) (hmd : m ≤ d) (hm : m ≤ 2000) : Calls Tryz.prog 59 #[.slice A n c, .slice B m d] w (BitsPost w (putAns L list)) := by
  have hz := zeroTb.1
  rw [show tb (.slice none 0 0) (fun _ => 0) (fun _ => 0) (fun _ => 0) (.slice none 0 0) = tb0 from rfl] at hz
  have HST := Lib.hid tab_stored
  have hb1 : Below w.heap.size w (w.alloc (.cells #[.string ⟨#[]⟩, .int .i64 0] 43)) := (Below.refl _ _).alloc (Nat.le_refl _) _
  have hk1 : Blk (w.alloc (.cells #[.string ⟨#[]⟩, .int .i64 0] 43)) w.heap.size 43 #[.string ⟨#[]⟩, .int .i64 0] := blk_new w 43 _
  have HK1 := Lib.hid hk1
  have HB1 := Lib.hid hb1
  have HL := Lib.hid hL
  have HLB := Lib.hid hB
  by_cases h : LenOk L
  · have HT := Lib.hid (tableOf_yes (w.alloc (.cells #[.string ⟨#[]⟩, .int .i64 0] 43)) A n c L (hL.below hb1) hn h)
    have hln := hL.1
    have hfit := fits_of h
    have hll : (nl L).length = n := by rw [nl_length, hln]
    have HF := Lib.hid hfit
    have HLL := Lib.hid hll
    have hans : putAns L list = (if ∀ x ∈ list, 0 ≤ x ∧ x < (n : Int) then (putB (nl L) list, 0) else ([], 60)) := by rw [putAns, if_pos h, hln]
    have HANS := Lib.hid hans
    have HLM := Lib.hid hB.1
    have HO := Lib.hid tb0_size
    have HK := Lib.hid h
    have HTS := Lib.hid fun (K F P : Nat → Nat) (s4 : Value) => tb_size (.slice A n c) K F P s4
    have HIS := Lib.hid tab_is
    have HCD := Lib.hid ccodes_tab
    have hsz1 : (w.alloc (.cells #[.string ⟨#[]⟩, .int .i64 0] 43)).heap.size = w.heap.size + 1 := by simp
    have HSZ1 := Lib.hid hsz1
    have HGL := Lib.hid (len_cells hL h)
    clear hL hB h hb1 hk1 hfit hll hans hln hsz1
    go_enter Tryz.func59, Tryz.ntmps59
    generalize tb0 = Z at *
    go_wp2_with fail
    refine HT.out.mono ?_
    rintro e w2 ⟨g, F, rfl, hrow, hsym, hb⟩
    have hk2 := (step_of_below hb).blk HK1.out List.not_mem_nil List.not_mem_nil
    have hbw := HB1.out.trans (hb.mono (by have := HSZ1.out; omega))
    generalize w.alloc (.cells #[.string ⟨#[]⟩, .int .i64 0] 43) = w1 at *
    obtain ⟨T9, hT9⟩ : ∃ T9, T9 = tb (.slice A n c) (cntL (nl L)) (fun k => cd (nl L) k 0) (plcL (nl L)) (.slice (some ⟨g, 0, none⟩) n n) := ⟨_, rfl⟩
    have hs9 : T9.size = 65 := by rw [hT9, HTS.out]
    have ho9 : T9.all (·.oneCell') = true := by rw [hT9]; exact tb_one _ _ _ _ _ rfl rfl
    obtain ⟨hst, hk3, hb3⟩ := HST.out w2 T9 hs9 ho9
    have hT3 := HIS.out w2 _ A n c g _ _ F T9 hT9 hk3 hb3 hrow hsym
    have hkb3 := (step_of_below hb3).blk hk2 List.not_mem_nil List.not_mem_nil
    have hB3 := hbw.trans (hb3.mono hbw.size)
    have HC := Lib.hid (HCD.out _ w2.heap.size A n c L hT3 (HL.out.below hB3) HK.out)
    have HB3 := Lib.hid hB3
    have HT3 := Lib.hid hT3
    have HKB3 := Lib.hid hkb3
    rw [← hT9]
    clear hT9 ho9 hk3 hb3 hT3 hB3 hrow hsym hb HT hk2 hbw hkb3 HK1 HB1
    go_upto_region 4 with fail
    generalize (w2.alloc (.cells Z 130)).setRow w2.heap.size T9 = w3 at *
    generalize w2.heap.size = g2 at *
    clear hst hz
    go_wp2_with fail
    refine HC.out.mono ?_
    rintro e w4 ⟨gc, rfl, hrow4, hb4⟩
    have HT4 := Lib.hid (HT3.out.below hb4)
    have HKB4 := Lib.hid ((step_of_below hb4).blk HKB3.out List.not_mem_nil List.not_mem_nil)
    have HR4 := Lib.hid (World.ownsRow.mono hrow4 HB3.out.size)
    have HB4 := Lib.hid (HB3.out.trans (hb4.mono HB3.out.size))
    clear hrow4 hb4 HT3 HKB3 HB3 HC HCD
    go_wp2_with fail
    refine (newW w4).mono ?_
    rintro e w5 ⟨rfl, hw5⟩
    have hb5 : Below w4.heap.size w4 w5 := by rw [hw5]; exact (Below.refl _ _).alloc (Nat.le_refl _) _
    have hW5 : IsW w.heap.size w5 w4.heap.size (.slice none 0 0) [] := by rw [hw5]; exact isW_new w4 _ HB4.out.size
    have hst5 := step_of_below hb5
    have HAT : Hid (EncAt w w5 g2 gc w4.heap.size A n c (nl L) (.slice none 0 0) []) := Lib.hid ⟨HT4.out.below hb5, hst5.row HR4.out (fun _ _ => List.not_mem_nil) List.not_mem_nil, hW5, hst5.blk HKB4.out List.not_mem_nil List.not_mem_nil, HB4.out.trans (hb5.mono HB4.out.size)⟩
    generalize nl L = l at *
    generalize putAns L list = ans at *
    clear hw5 hb5 hW5 hst5 HT4 HKB4 HR4 HB4
    generalize w4.heap.size = p at *
    go_wp2_with fail
    go_loopw [11, 25] (fun s11 x wx => ∃ (q : Nat) (v : Value) (o : List Nat), q ≤ m ∧ x = .int .i64 q ∧ Hid (o = putB l (list.take q)) ∧ Hid (o.length ≤ 20 * q) ∧ Hid (∀ x ∈ list.take q, 0 ≤ x ∧ x < (n : Int)) ∧ Hid (EncAt w wx g2 gc p A n c l v o)) (fun _ x _ => m - (intOf x).toNat)
    case atStart => exact ⟨0, _, [], Nat.zero_le _, rfl, Lib.hid rfl, Lib.hid (Nat.zero_le _), Lib.hid (by simp), HAT⟩
    case round =>
      obtain ⟨q, v, o, hq, rfl, ho, hol, hval, hat⟩ := hrel
      obtain ⟨hT, hR, hW, hK, hB⟩ := hat.out
      have HT := Lib.hid hT
      have HR := Lib.hid hR
      have HW := Lib.hid hW
      have HKK := Lib.hid hK
      have HB := Lib.hid hB
      clear hat hT hR hW hK hB
      by_cases e : q < m
      · have d0 : decide ((q : Int) < (m : Int)) = true := decide_eq_true (by omega)
        obtain ⟨b, off, rfl, hc⟩ := HLB.out.2 (by omega)
        have hcw := hc q e
        have htk := take_snoc_int list q (by rw [HLM.out]; exact e)
        obtain ⟨x, hx⟩ : ∃ x, x = list.getD q 0 := ⟨_, rfl⟩
        rw [← hx] at hcw htk
        have hcq := (HB.out.cell (p := ⟨b, off + q, none⟩) (World.block_lt_of_cell? w _ hcw)).trans hcw
        have HTK := Lib.hid htk
        obtain ⟨gs, F, B2, hbk, _, _⟩ := HT.out
        have q0 := (blk_cell hbk 0).trans (tb_head _ _ _ _ _)
        have HH := Lib.hid (has_any wr A n c x)
        clear hc hx hcw htk hbk
        by_cases e1 : 0 ≤ x ∧ x < n
        · rw [decide_eq_true e1] at HH
          obtain ⟨y, rfl⟩ : ∃ y : Nat, x = y := ⟨x.toNat, by omega⟩
          have hyn : y < n := by omega
          obtain ⟨ba, oa, hA, hget⟩ := HGL.out
          have hga := hget y hyn
          have hone := HF.out.one (i := y) (by rw [HLL.out]; exact hyn)
          have hcl := code_lt HF.out (i := y) (by rw [HLL.out]; exact hyn)
          have hcs := code_small HF.out (i := y) (by rw [HLL.out]; exact hyn)
          obtain ⟨k, hk⟩ : ∃ k, k = l.getD y 0 := ⟨_, rfl⟩
          obtain ⟨x1, hx1⟩ : ∃ x1, x1 = codeN l y := ⟨_, rfl⟩
          have q1 := (HR.out).cell y hyn
          rw [← hk] at hone hcl hga
          rw [← hx1] at hcl hcs q1
          have hga' := (HB.out.cell (p := ⟨ba, oa + y, none⟩) (World.block_lt_of_cell? w _ hga)).trans hga
          have wu : IntKind.u64.wrap (x1 : Int) = (x1 : Int) := by rw [IntKind.wrap_u64]; omega
          subst hA
          have HCODE : Hid (bitsN x1 k = codeB l y) := Lib.hid (by rw [hk, hx1]; rfl)
          have HW1 : Hid (IsW w.heap.size wr.drew p v o) := Lib.hid ⟨HW.out.lo, HW.out.blk, HW.out.row, HW.out.bit⟩
          have hk20 : k ≤ 20 := hone.2
          have HPUT := Lib.hid (put_ok w.heap.size wr.drew p v o x1 k HW1.out (by have := hol.out; omega) (by omega) hcl)
          have HLEN := Lib.hid (length_same wr.drew ba oa n c y k hyn hga')
          have q0d : wr.drew.cell? ⟨g2, 0, none⟩ = some (.slice (some ⟨ba, oa, none⟩) n c) := q0
          have q1d : wr.drew.cell? ⟨gc, y, none⟩ = some (.int .i64 (x1 : Nat)) := q1
          have q0e : ({ heap := wr.heap, tape := wr.tape, drawn := wr.drawn + 1, os := wr.os, output := wr.output } : World).cell? ⟨g2, 0, none⟩ = some (.slice (some ⟨ba, oa, none⟩) n c) := q0
          have q1e : ({ heap := wr.heap, tape := wr.tape, drawn := wr.drawn + 1, os := wr.os, output := wr.output } : World).cell? ⟨gc, y, none⟩ = some (.int .i64 (x1 : Nat)) := q1
          have HTD : Hid (TabIs wr.drew g2 (some ⟨ba, oa, none⟩) n c l) := HT
          have HRD : Hid (FRow wr.drew w.heap.size gc n n (codeN l)) := HR
          have HKD : Hid (Blk wr.drew w.heap.size 43 #[.string ⟨#[]⟩, .int .i64 0]) := HKK
          have HBD := Lib.hid HB.out.drew
          clear hga hga' hone hcl hk hx1 hget hcs
          go_upto_region 10 with (go_at_call 100; refine HH.out.mono ?_; rintro e w9 ⟨rfl, rfl⟩)
          go_still_tail 10, (by kernel_rfl)
          still_call (HLEN.out)
          refine wpStill_nil ?_
          change wpList _ _ _ _ _ wr.drew
          generalize wr.drew = wd at *
          clear q0d q1d q0e q1e q0 q1 HT HR HKK HB HH HLEN hcq HW
          go_wp2_with fail
          refine HPUT.out.mono ?_
          rintro e w6 ⟨rfl, v6, hW6, hS6⟩
          have hT6 := HTD.out.steps hS6 HW1.out.blk (by decide) (by decide) (by decide) (by decide)
          have hR6 := HRD.out.step hS6 HW1.out.blk (by decide) (by decide)
          have hne := apart_types HKD.out HW1.out.blk (by decide)
          have hK6 := hS6.blk HKD.out (by simpa using hne) (by decide)
          have HAT6 : Hid (EncAt w w6 g2 gc p (some ⟨ba, oa, none⟩) n c l v6 (o ++ bitsN x1 k)) := Lib.hid ⟨hT6, hR6, hW6, hK6, HBD.out.trans hS6.below⟩
          clear hT6 hR6 hne hK6 hW6 hS6 HPUT HW1 HTD HRD HKD HBD
          go_wp2_with fail
          go_roundw
          case rel =>
            refine ⟨q + 1, v6, o ++ bitsN x1 k, by omega, by go_num, Lib.hid ?_, Lib.hid ?_, Lib.hid ?_, HAT6⟩
            · rw [HTK.out, putB_snoc, ← ho.out, Int.toNat_natCast, HCODE.out]
            · have := hol.out
              rw [List.length_append, bitsN_length]
              omega
            · rw [HTK.out]
              intro x hx
              rcases List.mem_append.1 hx with hx | hx
              · exact hval.out x hx
              · rw [List.mem_singleton.1 hx]
                exact e1
          case measure => simp [intOf]; omega
        · rw [decide_eq_false e1] at HH
          have hno : ans = ([], 60) := by
            rw [HANS.out, if_neg]
            intro hall
            have : x ∈ list := by
              have h1 : x ∈ list.take (q + 1) := by rw [HTK.out]; exact List.mem_append_right _ (List.mem_singleton.2 rfl)
              exact List.mem_of_mem_take h1
            exact e1 (hall x this)
          have HNO := Lib.hid hno
          have k0 : wr.cell? ⟨w.heap.size, 0, none⟩ = some (.string ⟨#[]⟩) := blk_cell HKK.out 0
          have k1 : wr.cell? ⟨w.heap.size, 1, none⟩ = some (.int .i64 0) := blk_cell HKK.out 1
          have f0 := blk_frozen HKK.out 0
          have f1 := blk_frozen HKK.out 1
          clear hno e1 HANS
          go_wp2_with fail
          refine HH.out.mono ?_
          rintro e w9 ⟨rfl, rfl⟩
          go_wp2_with fail
          refine bodyPost_ret (v := .tuple #[.agg #[.string ⟨#[]⟩, .int .i64 0], .int .i64 60]) ?_ rfl ?_
          · simp [results, Tryz.results59, go_sem, k0, k1]
          · rw [HNO.out]
            exact ⟨rfl, (HB.out.setCell (p := ⟨w.heap.size, 0, none⟩) (Nat.le_refl _) _).setCell (p := ⟨w.heap.size, 1, none⟩) (Nat.le_refl _) _⟩
      · obtain rfl : q = m := by omega
        have d0 : decide ((q : Int) < (q : Int)) = false := decide_eq_false (by omega)
        have htl : list.take q = list := List.take_of_length_le (Nat.le_of_eq HLM.out)
        have hv := hval.out
        have ho2 := ho.out
        rw [htl] at hv ho2
        have hans2 : ans = (o, 0) := by rw [HANS.out, if_pos hv, ho2]
        have HA2 := Lib.hid hans2
        have k0 : wr.cell? ⟨w.heap.size, 0, none⟩ = some (.string ⟨#[]⟩) := blk_cell HKK.out 0
        have k1 : wr.cell? ⟨w.heap.size, 1, none⟩ = some (.int .i64 0) := blk_cell HKK.out 1
        have f0 := blk_frozen HKK.out 0
        have f1 := blk_frozen HKK.out 1
        have c0 : wr.cell? ⟨p, 0, none⟩ = some (.bool true) := blk_cell HW.out.blk 0
        have c2 : wr.cell? ⟨p, 2, none⟩ = some (.int .i64 (o.length : Nat)) := blk_cell HW.out.blk 2
        have HTX := Lib.hid (wtext_yes w.heap.size wr p v o HW.out)
        have HLN := Lib.hid (wlen_yes wr p (o.length : Nat) c0 c2)
        obtain ⟨N, hN⟩ : ∃ N, N = o.length := ⟨_, rfl⟩
        rw [← hN] at HLN
        have HN := Lib.hid hN
        clear htl hv ho2 hans2 hN c0 c2 HANS ho hval hol HT HR HW
        go_wp2_with fail
        refine HTX.out.mono ?_
        rintro e w6 ⟨rfl, rfl⟩
        go_wp2_with fail
        refine HLN.out.mono ?_
        rintro e w6 ⟨rfl, rfl⟩
        go_wp2_with fail
        refine bodyPost_ret (v := .tuple #[.agg #[.string ⟨(pack o).toArray⟩, .int .i64 N], .int .i64 0]) ?_ rfl ?_
        · simp [results, Tryz.results59, go_sem, k0, k1]
        · rw [HA2.out, HN.out]
          exact ⟨rfl, (HB.out.setCell (p := ⟨w.heap.size, 0, none⟩) (Nat.le_refl _) _).setCell (p := ⟨w.heap.size, 1, none⟩) (Nat.le_refl _) _⟩
  · have HT := Lib.hid (tableOf_no (w.alloc (.cells #[.string ⟨#[]⟩, .int .i64 0] 43)) A n c L (hL.below hb1) hn h)
    have hans : putAns L list = ([], 80) := by rw [putAns, if_neg h]
    have HANS := Lib.hid hans
    have HO := Lib.hid tb0_size
    have HONE := Lib.hid tb0_one
    have hsz1 : (w.alloc (.cells #[.string ⟨#[]⟩, .int .i64 0] 43)).heap.size = w.heap.size + 1 := by simp
    have HSZ1 := Lib.hid hsz1
    clear hL hB h hb1 hk1 hans hsz1
    go_enter Tryz.func59, Tryz.ntmps59
    generalize tb0 = Z at *
    go_wp2_with fail
    refine HT.out.mono ?_
    rintro e w2 ⟨rfl, hb⟩
    have hk2 := (step_of_below hb).blk HK1.out List.not_mem_nil List.not_mem_nil
    have hbw := HB1.out.trans (hb.mono (by have := HSZ1.out; omega))
    generalize w.alloc (.cells #[.string ⟨#[]⟩, .int .i64 0] 43) = w1 at *
    have hs9 : Z.size = 65 := HO.out
    obtain ⟨hst, hk3, hb3⟩ := HST.out w2 Z hs9 HONE.out
    have hkb3 := (step_of_below hb3).blk hk2 List.not_mem_nil List.not_mem_nil
    have HB3 := Lib.hid (hbw.trans (hb3.mono hbw.size))
    have k0 := blk_cell hkb3 0
    have k1 := blk_cell hkb3 1
    have f0 := blk_frozen hkb3 0
    have f1 := blk_frozen hkb3 1
    simp only [List.getElem?_toArray, List.getElem?_cons_zero, List.getElem?_cons_succ] at k0 k1
    clear hk3 hb3 hb HT hk2 hbw hkb3
    go_upto_region 2 with fail
    generalize (w2.alloc (.cells Z 130)).setRow w2.heap.size Z = w3 at *
    clear hst hz
    go_wp2_with fail
    refine bodyPost_ret (v := .tuple #[.agg #[.string ⟨#[]⟩, .int .i64 0], .int .i64 80]) ?_ rfl ?_
    · simp [results, Tryz.results59, go_sem, k0, k1]
    · rw [HANS.out]
      exact ⟨rfl, (HB3.out.setCell (p := ⟨w.heap.size, 0, none⟩) (Nat.le_refl _) _).setCell (p := ⟨w.heap.size, 1, none⟩) (Nat.le_refl _) _⟩

end Go.Proofs.YtmgmgmbpldboiaaGreat
namespace Go.Proofs.YtmgmgmbpldboiaaGreat
open Go.RowKit

set_option maxHeartbeats 1600000 in
set_option maxRecDepth 100000 in
theorem cpart_at (w : World) (A : Option Addr) (n c : Nat) (L : List Int) (k : Nat) (hL : ZIn w A n L) (hnc : n ≤ c) (hn : n ≤ 2000000) (hk : 50 * k < n) :
    Calls Tryz.prog 60 #[.slice A n c, .int .i64 k] w fun e w' => ∃ c2, e = .returned (.slice (A.map fun x => x.add (50 * k)) (partZ L k).length c2) ∧ (partZ L k).length ≤ c2 ∧ w' = w := by
  have hln := hL.1
  obtain ⟨m, hm⟩ : ∃ m, m = (partZ L k).length := ⟨_, rfl⟩
  have hm2 : m = min 50 (n - 50 * k) := by rw [hm, partZ_length, hln]
  obtain ⟨b, off, rfl, _⟩ := hL.2 (by omega)
  obtain ⟨lo, hlo⟩ : ∃ lo, lo = 50 * k := ⟨_, rfl⟩
  have hz1 : (k : Int) * 50 = (lo : Int) := by omega
  rw [← hm, ← hlo, Option.map_some, Addr.add_lit]
  obtain ⟨hi, hhi⟩ : ∃ hi, hi = lo + 50 := ⟨_, rfl⟩
  have hzz : (lo : Int) + 50 = (hi : Int) := by omega
  have hlob : lo ≤ 3000000 := by omega
  have hhib : hi ≤ 3000000 := by omega
  by_cases e : n < hi
  · have d1 : decide ((hi : Int) < (n : Int)) = false := decide_eq_false (by omega)
    have d2 : decide ((n : Int) < (hi : Int)) = true := decide_eq_true (by omega)
    have d3 : ¬ ((hi : Int) < (n : Int)) := by omega
    have d4 : ((n : Int) < (hi : Int)) := by omega
    have d5 : ¬ (hi < n) := by omega
    have hm3 : (n : Int) - (lo : Int) = (m : Int) := by omega
    have hmn : n - lo = m := by omega
    have hloI : (0 : Int) ≤ (lo : Int) := by omega
    have hlon : (lo : Int) ≤ (n : Int) := by omega
    have hncI : (n : Int) ≤ (c : Int) := by omega
    clear hL hm hm2 hlo hln hhi
    go_enter Tryz.func60, Tryz.ntmps60
    go_wp2_with fail
    go_ret
    exact ⟨_, rfl, by omega, rfl⟩
  · have d1 : decide ((hi : Int) < (n : Int)) = decide (hi < n) := decide_eq_decide.2 (by omega)
    have d2 : decide ((n : Int) < (hi : Int)) = false := decide_eq_false (by omega)
    have d4 : ¬ ((n : Int) < (hi : Int)) := by omega
    have d5 : (hi : Int) ≤ (n : Int) := by omega
    have hm3 : (hi : Int) - (lo : Int) = (m : Int) := by omega
    have hmn : hi - lo = m := by omega
    have hloI : (0 : Int) ≤ (lo : Int) := by omega
    have hlohi : (lo : Int) ≤ (hi : Int) := by omega
    have hhic : (hi : Int) ≤ (c : Int) := by omega
    clear hL hm hm2 hlo hln hhi
    go_enter Tryz.func60, Tryz.ntmps60
    go_wp2_with fail
    go_ret
    exact ⟨_, rfl, by omega, rfl⟩
theorem partZ_in {w : World} {A : Option Addr} {n k : Nat} {L : List Int} (h : ZIn w A n L) (hk : 50 * k < n) : ZIn w (A.map fun x => x.add (50 * k)) (partZ L k).length (partZ L k) := by
  have hl := partZ_length L k
  rw [h.1] at hl
  have hc := ZIn.cut (k := (partZ L k).length) (a := 50 * k) h (by omega)
  have e : (L.drop (50 * k)).take (partZ L k).length = partZ L k := by
    have h2 : (partZ L k).length = min 50 (L.drop (50 * k)).length := by unfold partZ; rw [List.length_take]
    rw [h2]
    unfold partZ
    by_cases e : 50 ≤ (L.drop (50 * k)).length
    · rw [Nat.min_eq_left e]
    · rw [Nat.min_eq_right (by omega), List.take_of_length_le (Nat.le_refl _), List.take_of_length_le (by omega)]
  rw [e] at hc
  exact hc

/-- The codes of a group. -/
def grpB (T : List (List Int)) (P L : List Int) (k : Nat) : List Nat := putB (nl (T.getD (P.getD k 0).toNat [])) (partZ L k)
theorem getD_nl (P : List Int) (k : Nat) : (nl P).getD k 0 = (P.getD k 0).toNat := by
  unfold nl
  rw [List.getD_eq_getElem?_getD, List.getD_eq_getElem?_getD, List.getElem?_map]
  cases P[k]? <;> rfl
theorem getD_tabs (T : List (List Int)) (k : Nat) : (T.map nl).getD k [] = nl (T.getD k []) := by
  rw [List.getD_eq_getElem?_getD, List.getD_eq_getElem?_getD, List.getElem?_map]
  cases T[k]? <;> rfl
set_option maxRecDepth 100000 in
theorem codesQ_group (T : List (List Int)) (P L : List Int) (k : Nat) : ∀ m, m ≤ 50 → 50 * k + m ≤ L.length →
    codesQ (T.map nl) (nl P) (nl L) (50 * k + m) = codesQ (T.map nl) (nl P) (nl L) (50 * k) ++ putB (nl (T.getD (P.getD k 0).toNat [])) ((L.drop (50 * k)).take m)
  | 0, _, _ => by simp [putB]
  | m + 1, hm, hl => by
    rw [← Nat.add_assoc, codesQ_next, codesQ_group T P L k m (by omega) (by omega), show (50 * k + m) / 50 = k by omega, getD_nl, getD_tabs, getD_nl]
    have e : (L.drop (50 * k)).take (m + 1) = (L.drop (50 * k)).take m ++ [L.getD (50 * k + m) 0] := by
      rw [List.take_succ_eq_append_getElem (by rw [List.length_drop]; omega), List.getElem_drop, List.getD_eq_getElem?_getD, List.getElem?_eq_getElem (by omega)]
      rfl
    rw [e]
    unfold putB
    rw [List.flatMap_append, List.append_assoc]
    simp
set_option maxRecDepth 100000 in
theorem codesQ_groups (T : List (List Int)) (P L : List Int) : ∀ k, codesQ (T.map nl) (nl P) (nl L) (min (50 * k) L.length) = ((List.range k).map (grpB T P L)).flatten
  | 0 => by simp [codesQ]
  | k + 1 => by
    rw [List.range_succ, List.map_append, List.flatten_append, ← codesQ_groups T P L k]
    simp only [List.map_cons, List.map_nil, List.flatten_cons, List.flatten_nil, List.append_nil]
    by_cases h : 50 * k ≤ L.length
    · obtain ⟨m, hm⟩ : ∃ m, m = min 50 (L.length - 50 * k) := ⟨_, rfl⟩
      rw [Nat.min_eq_left h, show min (50 * (k + 1)) L.length = 50 * k + m by omega, codesQ_group T P L k m (by omega) (by omega)]
      congr 2
      unfold partZ
      by_cases e : m = 50
      · rw [e]
      · rw [List.take_of_length_le (by rw [List.length_drop]; omega), List.take_of_length_le (by rw [List.length_drop]; omega)]
    · have e : grpB T P L k = [] := by
        unfold grpB partZ putB
        rw [List.drop_eq_nil_of_le (by omega)]
        rfl
      rw [e, List.append_nil, Nat.min_eq_right (by omega), Nat.min_eq_right (by omega)]
theorem putB_bits (l : List Nat) (list : List Int) : Bit01 (putB l list) := by
  unfold putB
  intro b hb
  obtain ⟨x, _, hx⟩ := List.mem_flatMap.1 hb
  exact bit01_bitsN _ _ b hx
set_option maxRecDepth 100000 in
theorem putB_short {t : List Int} (ht : LenOk t) (list : List Int) : (putB (nl t) list).length ≤ 20 * list.length := by
  induction list with
  | nil => simp [putB]
  | cons x list ih =>
    have e : putB (nl t) (x :: list) = codeB (nl t) x.toNat ++ putB (nl t) list := rfl
    have hc : (codeB (nl t) x.toNat).length ≤ 20 := by
      unfold codeB
      rw [bitsN_length, getD_nl]
      by_cases hx : x.toNat < t.length
      · have := (ht.2.2.1 (t.getD x.toNat 0) (by
          rw [List.getD_eq_getElem?_getD, List.getElem?_eq_getElem hx]
          exact List.getElem_mem _)).2
        omega
      · rw [List.getD_eq_getElem?_getD, List.getElem?_eq_none (by omega)]
        exact Nat.zero_le _
    rw [e, List.length_append, List.length_cons]
    omega
set_option maxRecDepth 100000 in
theorem grps_short (T : List (List Int)) (P L : List Int) (hT : ∀ k, LenOk (T.getD (P.getD k 0).toNat []) ∨ partZ L k = []) : ∀ k, ((List.range k).map (grpB T P L)).flatten.length ≤ 1000 * k
  | 0 => by simp
  | k + 1 => by
    rw [List.range_succ, List.map_append, List.flatten_append, List.length_append]
    have ih := grps_short T P L hT k
    have : (grpB T P L k).length ≤ 1000 := by
      unfold grpB
      rcases hT k with h | h
      · have h2 := putB_short h (partZ L k)
        have h3 := partZ_length L k
        omega
      · rw [h]
        simp [putB]
    simp only [List.map_cons, List.map_nil, List.flatten_cons, List.flatten_nil, List.append_nil]
    omega
/-- A symbol stands in some group. -/
theorem mem_part {L : List Int} {x : Int} (hx : x ∈ L) : ∃ k, k < groupsN L.length ∧ x ∈ partZ L k := by
  obtain ⟨i, hi, rfl⟩ := List.getElem_of_mem hx
  refine ⟨i / 50, by unfold groupsN; omega, ?_⟩
  unfold partZ
  refine List.mem_take_iff_getElem.2 ⟨i % 50, by rw [List.length_drop]; omega, ?_⟩
  rw [List.getElem_drop]
  congr 1
  omega
theorem part_mem {L : List Int} {k : Nat} {x : Int} (hx : x ∈ partZ L k) : x ∈ L := List.mem_of_mem_drop (List.mem_of_mem_take hx)

end Go.Proofs.YtmgmgmbpldboiaaGreat
