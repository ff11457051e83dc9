/- Ustar: the reference's may. Written ahead of stage 16. -/
import Derived.Test.YtdjmfkodjjjhfaaGreatDoorPt
namespace Go.Proofs.YtdjmfkodjjjhfaaGreatDoor
open Go.RowKit

def mayT (h : HeadP) (i : Nat) : ByteArray := if i = 0 then h.path else if i = 1 then h.link else if i = 2 then h.user else h.group
def mayM (i : Nat) : Nat := if i = 0 then 1099511627776 else if i = 1 then 100 else 31
def mayOk (h : HeadP) (i : Nat) : Prop := (mayT h i).size ≤ mayM i ∧ cutZ (mayT h i).data.toList = (mayT h i).data.toList
def mayS (h : HeadP) (i : Nat) : Int := if i = 0 then h.mode else if i = 1 then h.uid else h.gid
def mayK (h : HeadP) : Prop := h.kind = 48 ∨ h.kind = 53 ∨ h.kind = 120 ∨ h.kind = 103
set_option maxRecDepth 100000 in
theorem may_iff (h : HeadP) : mayA h ↔ mayK h ∧ (∀ i, i < 4 → mayOk h i) ∧ (∀ i, i < 3 → smallOk (mayS h i)) ∧ greatOk h.size ∧ greatOk h.time := by
  constructor
  · rintro ⟨hk, h0, h1, h2, h3, s0, s1, s2, g1, g2⟩
    refine ⟨hk, fun i hi => ?_, fun i hi => ?_, g1, g2⟩
    · have : i = 0 ∨ i = 1 ∨ i = 2 ∨ i = 3 := by omega
      rcases this with rfl | rfl | rfl | rfl
      · exact h0
      · exact h1
      · exact h2
      · exact h3
    · have : i = 0 ∨ i = 1 ∨ i = 2 := by omega
      rcases this with rfl | rfl | rfl
      · exact s0
      · exact s1
      · exact s2
  · rintro ⟨hk, ht, hs, g1, g2⟩
    exact ⟨hk, ht 0 (by omega), ht 1 (by omega), ht 2 (by omega), ht 3 (by omega), hs 0 (by omega), hs 1 (by omega), hs 2 (by omega), g1, g2⟩
/-- The ints and strings of a head lie in their kinds. -/
structure HeadB (h : HeadP) : Prop where
  kind : h.kind < 256
  texts : ∀ i, i < 4 → (mayT h i).size ≤ 9223372036854775807

set_option maxHeartbeats 6400000 in
set_option maxRecDepth 100000 in
theorem rmay_not (w : World) (h : HeadP) (_ : HeadB h) (hk : ¬ mayK h) : Calls Tryz.prog 94 #[headV h] w fun e w' => e = .returned (.bool (decide (mayA h))) ∧ Below w.heap.size w w' := by
  have HP : Hid (∀ (b : Bool) (w' : World), decide (mayA h) = b → Below w.heap.size w w' → (fun e w' => e = Ending.returned (.bool (decide (mayA h))) ∧ Below w.heap.size w w') (.returned (.bool b)) w') := Lib.hid fun b w' h hb => ⟨by rw [h], hb⟩
  generalize (fun e w' => e = Ending.returned (.bool (decide (mayA h))) ∧ Below w.heap.size w w') = PO at *
  have hv : headV h = .agg #[.string h.path, .int .i64 h.size, .int .u8 h.kind, .int .i64 h.mode, .int .i64 h.time, .string h.link, .string h.user, .string h.group, .int .i64 h.uid, .int .i64 h.gid] := rfl
  rw [hv]
  clear hv
  have k1 : (((h.kind : Nat) : Int) != 48) = true := bne_iff_ne.2 fun hh => hk (.inl (by omega))
  have k2 : (((h.kind : Nat) : Int) != 53) = true := bne_iff_ne.2 fun hh => hk (.inr (.inl (by omega)))
  have k3 : (((h.kind : Nat) : Int) != 120) = true := bne_iff_ne.2 fun hh => hk (.inr (.inr (.inl (by omega))))
  have k4 : (((h.kind : Nat) : Int) != 103) = true := bne_iff_ne.2 fun hh => hk (.inr (.inr (.inr (by omega))))
  have hb1 : Below w.heap.size w (w.alloc (.cells #[.string h.path, .int .i64 h.size, .int .u8 h.kind, .int .i64 h.mode, .int .i64 h.time, .string h.link, .string h.user, .string h.group, .int .i64 h.uid, .int .i64 h.gid] 65)) := (Below.refl _ _).alloc (Nat.le_refl _) _
  have HF := Lib.hid (HP.out false _ (decide_eq_false fun hm => hk ((may_iff h).1 hm).1) hb1)
  clear hb1 hk
  go_enter Tryz.func94, Tryz.ntmps94
  go_wp2_with fail
  first | go_ret2 | skip
  exact HF.out
set_option maxHeartbeats 6400000 in
set_option maxRecDepth 100000 in
theorem rmay_48 (w : World) (h : HeadP) (hb : HeadB h) (hk : h.kind = 48) : Calls Tryz.prog 94 #[headV h] w fun e w' => e = .returned (.bool (decide (mayA h))) ∧ Below w.heap.size w w' := by
  have HP : Hid (∀ (b : Bool) (w' : World), decide (mayA h) = b → Below w.heap.size w w' → (fun e w' => e = Ending.returned (.bool (decide (mayA h))) ∧ Below w.heap.size w w') (.returned (.bool b)) w') := Lib.hid fun b w' h hb => ⟨by rw [h], hb⟩
  generalize (fun e w' => e = Ending.returned (.bool (decide (mayA h))) ∧ Below w.heap.size w w') = PO at *
  have hv : headV h = .agg #[.string h.path, .int .i64 h.size, .int .u8 h.kind, .int .i64 h.mode, .int .i64 h.time, .string h.link, .string h.user, .string h.group, .int .i64 h.uid, .int .i64 h.gid] := rfl
  rw [hv]
  clear hv
  have HK : Hid (mayK h) := Lib.hid (by unfold mayK; omega)
  have k1 : (((h.kind : Nat) : Int) != 48) = false := by rw [hk]; rfl
  clear hk
  have HTX := Lib.hid hb.texts
  have HCT := Lib.hid fun wx i hi => rcutz_any wx (mayT h i) (hb.texts i hi)
  have NOT : Hid (∀ i, i < 4 → ¬ mayOk h i → decide (mayA h) = false) := Lib.hid fun i hi hn => decide_eq_false fun hm => hn (((may_iff h).1 hm).2.1 i hi)
  have NOS : Hid (∀ i, i < 3 → ¬ smallOk (mayS h i) → decide (mayA h) = false) := Lib.hid fun i hi hn => decide_eq_false fun hm => hn (((may_iff h).1 hm).2.2.1 i hi)
  have NOG : Hid (¬ (greatOk h.size ∧ greatOk h.time) → decide (mayA h) = false) := Lib.hid fun hn => decide_eq_false fun hm => hn (((may_iff h).1 hm).2.2.2)
  have YES : Hid ((∀ i, i < 4 → mayOk h i) → (∀ i, i < 3 → smallOk (mayS h i)) → greatOk h.size → greatOk h.time → decide (mayA h) = true) := Lib.hid fun a b c d => decide_eq_true ((may_iff h).2 ⟨HK.out, a, b, c, d⟩)
  clear hb
  go_enter Tryz.func94, Tryz.ntmps94
  go_wp2_with fail
  have hk1 := blk_new w 65 #[.string h.path, .int .i64 h.size, .int .u8 h.kind, .int .i64 h.mode, .int .i64 h.time, .string h.link, .string h.user, .string h.group, .int .i64 h.uid, .int .i64 h.gid]
  have hb1 : Below w.heap.size w (w.alloc (.cells #[.string h.path, .int .i64 h.size, .int .u8 h.kind, .int .i64 h.mode, .int .i64 h.time, .string h.link, .string h.user, .string h.group, .int .i64 h.uid, .int .i64 h.gid] 65)) := (Below.refl _ _).alloc (Nat.le_refl _) _
  have hs1 : (w.alloc (.cells #[.string h.path, .int .i64 h.size, .int .u8 h.kind, .int .i64 h.mode, .int .i64 h.time, .string h.link, .string h.user, .string h.group, .int .i64 h.uid, .int .i64 h.gid] 65)).heap.size = w.heap.size + 1 := by show (w.heap.push _).size = _; exact Array.size_push _
  generalize w.alloc (.cells #[.string h.path, .int .i64 h.size, .int .u8 h.kind, .int .i64 h.mode, .int .i64 h.time, .string h.link, .string h.user, .string h.group, .int .i64 h.uid, .int .i64 h.gid] 65) = w1 at *
  have hk2 := blk_new w1 9 #[.string h.path, .string h.link, .string h.user, .string h.group]
  have hb2 : Below w1.heap.size w1 (w1.alloc (.cells #[.string h.path, .string h.link, .string h.user, .string h.group] 9)) := (Below.refl _ _).alloc (Nat.le_refl _) _
  have hs2 : (w1.alloc (.cells #[.string h.path, .string h.link, .string h.user, .string h.group] 9)).heap.size = w1.heap.size + 1 := by show (w1.heap.push _).size = _; exact Array.size_push _
  generalize w1.alloc (.cells #[.string h.path, .string h.link, .string h.user, .string h.group] 9) = w2 at *
  have hk3 := blk_new w2 3 #[.int .i64 1099511627776, .int .i64 100, .int .i64 31, .int .i64 31]
  have hb3 : Below w2.heap.size w2 (w2.alloc (.cells #[.int .i64 1099511627776, .int .i64 100, .int .i64 31, .int .i64 31] 3)) := (Below.refl _ _).alloc (Nat.le_refl _) _
  generalize w2.alloc (.cells #[.int .i64 1099511627776, .int .i64 100, .int .i64 31, .int .i64 31] 3) = w3 at *
  have hk1 := (step_of_below hb2).blk hk1 List.not_mem_nil List.not_mem_nil
  have hk1 := (step_of_below hb3).blk hk1 List.not_mem_nil List.not_mem_nil
  have hk2 := (step_of_below hb3).blk hk2 List.not_mem_nil List.not_mem_nil
  have HB3 : Hid (Below w.heap.size w w3) := Lib.hid (hb1.trans ((hb2.trans (hb3.mono hb2.size)).mono hb1.size))
  rw [hs1] at hk2 hs2
  rw [hs2] at hk3
  clear hs1 hs2 hb1 hb2 hb3
  generalize w.heap.size + 1 + 1 = g2 at *
  generalize w.heap.size + 1 = g1 at *
  have HG2 := Lib.hid (fun (i : Nat) (hi : i < 4) => show w3.cell? ⟨g1, i, none⟩ = some (.string (mayT h i)) from (blk_cell hk2 i).trans (by
    have : i = 0 ∨ i = 1 ∨ i = 2 ∨ i = 3 := by omega
    rcases this with rfl | rfl | rfl | rfl <;> rfl))
  have HG3 := Lib.hid (fun (i : Nat) (hi : i < 4) => show w3.cell? ⟨g2, i, none⟩ = some (.int .i64 (mayM i)) from (blk_cell hk3 i).trans (by
    have : i = 0 ∨ i = 1 ∨ i = 2 ∨ i = 3 := by omega
    rcases this with rfl | rfl | rfl | rfl <;> rfl))
  have HLT1 := Lib.hid (blk_lt hk2)
  have HLT2 := Lib.hid (blk_lt hk3)
  have HK1 := Lib.hid hk1
  clear hk1 hk2 hk3
  go_loopw [5] (fun si wx => ∃ q j : Nat, si = .int .i64 q ∧ q ≤ 4 ∧ wx = w3.drewN j ∧ Hid (∀ i, i < q → mayOk h i)) (fun si _ => 4 - (intOf si).toNat)
  case atStart => exact ⟨0, 0, rfl, Nat.zero_le _, rfl, Lib.hid fun i hi => absurd hi (Nat.not_lt_zero _)⟩
  case round =>
    obtain ⟨q, j, rfl, hq, hwj, hJ⟩ := hrel
    have hbw := below_drewN (Below.refl w3.heap.size w3) j
    rw [← hwj] at hbw
    have HBW : Hid (Below w.heap.size w wr) := Lib.hid (by rw [hwj]; exact below_drewN HB3.out j)
    by_cases e : q < 4
    · have dq : decide ((q : Int) < 4) = true := decide_eq_true (by omega)
      have hqz : (q : Int) < 4 := by omega
      have c1 : wr.cell? ⟨g1, q, none⟩ = some (.string (mayT h q)) := (hbw.cell (p := ⟨g1, q, none⟩) HLT1.out).trans (HG2.out q e)
      have c2 : wr.cell? ⟨g2, q, none⟩ = some (.int .i64 (mayM q)) := (hbw.cell (p := ⟨g2, q, none⟩) HLT2.out).trans (HG3.out q e)
      have HW := Lib.hid hwj
      have HC := Lib.hid fun wx => HCT.out wx q e
      have HOK := Lib.hid (show mayOk h q ↔ (mayT h q).size ≤ mayM q ∧ cutZ (mayT h q).data.toList = (mayT h q).data.toList from Iff.rfl)
      have hsz := HTX.out q e
      clear hwj hbw
      generalize mayT h q = X at *
      generalize mayM q = M at *
      by_cases e2 : M < X.size
      · have d2 : decide ((M : Int) < (X.size : Int)) = true := decide_eq_true (by omega)
        have HF := Lib.hid (HP.out false wr.drew (NOT.out q e (fun hh => absurd (HOK.out.1 hh).1 (by omega))) HBW.out.drew)
        go_wp2_with fail
        go_region
        go_wp2_with fail
        first | go_ret2 | skip
        exact HF.out
      · have d2 : decide ((M : Int) < (X.size : Int)) = false := decide_eq_false (by omega)
        obtain ⟨E, hE⟩ : ∃ E, E = strF (cutZ X.data.toList) := ⟨_, rfl⟩
        have hcmp : (E.toList == X.toList) = decide (cutZ X.data.toList = X.data.toList) := by rw [fsame, hE, strF_list]
        have HC0 := HC.out
        rw [← hE] at HC0
        have HC := Lib.hid HC0
        clear HC0 hE
        by_cases e3 : cutZ X.data.toList = X.data.toList
        · have d4 : (E.toList == X.toList) = true := by rw [hcmp, decide_eq_true e3]
          have HJ2 : Hid (∀ i, i < q + 1 → mayOk h i) := Lib.hid fun i hi => by
            by_cases hiq : i = q
            · rw [hiq]
              exact HOK.out.2 ⟨by omega, e3⟩
            · exact hJ.out i (by omega)
          clear hcmp e3
          go_upto_region 8 with fail
          go_region_held3 (fun w' => w'.cell? ⟨g1, q, none⟩ = some (.string X) ∧ w'.cell? ⟨g2, q, none⟩ = some (.int .i64 M)) (first | exact ⟨c1, c2⟩ | go_keep) (first | (go_at_call 107; refine (HC.out _).mono ?_; rintro e w5 ⟨rfl, rfl⟩))
          go_wp2_with fail
          go_roundw
          case rel => exact ⟨q + 1, j + 1, by go_num, by omega, by rw [HW.out]; rfl, HJ2⟩
          case measure => simp [intOf]; omega
        · have d4 : (E.toList == X.toList) = false := by rw [hcmp, decide_eq_false e3]
          have HF := Lib.hid (HP.out false wr.drew (NOT.out q e (fun hh => e3 (HOK.out.1 hh).2)) HBW.out.drew)
          clear hcmp e3
          go_upto_region 8 with fail
          go_region_held3 (fun w' => w'.cell? ⟨g1, q, none⟩ = some (.string X) ∧ w'.cell? ⟨g2, q, none⟩ = some (.int .i64 M)) (first | exact ⟨c1, c2⟩ | go_keep) (first | (go_at_call 107; refine (HC.out _).mono ?_; rintro e w5 ⟨rfl, rfl⟩))
          go_wp2_with fail
          first | go_ret2 | skip
          exact HF.out
    · obtain rfl : q = 4 := by omega
      have hkw := (step_of_below hbw).blk HK1.out List.not_mem_nil List.not_mem_nil
      have hk5 := blk_new wr 3 #[.int .i64 h.mode, .int .i64 h.uid, .int .i64 h.gid]
      have hb5 : Below wr.heap.size wr (wr.alloc (.cells #[.int .i64 h.mode, .int .i64 h.uid, .int .i64 h.gid] 3)) := (Below.refl _ _).alloc (Nat.le_refl _) _
      have hkx := (step_of_below hb5).blk hkw List.not_mem_nil List.not_mem_nil
      have HB5 := Lib.hid (HBW.out.trans (hb5.mono HBW.out.size))
      have q3 : wr.cell? ⟨w.heap.size, 3, none⟩ = some (.int .i64 h.mode) := blk_cell hkw 3
      have q8 : wr.cell? ⟨w.heap.size, 8, none⟩ = some (.int .i64 h.uid) := blk_cell hkw 8
      have q9 : wr.cell? ⟨w.heap.size, 9, none⟩ = some (.int .i64 h.gid) := blk_cell hkw 9
      obtain ⟨w5, hw5⟩ : ∃ w5, w5 = wr.alloc (.cells #[.int .i64 h.mode, .int .i64 h.uid, .int .i64 h.gid] 3) := ⟨_, rfl⟩
      rw [← hw5] at hk5 hkx HB5
      have r1 : w5.cell? ⟨w.heap.size, 1, none⟩ = some (.int .i64 h.size) := blk_cell hkx 1
      have r4 : w5.cell? ⟨w.heap.size, 4, none⟩ = some (.int .i64 h.time) := blk_cell hkx 4
      have HR1 := Lib.hid r1
      have HR4 := Lib.hid r4
      have HG5 := Lib.hid (fun (i : Nat) (hi : i < 3) => show w5.cell? ⟨wr.heap.size, i, none⟩ = some (.int .i64 (mayS h i)) from (blk_cell hk5 i).trans (by
        have : i = 0 ∨ i = 1 ∨ i = 2 := by omega
        rcases this with rfl | rfl | rfl <;> rfl))
      have dq : decide (((4 : Nat) : Int) < 4) = false := rfl
      have HW5 := Lib.hid hw5
      clear hbw hkw hk5 hb5 hkx hwj r1 r4 hw5
      go_wp2_with fail
      rw [← HW5.out]
      clear q3 q8 q9
      generalize wr.heap.size = g3 at *
      go_loopw [7] (fun si wx => ∃ p : Nat, si = .int .i64 p ∧ p ≤ 3 ∧ wx = w5 ∧ Hid (∀ i, i < p → smallOk (mayS h i))) (fun si _ => 3 - (intOf si).toNat)
      case atStart => exact ⟨0, rfl, Nat.zero_le _, rfl, Lib.hid fun i hi => absurd hi (Nat.not_lt_zero _)⟩
      case round =>
        obtain ⟨p, rfl, hp, rfl, hI⟩ := hrel
        by_cases e : p < 3
        · have dp : decide ((p : Int) < 3) = true := decide_eq_true (by omega)
          have hpz : (p : Int) < 3 := by omega
          have c5 := HG5.out p e
          have HSO := Lib.hid (show smallOk (mayS h p) ↔ 0 ≤ mayS h p ∧ mayS h p ≤ 2097151 from Iff.rfl)
          have NS := Lib.hid (NOS.out p e)
          have HI3 : Hid (smallOk (mayS h p) → ∀ i, i < p + 1 → smallOk (mayS h i)) := Lib.hid fun hx i hi => by
            by_cases hip : i = p
            · rw [hip]
              exact hx
            · exact hI.out i (by omega)
          generalize mayS h p = V at *
          by_cases v1 : V < 0
          · have f1 : decide (V < 0) = true := decide_eq_true v1
            have HF := Lib.hid (HP.out false _ (NS.out (fun hh => absurd (HSO.out.1 hh).1 (by omega))) HB5.out)
            go_wp2_with fail
            first | go_ret2 | skip
            exact HF.out
          · have f1 : decide (V < 0) = false := decide_eq_false v1
            by_cases v2 : 2097151 < V
            · have f2 : decide (2097151 < V) = true := decide_eq_true v2
              have HF := Lib.hid (HP.out false _ (NS.out (fun hh => absurd (HSO.out.1 hh).2 (by omega))) HB5.out)
              go_wp2_with fail
              first | go_ret2 | skip
              exact HF.out
            · have f2 : decide (2097151 < V) = false := decide_eq_false v2
              have HI2 : Hid (∀ i, i < p + 1 → smallOk (mayS h i)) := Lib.hid (HI3.out (HSO.out.2 ⟨by omega, by omega⟩))
              go_wp2_with fail
              go_roundw
              case rel => exact ⟨p + 1, by go_num, by omega, by first | rfl | trivial, HI2⟩
              case measure => simp [intOf]; omega
        · obtain rfl : p = 3 := by omega
          have dp : decide (((3 : Nat) : Int) < 3) = false := rfl
          have r1 := HR1.out
          have r4 := HR4.out
          by_cases x1 : 0 ≤ h.size
          · have f1 : decide (0 ≤ h.size) = true := decide_eq_true x1
            by_cases x2 : h.size ≤ 8589934591
            · have f2 : decide (h.size ≤ 8589934591) = true := decide_eq_true x2
              by_cases x3 : 0 ≤ h.time
              · have f3 : decide (0 ≤ h.time) = true := decide_eq_true x3
                by_cases x4 : h.time ≤ 8589934591
                · have f4 : decide (h.time ≤ 8589934591) = true := decide_eq_true x4
                  have HF := Lib.hid (HP.out true _ (YES.out hJ.out hI.out ⟨x1, x2⟩ ⟨x3, x4⟩) HB5.out)
                  clear x1 x2 x3 x4
                  go_wp2_with fail
                  first | go_ret2 | skip
                  exact HF.out
                · have f4 : decide (h.time ≤ 8589934591) = false := decide_eq_false x4
                  have HF := Lib.hid (HP.out false _ (NOG.out fun hh => x4 hh.2.2) HB5.out)
                  clear x1 x2 x3 x4
                  go_wp2_with fail
                  first | go_ret2 | skip
                  exact HF.out
              · have f3 : decide (0 ≤ h.time) = false := decide_eq_false x3
                have HF := Lib.hid (HP.out false _ (NOG.out fun hh => x3 hh.2.1) HB5.out)
                clear x1 x2 x3
                go_wp2_with fail
                first | go_ret2 | skip
                exact HF.out
            · have f2 : decide (h.size ≤ 8589934591) = false := decide_eq_false x2
              have HF := Lib.hid (HP.out false _ (NOG.out fun hh => x2 hh.1.2) HB5.out)
              clear x1 x2
              go_wp2_with fail
              first | go_ret2 | skip
              exact HF.out
          · have f1 : decide (0 ≤ h.size) = false := decide_eq_false x1
            have HF := Lib.hid (HP.out false _ (NOG.out fun hh => x1 hh.1.1) HB5.out)
            clear x1
            go_wp2_with fail
            first | go_ret2 | skip
            exact HF.out
set_option maxHeartbeats 6400000 in
set_option maxRecDepth 100000 in
theorem rmay_53 (w : World) (h : HeadP) (hb : HeadB h) (hk : h.kind = 53) : Calls Tryz.prog 94 #[headV h] w fun e w' => e = .returned (.bool (decide (mayA h))) ∧ Below w.heap.size w w' := by
  have HP : Hid (∀ (b : Bool) (w' : World), decide (mayA h) = b → Below w.heap.size w w' → (fun e w' => e = Ending.returned (.bool (decide (mayA h))) ∧ Below w.heap.size w w') (.returned (.bool b)) w') := Lib.hid fun b w' h hb => ⟨by rw [h], hb⟩
  generalize (fun e w' => e = Ending.returned (.bool (decide (mayA h))) ∧ Below w.heap.size w w') = PO at *
  have hv : headV h = .agg #[.string h.path, .int .i64 h.size, .int .u8 h.kind, .int .i64 h.mode, .int .i64 h.time, .string h.link, .string h.user, .string h.group, .int .i64 h.uid, .int .i64 h.gid] := rfl
  rw [hv]
  clear hv
  have HK : Hid (mayK h) := Lib.hid (by unfold mayK; omega)
  have k1 : (((h.kind : Nat) : Int) != 48) = true := by rw [hk]; rfl
  have k2 : (((h.kind : Nat) : Int) != 53) = false := by rw [hk]; rfl
  clear hk
  have HTX := Lib.hid hb.texts
  have HCT := Lib.hid fun wx i hi => rcutz_any wx (mayT h i) (hb.texts i hi)
  have NOT : Hid (∀ i, i < 4 → ¬ mayOk h i → decide (mayA h) = false) := Lib.hid fun i hi hn => decide_eq_false fun hm => hn (((may_iff h).1 hm).2.1 i hi)
  have NOS : Hid (∀ i, i < 3 → ¬ smallOk (mayS h i) → decide (mayA h) = false) := Lib.hid fun i hi hn => decide_eq_false fun hm => hn (((may_iff h).1 hm).2.2.1 i hi)
  have NOG : Hid (¬ (greatOk h.size ∧ greatOk h.time) → decide (mayA h) = false) := Lib.hid fun hn => decide_eq_false fun hm => hn (((may_iff h).1 hm).2.2.2)
  have YES : Hid ((∀ i, i < 4 → mayOk h i) → (∀ i, i < 3 → smallOk (mayS h i)) → greatOk h.size → greatOk h.time → decide (mayA h) = true) := Lib.hid fun a b c d => decide_eq_true ((may_iff h).2 ⟨HK.out, a, b, c, d⟩)
  clear hb
  go_enter Tryz.func94, Tryz.ntmps94
  go_wp2_with fail
  have hk1 := blk_new w 65 #[.string h.path, .int .i64 h.size, .int .u8 h.kind, .int .i64 h.mode, .int .i64 h.time, .string h.link, .string h.user, .string h.group, .int .i64 h.uid, .int .i64 h.gid]
  have hb1 : Below w.heap.size w (w.alloc (.cells #[.string h.path, .int .i64 h.size, .int .u8 h.kind, .int .i64 h.mode, .int .i64 h.time, .string h.link, .string h.user, .string h.group, .int .i64 h.uid, .int .i64 h.gid] 65)) := (Below.refl _ _).alloc (Nat.le_refl _) _
  have hs1 : (w.alloc (.cells #[.string h.path, .int .i64 h.size, .int .u8 h.kind, .int .i64 h.mode, .int .i64 h.time, .string h.link, .string h.user, .string h.group, .int .i64 h.uid, .int .i64 h.gid] 65)).heap.size = w.heap.size + 1 := by show (w.heap.push _).size = _; exact Array.size_push _
  generalize w.alloc (.cells #[.string h.path, .int .i64 h.size, .int .u8 h.kind, .int .i64 h.mode, .int .i64 h.time, .string h.link, .string h.user, .string h.group, .int .i64 h.uid, .int .i64 h.gid] 65) = w1 at *
  have hk2 := blk_new w1 9 #[.string h.path, .string h.link, .string h.user, .string h.group]
  have hb2 : Below w1.heap.size w1 (w1.alloc (.cells #[.string h.path, .string h.link, .string h.user, .string h.group] 9)) := (Below.refl _ _).alloc (Nat.le_refl _) _
  have hs2 : (w1.alloc (.cells #[.string h.path, .string h.link, .string h.user, .string h.group] 9)).heap.size = w1.heap.size + 1 := by show (w1.heap.push _).size = _; exact Array.size_push _
  generalize w1.alloc (.cells #[.string h.path, .string h.link, .string h.user, .string h.group] 9) = w2 at *
  have hk3 := blk_new w2 3 #[.int .i64 1099511627776, .int .i64 100, .int .i64 31, .int .i64 31]
  have hb3 : Below w2.heap.size w2 (w2.alloc (.cells #[.int .i64 1099511627776, .int .i64 100, .int .i64 31, .int .i64 31] 3)) := (Below.refl _ _).alloc (Nat.le_refl _) _
  generalize w2.alloc (.cells #[.int .i64 1099511627776, .int .i64 100, .int .i64 31, .int .i64 31] 3) = w3 at *
  have hk1 := (step_of_below hb2).blk hk1 List.not_mem_nil List.not_mem_nil
  have hk1 := (step_of_below hb3).blk hk1 List.not_mem_nil List.not_mem_nil
  have hk2 := (step_of_below hb3).blk hk2 List.not_mem_nil List.not_mem_nil
  have HB3 : Hid (Below w.heap.size w w3) := Lib.hid (hb1.trans ((hb2.trans (hb3.mono hb2.size)).mono hb1.size))
  rw [hs1] at hk2 hs2
  rw [hs2] at hk3
  clear hs1 hs2 hb1 hb2 hb3
  generalize w.heap.size + 1 + 1 = g2 at *
  generalize w.heap.size + 1 = g1 at *
  have HG2 := Lib.hid (fun (i : Nat) (hi : i < 4) => show w3.cell? ⟨g1, i, none⟩ = some (.string (mayT h i)) from (blk_cell hk2 i).trans (by
    have : i = 0 ∨ i = 1 ∨ i = 2 ∨ i = 3 := by omega
    rcases this with rfl | rfl | rfl | rfl <;> rfl))
  have HG3 := Lib.hid (fun (i : Nat) (hi : i < 4) => show w3.cell? ⟨g2, i, none⟩ = some (.int .i64 (mayM i)) from (blk_cell hk3 i).trans (by
    have : i = 0 ∨ i = 1 ∨ i = 2 ∨ i = 3 := by omega
    rcases this with rfl | rfl | rfl | rfl <;> rfl))
  have HLT1 := Lib.hid (blk_lt hk2)
  have HLT2 := Lib.hid (blk_lt hk3)
  have HK1 := Lib.hid hk1
  clear hk1 hk2 hk3
  go_loopw [5] (fun si wx => ∃ q j : Nat, si = .int .i64 q ∧ q ≤ 4 ∧ wx = w3.drewN j ∧ Hid (∀ i, i < q → mayOk h i)) (fun si _ => 4 - (intOf si).toNat)
  case atStart => exact ⟨0, 0, rfl, Nat.zero_le _, rfl, Lib.hid fun i hi => absurd hi (Nat.not_lt_zero _)⟩
  case round =>
    obtain ⟨q, j, rfl, hq, hwj, hJ⟩ := hrel
    have hbw := below_drewN (Below.refl w3.heap.size w3) j
    rw [← hwj] at hbw
    have HBW : Hid (Below w.heap.size w wr) := Lib.hid (by rw [hwj]; exact below_drewN HB3.out j)
    by_cases e : q < 4
    · have dq : decide ((q : Int) < 4) = true := decide_eq_true (by omega)
      have hqz : (q : Int) < 4 := by omega
      have c1 : wr.cell? ⟨g1, q, none⟩ = some (.string (mayT h q)) := (hbw.cell (p := ⟨g1, q, none⟩) HLT1.out).trans (HG2.out q e)
      have c2 : wr.cell? ⟨g2, q, none⟩ = some (.int .i64 (mayM q)) := (hbw.cell (p := ⟨g2, q, none⟩) HLT2.out).trans (HG3.out q e)
      have HW := Lib.hid hwj
      have HC := Lib.hid fun wx => HCT.out wx q e
      have HOK := Lib.hid (show mayOk h q ↔ (mayT h q).size ≤ mayM q ∧ cutZ (mayT h q).data.toList = (mayT h q).data.toList from Iff.rfl)
      have hsz := HTX.out q e
      clear hwj hbw
      generalize mayT h q = X at *
      generalize mayM q = M at *
      by_cases e2 : M < X.size
      · have d2 : decide ((M : Int) < (X.size : Int)) = true := decide_eq_true (by omega)
        have HF := Lib.hid (HP.out false wr.drew (NOT.out q e (fun hh => absurd (HOK.out.1 hh).1 (by omega))) HBW.out.drew)
        go_wp2_with fail
        go_region
        go_wp2_with fail
        first | go_ret2 | skip
        exact HF.out
      · have d2 : decide ((M : Int) < (X.size : Int)) = false := decide_eq_false (by omega)
        obtain ⟨E, hE⟩ : ∃ E, E = strF (cutZ X.data.toList) := ⟨_, rfl⟩
        have hcmp : (E.toList == X.toList) = decide (cutZ X.data.toList = X.data.toList) := by rw [fsame, hE, strF_list]
        have HC0 := HC.out
        rw [← hE] at HC0
        have HC := Lib.hid HC0
        clear HC0 hE
        by_cases e3 : cutZ X.data.toList = X.data.toList
        · have d4 : (E.toList == X.toList) = true := by rw [hcmp, decide_eq_true e3]
          have HJ2 : Hid (∀ i, i < q + 1 → mayOk h i) := Lib.hid fun i hi => by
            by_cases hiq : i = q
            · rw [hiq]
              exact HOK.out.2 ⟨by omega, e3⟩
            · exact hJ.out i (by omega)
          clear hcmp e3
          go_upto_region 8 with fail
          go_region_held3 (fun w' => w'.cell? ⟨g1, q, none⟩ = some (.string X) ∧ w'.cell? ⟨g2, q, none⟩ = some (.int .i64 M)) (first | exact ⟨c1, c2⟩ | go_keep) (first | (go_at_call 107; refine (HC.out _).mono ?_; rintro e w5 ⟨rfl, rfl⟩))
          go_wp2_with fail
          go_roundw
          case rel => exact ⟨q + 1, j + 1, by go_num, by omega, by rw [HW.out]; rfl, HJ2⟩
          case measure => simp [intOf]; omega
        · have d4 : (E.toList == X.toList) = false := by rw [hcmp, decide_eq_false e3]
          have HF := Lib.hid (HP.out false wr.drew (NOT.out q e (fun hh => e3 (HOK.out.1 hh).2)) HBW.out.drew)
          clear hcmp e3
          go_upto_region 8 with fail
          go_region_held3 (fun w' => w'.cell? ⟨g1, q, none⟩ = some (.string X) ∧ w'.cell? ⟨g2, q, none⟩ = some (.int .i64 M)) (first | exact ⟨c1, c2⟩ | go_keep) (first | (go_at_call 107; refine (HC.out _).mono ?_; rintro e w5 ⟨rfl, rfl⟩))
          go_wp2_with fail
          first | go_ret2 | skip
          exact HF.out
    · obtain rfl : q = 4 := by omega
      have hkw := (step_of_below hbw).blk HK1.out List.not_mem_nil List.not_mem_nil
      have hk5 := blk_new wr 3 #[.int .i64 h.mode, .int .i64 h.uid, .int .i64 h.gid]
      have hb5 : Below wr.heap.size wr (wr.alloc (.cells #[.int .i64 h.mode, .int .i64 h.uid, .int .i64 h.gid] 3)) := (Below.refl _ _).alloc (Nat.le_refl _) _
      have hkx := (step_of_below hb5).blk hkw List.not_mem_nil List.not_mem_nil
      have HB5 := Lib.hid (HBW.out.trans (hb5.mono HBW.out.size))
      have q3 : wr.cell? ⟨w.heap.size, 3, none⟩ = some (.int .i64 h.mode) := blk_cell hkw 3
      have q8 : wr.cell? ⟨w.heap.size, 8, none⟩ = some (.int .i64 h.uid) := blk_cell hkw 8
      have q9 : wr.cell? ⟨w.heap.size, 9, none⟩ = some (.int .i64 h.gid) := blk_cell hkw 9
      obtain ⟨w5, hw5⟩ : ∃ w5, w5 = wr.alloc (.cells #[.int .i64 h.mode, .int .i64 h.uid, .int .i64 h.gid] 3) := ⟨_, rfl⟩
      rw [← hw5] at hk5 hkx HB5
      have r1 : w5.cell? ⟨w.heap.size, 1, none⟩ = some (.int .i64 h.size) := blk_cell hkx 1
      have r4 : w5.cell? ⟨w.heap.size, 4, none⟩ = some (.int .i64 h.time) := blk_cell hkx 4
      have HR1 := Lib.hid r1
      have HR4 := Lib.hid r4
      have HG5 := Lib.hid (fun (i : Nat) (hi : i < 3) => show w5.cell? ⟨wr.heap.size, i, none⟩ = some (.int .i64 (mayS h i)) from (blk_cell hk5 i).trans (by
        have : i = 0 ∨ i = 1 ∨ i = 2 := by omega
        rcases this with rfl | rfl | rfl <;> rfl))
      have dq : decide (((4 : Nat) : Int) < 4) = false := rfl
      have HW5 := Lib.hid hw5
      clear hbw hkw hk5 hb5 hkx hwj r1 r4 hw5
      go_wp2_with fail
      rw [← HW5.out]
      clear q3 q8 q9
      generalize wr.heap.size = g3 at *
      go_loopw [7] (fun si wx => ∃ p : Nat, si = .int .i64 p ∧ p ≤ 3 ∧ wx = w5 ∧ Hid (∀ i, i < p → smallOk (mayS h i))) (fun si _ => 3 - (intOf si).toNat)
      case atStart => exact ⟨0, rfl, Nat.zero_le _, rfl, Lib.hid fun i hi => absurd hi (Nat.not_lt_zero _)⟩
      case round =>
        obtain ⟨p, rfl, hp, rfl, hI⟩ := hrel
        by_cases e : p < 3
        · have dp : decide ((p : Int) < 3) = true := decide_eq_true (by omega)
          have hpz : (p : Int) < 3 := by omega
          have c5 := HG5.out p e
          have HSO := Lib.hid (show smallOk (mayS h p) ↔ 0 ≤ mayS h p ∧ mayS h p ≤ 2097151 from Iff.rfl)
          have NS := Lib.hid (NOS.out p e)
          have HI3 : Hid (smallOk (mayS h p) → ∀ i, i < p + 1 → smallOk (mayS h i)) := Lib.hid fun hx i hi => by
            by_cases hip : i = p
            · rw [hip]
              exact hx
            · exact hI.out i (by omega)
          generalize mayS h p = V at *
          by_cases v1 : V < 0
          · have f1 : decide (V < 0) = true := decide_eq_true v1
            have HF := Lib.hid (HP.out false _ (NS.out (fun hh => absurd (HSO.out.1 hh).1 (by omega))) HB5.out)
            go_wp2_with fail
            first | go_ret2 | skip
            exact HF.out
          · have f1 : decide (V < 0) = false := decide_eq_false v1
            by_cases v2 : 2097151 < V
            · have f2 : decide (2097151 < V) = true := decide_eq_true v2
              have HF := Lib.hid (HP.out false _ (NS.out (fun hh => absurd (HSO.out.1 hh).2 (by omega))) HB5.out)
              go_wp2_with fail
              first | go_ret2 | skip
              exact HF.out
            · have f2 : decide (2097151 < V) = false := decide_eq_false v2
              have HI2 : Hid (∀ i, i < p + 1 → smallOk (mayS h i)) := Lib.hid (HI3.out (HSO.out.2 ⟨by omega, by omega⟩))
              go_wp2_with fail
              go_roundw
              case rel => exact ⟨p + 1, by go_num, by omega, by first | rfl | trivial, HI2⟩
              case measure => simp [intOf]; omega
        · obtain rfl : p = 3 := by omega
          have dp : decide (((3 : Nat) : Int) < 3) = false := rfl
          have r1 := HR1.out
          have r4 := HR4.out
          by_cases x1 : 0 ≤ h.size
          · have f1 : decide (0 ≤ h.size) = true := decide_eq_true x1
            by_cases x2 : h.size ≤ 8589934591
            · have f2 : decide (h.size ≤ 8589934591) = true := decide_eq_true x2
              by_cases x3 : 0 ≤ h.time
              · have f3 : decide (0 ≤ h.time) = true := decide_eq_true x3
                by_cases x4 : h.time ≤ 8589934591
                · have f4 : decide (h.time ≤ 8589934591) = true := decide_eq_true x4
                  have HF := Lib.hid (HP.out true _ (YES.out hJ.out hI.out ⟨x1, x2⟩ ⟨x3, x4⟩) HB5.out)
                  clear x1 x2 x3 x4
                  go_wp2_with fail
                  first | go_ret2 | skip
                  exact HF.out
                · have f4 : decide (h.time ≤ 8589934591) = false := decide_eq_false x4
                  have HF := Lib.hid (HP.out false _ (NOG.out fun hh => x4 hh.2.2) HB5.out)
                  clear x1 x2 x3 x4
                  go_wp2_with fail
                  first | go_ret2 | skip
                  exact HF.out
              · have f3 : decide (0 ≤ h.time) = false := decide_eq_false x3
                have HF := Lib.hid (HP.out false _ (NOG.out fun hh => x3 hh.2.1) HB5.out)
                clear x1 x2 x3
                go_wp2_with fail
                first | go_ret2 | skip
                exact HF.out
            · have f2 : decide (h.size ≤ 8589934591) = false := decide_eq_false x2
              have HF := Lib.hid (HP.out false _ (NOG.out fun hh => x2 hh.1.2) HB5.out)
              clear x1 x2
              go_wp2_with fail
              first | go_ret2 | skip
              exact HF.out
          · have f1 : decide (0 ≤ h.size) = false := decide_eq_false x1
            have HF := Lib.hid (HP.out false _ (NOG.out fun hh => x1 hh.1.1) HB5.out)
            clear x1
            go_wp2_with fail
            first | go_ret2 | skip
            exact HF.out
set_option maxHeartbeats 6400000 in
set_option maxRecDepth 100000 in
theorem rmay_120 (w : World) (h : HeadP) (hb : HeadB h) (hk : h.kind = 120) : Calls Tryz.prog 94 #[headV h] w fun e w' => e = .returned (.bool (decide (mayA h))) ∧ Below w.heap.size w w' := by
  have HP : Hid (∀ (b : Bool) (w' : World), decide (mayA h) = b → Below w.heap.size w w' → (fun e w' => e = Ending.returned (.bool (decide (mayA h))) ∧ Below w.heap.size w w') (.returned (.bool b)) w') := Lib.hid fun b w' h hb => ⟨by rw [h], hb⟩
  generalize (fun e w' => e = Ending.returned (.bool (decide (mayA h))) ∧ Below w.heap.size w w') = PO at *
  have hv : headV h = .agg #[.string h.path, .int .i64 h.size, .int .u8 h.kind, .int .i64 h.mode, .int .i64 h.time, .string h.link, .string h.user, .string h.group, .int .i64 h.uid, .int .i64 h.gid] := rfl
  rw [hv]
  clear hv
  have HK : Hid (mayK h) := Lib.hid (by unfold mayK; omega)
  have k1 : (((h.kind : Nat) : Int) != 48) = true := by rw [hk]; rfl
  have k2 : (((h.kind : Nat) : Int) != 53) = true := by rw [hk]; rfl
  have k3 : (((h.kind : Nat) : Int) != 120) = false := by rw [hk]; rfl
  clear hk
  have HTX := Lib.hid hb.texts
  have HCT := Lib.hid fun wx i hi => rcutz_any wx (mayT h i) (hb.texts i hi)
  have NOT : Hid (∀ i, i < 4 → ¬ mayOk h i → decide (mayA h) = false) := Lib.hid fun i hi hn => decide_eq_false fun hm => hn (((may_iff h).1 hm).2.1 i hi)
  have NOS : Hid (∀ i, i < 3 → ¬ smallOk (mayS h i) → decide (mayA h) = false) := Lib.hid fun i hi hn => decide_eq_false fun hm => hn (((may_iff h).1 hm).2.2.1 i hi)
  have NOG : Hid (¬ (greatOk h.size ∧ greatOk h.time) → decide (mayA h) = false) := Lib.hid fun hn => decide_eq_false fun hm => hn (((may_iff h).1 hm).2.2.2)
  have YES : Hid ((∀ i, i < 4 → mayOk h i) → (∀ i, i < 3 → smallOk (mayS h i)) → greatOk h.size → greatOk h.time → decide (mayA h) = true) := Lib.hid fun a b c d => decide_eq_true ((may_iff h).2 ⟨HK.out, a, b, c, d⟩)
  clear hb
  go_enter Tryz.func94, Tryz.ntmps94
  go_wp2_with fail
  have hk1 := blk_new w 65 #[.string h.path, .int .i64 h.size, .int .u8 h.kind, .int .i64 h.mode, .int .i64 h.time, .string h.link, .string h.user, .string h.group, .int .i64 h.uid, .int .i64 h.gid]
  have hb1 : Below w.heap.size w (w.alloc (.cells #[.string h.path, .int .i64 h.size, .int .u8 h.kind, .int .i64 h.mode, .int .i64 h.time, .string h.link, .string h.user, .string h.group, .int .i64 h.uid, .int .i64 h.gid] 65)) := (Below.refl _ _).alloc (Nat.le_refl _) _
  have hs1 : (w.alloc (.cells #[.string h.path, .int .i64 h.size, .int .u8 h.kind, .int .i64 h.mode, .int .i64 h.time, .string h.link, .string h.user, .string h.group, .int .i64 h.uid, .int .i64 h.gid] 65)).heap.size = w.heap.size + 1 := by show (w.heap.push _).size = _; exact Array.size_push _
  generalize w.alloc (.cells #[.string h.path, .int .i64 h.size, .int .u8 h.kind, .int .i64 h.mode, .int .i64 h.time, .string h.link, .string h.user, .string h.group, .int .i64 h.uid, .int .i64 h.gid] 65) = w1 at *
  have hk2 := blk_new w1 9 #[.string h.path, .string h.link, .string h.user, .string h.group]
  have hb2 : Below w1.heap.size w1 (w1.alloc (.cells #[.string h.path, .string h.link, .string h.user, .string h.group] 9)) := (Below.refl _ _).alloc (Nat.le_refl _) _
  have hs2 : (w1.alloc (.cells #[.string h.path, .string h.link, .string h.user, .string h.group] 9)).heap.size = w1.heap.size + 1 := by show (w1.heap.push _).size = _; exact Array.size_push _
  generalize w1.alloc (.cells #[.string h.path, .string h.link, .string h.user, .string h.group] 9) = w2 at *
  have hk3 := blk_new w2 3 #[.int .i64 1099511627776, .int .i64 100, .int .i64 31, .int .i64 31]
  have hb3 : Below w2.heap.size w2 (w2.alloc (.cells #[.int .i64 1099511627776, .int .i64 100, .int .i64 31, .int .i64 31] 3)) := (Below.refl _ _).alloc (Nat.le_refl _) _
  generalize w2.alloc (.cells #[.int .i64 1099511627776, .int .i64 100, .int .i64 31, .int .i64 31] 3) = w3 at *
  have hk1 := (step_of_below hb2).blk hk1 List.not_mem_nil List.not_mem_nil
  have hk1 := (step_of_below hb3).blk hk1 List.not_mem_nil List.not_mem_nil
  have hk2 := (step_of_below hb3).blk hk2 List.not_mem_nil List.not_mem_nil
  have HB3 : Hid (Below w.heap.size w w3) := Lib.hid (hb1.trans ((hb2.trans (hb3.mono hb2.size)).mono hb1.size))
  rw [hs1] at hk2 hs2
  rw [hs2] at hk3
  clear hs1 hs2 hb1 hb2 hb3
  generalize w.heap.size + 1 + 1 = g2 at *
  generalize w.heap.size + 1 = g1 at *
  have HG2 := Lib.hid (fun (i : Nat) (hi : i < 4) => show w3.cell? ⟨g1, i, none⟩ = some (.string (mayT h i)) from (blk_cell hk2 i).trans (by
    have : i = 0 ∨ i = 1 ∨ i = 2 ∨ i = 3 := by omega
    rcases this with rfl | rfl | rfl | rfl <;> rfl))
  have HG3 := Lib.hid (fun (i : Nat) (hi : i < 4) => show w3.cell? ⟨g2, i, none⟩ = some (.int .i64 (mayM i)) from (blk_cell hk3 i).trans (by
    have : i = 0 ∨ i = 1 ∨ i = 2 ∨ i = 3 := by omega
    rcases this with rfl | rfl | rfl | rfl <;> rfl))
  have HLT1 := Lib.hid (blk_lt hk2)
  have HLT2 := Lib.hid (blk_lt hk3)
  have HK1 := Lib.hid hk1
  clear hk1 hk2 hk3
  go_loopw [5] (fun si wx => ∃ q j : Nat, si = .int .i64 q ∧ q ≤ 4 ∧ wx = w3.drewN j ∧ Hid (∀ i, i < q → mayOk h i)) (fun si _ => 4 - (intOf si).toNat)
  case atStart => exact ⟨0, 0, rfl, Nat.zero_le _, rfl, Lib.hid fun i hi => absurd hi (Nat.not_lt_zero _)⟩
  case round =>
    obtain ⟨q, j, rfl, hq, hwj, hJ⟩ := hrel
    have hbw := below_drewN (Below.refl w3.heap.size w3) j
    rw [← hwj] at hbw
    have HBW : Hid (Below w.heap.size w wr) := Lib.hid (by rw [hwj]; exact below_drewN HB3.out j)
    by_cases e : q < 4
    · have dq : decide ((q : Int) < 4) = true := decide_eq_true (by omega)
      have hqz : (q : Int) < 4 := by omega
      have c1 : wr.cell? ⟨g1, q, none⟩ = some (.string (mayT h q)) := (hbw.cell (p := ⟨g1, q, none⟩) HLT1.out).trans (HG2.out q e)
      have c2 : wr.cell? ⟨g2, q, none⟩ = some (.int .i64 (mayM q)) := (hbw.cell (p := ⟨g2, q, none⟩) HLT2.out).trans (HG3.out q e)
      have HW := Lib.hid hwj
      have HC := Lib.hid fun wx => HCT.out wx q e
      have HOK := Lib.hid (show mayOk h q ↔ (mayT h q).size ≤ mayM q ∧ cutZ (mayT h q).data.toList = (mayT h q).data.toList from Iff.rfl)
      have hsz := HTX.out q e
      clear hwj hbw
      generalize mayT h q = X at *
      generalize mayM q = M at *
      by_cases e2 : M < X.size
      · have d2 : decide ((M : Int) < (X.size : Int)) = true := decide_eq_true (by omega)
        have HF := Lib.hid (HP.out false wr.drew (NOT.out q e (fun hh => absurd (HOK.out.1 hh).1 (by omega))) HBW.out.drew)
        go_wp2_with fail
        go_region
        go_wp2_with fail
        first | go_ret2 | skip
        exact HF.out
      · have d2 : decide ((M : Int) < (X.size : Int)) = false := decide_eq_false (by omega)
        obtain ⟨E, hE⟩ : ∃ E, E = strF (cutZ X.data.toList) := ⟨_, rfl⟩
        have hcmp : (E.toList == X.toList) = decide (cutZ X.data.toList = X.data.toList) := by rw [fsame, hE, strF_list]
        have HC0 := HC.out
        rw [← hE] at HC0
        have HC := Lib.hid HC0
        clear HC0 hE
        by_cases e3 : cutZ X.data.toList = X.data.toList
        · have d4 : (E.toList == X.toList) = true := by rw [hcmp, decide_eq_true e3]
          have HJ2 : Hid (∀ i, i < q + 1 → mayOk h i) := Lib.hid fun i hi => by
            by_cases hiq : i = q
            · rw [hiq]
              exact HOK.out.2 ⟨by omega, e3⟩
            · exact hJ.out i (by omega)
          clear hcmp e3
          go_upto_region 8 with fail
          go_region_held3 (fun w' => w'.cell? ⟨g1, q, none⟩ = some (.string X) ∧ w'.cell? ⟨g2, q, none⟩ = some (.int .i64 M)) (first | exact ⟨c1, c2⟩ | go_keep) (first | (go_at_call 107; refine (HC.out _).mono ?_; rintro e w5 ⟨rfl, rfl⟩))
          go_wp2_with fail
          go_roundw
          case rel => exact ⟨q + 1, j + 1, by go_num, by omega, by rw [HW.out]; rfl, HJ2⟩
          case measure => simp [intOf]; omega
        · have d4 : (E.toList == X.toList) = false := by rw [hcmp, decide_eq_false e3]
          have HF := Lib.hid (HP.out false wr.drew (NOT.out q e (fun hh => e3 (HOK.out.1 hh).2)) HBW.out.drew)
          clear hcmp e3
          go_upto_region 8 with fail
          go_region_held3 (fun w' => w'.cell? ⟨g1, q, none⟩ = some (.string X) ∧ w'.cell? ⟨g2, q, none⟩ = some (.int .i64 M)) (first | exact ⟨c1, c2⟩ | go_keep) (first | (go_at_call 107; refine (HC.out _).mono ?_; rintro e w5 ⟨rfl, rfl⟩))
          go_wp2_with fail
          first | go_ret2 | skip
          exact HF.out
    · obtain rfl : q = 4 := by omega
      have hkw := (step_of_below hbw).blk HK1.out List.not_mem_nil List.not_mem_nil
      have hk5 := blk_new wr 3 #[.int .i64 h.mode, .int .i64 h.uid, .int .i64 h.gid]
      have hb5 : Below wr.heap.size wr (wr.alloc (.cells #[.int .i64 h.mode, .int .i64 h.uid, .int .i64 h.gid] 3)) := (Below.refl _ _).alloc (Nat.le_refl _) _
      have hkx := (step_of_below hb5).blk hkw List.not_mem_nil List.not_mem_nil
      have HB5 := Lib.hid (HBW.out.trans (hb5.mono HBW.out.size))
      have q3 : wr.cell? ⟨w.heap.size, 3, none⟩ = some (.int .i64 h.mode) := blk_cell hkw 3
      have q8 : wr.cell? ⟨w.heap.size, 8, none⟩ = some (.int .i64 h.uid) := blk_cell hkw 8
      have q9 : wr.cell? ⟨w.heap.size, 9, none⟩ = some (.int .i64 h.gid) := blk_cell hkw 9
      obtain ⟨w5, hw5⟩ : ∃ w5, w5 = wr.alloc (.cells #[.int .i64 h.mode, .int .i64 h.uid, .int .i64 h.gid] 3) := ⟨_, rfl⟩
      rw [← hw5] at hk5 hkx HB5
      have r1 : w5.cell? ⟨w.heap.size, 1, none⟩ = some (.int .i64 h.size) := blk_cell hkx 1
      have r4 : w5.cell? ⟨w.heap.size, 4, none⟩ = some (.int .i64 h.time) := blk_cell hkx 4
      have HR1 := Lib.hid r1
      have HR4 := Lib.hid r4
      have HG5 := Lib.hid (fun (i : Nat) (hi : i < 3) => show w5.cell? ⟨wr.heap.size, i, none⟩ = some (.int .i64 (mayS h i)) from (blk_cell hk5 i).trans (by
        have : i = 0 ∨ i = 1 ∨ i = 2 := by omega
        rcases this with rfl | rfl | rfl <;> rfl))
      have dq : decide (((4 : Nat) : Int) < 4) = false := rfl
      have HW5 := Lib.hid hw5
      clear hbw hkw hk5 hb5 hkx hwj r1 r4 hw5
      go_wp2_with fail
      rw [← HW5.out]
      clear q3 q8 q9
      generalize wr.heap.size = g3 at *
      go_loopw [7] (fun si wx => ∃ p : Nat, si = .int .i64 p ∧ p ≤ 3 ∧ wx = w5 ∧ Hid (∀ i, i < p → smallOk (mayS h i))) (fun si _ => 3 - (intOf si).toNat)
      case atStart => exact ⟨0, rfl, Nat.zero_le _, rfl, Lib.hid fun i hi => absurd hi (Nat.not_lt_zero _)⟩
      case round =>
        obtain ⟨p, rfl, hp, rfl, hI⟩ := hrel
        by_cases e : p < 3
        · have dp : decide ((p : Int) < 3) = true := decide_eq_true (by omega)
          have hpz : (p : Int) < 3 := by omega
          have c5 := HG5.out p e
          have HSO := Lib.hid (show smallOk (mayS h p) ↔ 0 ≤ mayS h p ∧ mayS h p ≤ 2097151 from Iff.rfl)
          have NS := Lib.hid (NOS.out p e)
          have HI3 : Hid (smallOk (mayS h p) → ∀ i, i < p + 1 → smallOk (mayS h i)) := Lib.hid fun hx i hi => by
            by_cases hip : i = p
            · rw [hip]
              exact hx
            · exact hI.out i (by omega)
          generalize mayS h p = V at *
          by_cases v1 : V < 0
          · have f1 : decide (V < 0) = true := decide_eq_true v1
            have HF := Lib.hid (HP.out false _ (NS.out (fun hh => absurd (HSO.out.1 hh).1 (by omega))) HB5.out)
            go_wp2_with fail
            first | go_ret2 | skip
            exact HF.out
          · have f1 : decide (V < 0) = false := decide_eq_false v1
            by_cases v2 : 2097151 < V
            · have f2 : decide (2097151 < V) = true := decide_eq_true v2
              have HF := Lib.hid (HP.out false _ (NS.out (fun hh => absurd (HSO.out.1 hh).2 (by omega))) HB5.out)
              go_wp2_with fail
              first | go_ret2 | skip
              exact HF.out
            · have f2 : decide (2097151 < V) = false := decide_eq_false v2
              have HI2 : Hid (∀ i, i < p + 1 → smallOk (mayS h i)) := Lib.hid (HI3.out (HSO.out.2 ⟨by omega, by omega⟩))
              go_wp2_with fail
              go_roundw
              case rel => exact ⟨p + 1, by go_num, by omega, by first | rfl | trivial, HI2⟩
              case measure => simp [intOf]; omega
        · obtain rfl : p = 3 := by omega
          have dp : decide (((3 : Nat) : Int) < 3) = false := rfl
          have r1 := HR1.out
          have r4 := HR4.out
          by_cases x1 : 0 ≤ h.size
          · have f1 : decide (0 ≤ h.size) = true := decide_eq_true x1
            by_cases x2 : h.size ≤ 8589934591
            · have f2 : decide (h.size ≤ 8589934591) = true := decide_eq_true x2
              by_cases x3 : 0 ≤ h.time
              · have f3 : decide (0 ≤ h.time) = true := decide_eq_true x3
                by_cases x4 : h.time ≤ 8589934591
                · have f4 : decide (h.time ≤ 8589934591) = true := decide_eq_true x4
                  have HF := Lib.hid (HP.out true _ (YES.out hJ.out hI.out ⟨x1, x2⟩ ⟨x3, x4⟩) HB5.out)
                  clear x1 x2 x3 x4
                  go_wp2_with fail
                  first | go_ret2 | skip
                  exact HF.out
                · have f4 : decide (h.time ≤ 8589934591) = false := decide_eq_false x4
                  have HF := Lib.hid (HP.out false _ (NOG.out fun hh => x4 hh.2.2) HB5.out)
                  clear x1 x2 x3 x4
                  go_wp2_with fail
                  first | go_ret2 | skip
                  exact HF.out
              · have f3 : decide (0 ≤ h.time) = false := decide_eq_false x3
                have HF := Lib.hid (HP.out false _ (NOG.out fun hh => x3 hh.2.1) HB5.out)
                clear x1 x2 x3
                go_wp2_with fail
                first | go_ret2 | skip
                exact HF.out
            · have f2 : decide (h.size ≤ 8589934591) = false := decide_eq_false x2
              have HF := Lib.hid (HP.out false _ (NOG.out fun hh => x2 hh.1.2) HB5.out)
              clear x1 x2
              go_wp2_with fail
              first | go_ret2 | skip
              exact HF.out
          · have f1 : decide (0 ≤ h.size) = false := decide_eq_false x1
            have HF := Lib.hid (HP.out false _ (NOG.out fun hh => x1 hh.1.1) HB5.out)
            clear x1
            go_wp2_with fail
            first | go_ret2 | skip
            exact HF.out
set_option maxHeartbeats 6400000 in
set_option maxRecDepth 100000 in
theorem rmay_103 (w : World) (h : HeadP) (hb : HeadB h) (hk : h.kind = 103) : Calls Tryz.prog 94 #[headV h] w fun e w' => e = .returned (.bool (decide (mayA h))) ∧ Below w.heap.size w w' := by
  have HP : Hid (∀ (b : Bool) (w' : World), decide (mayA h) = b → Below w.heap.size w w' → (fun e w' => e = Ending.returned (.bool (decide (mayA h))) ∧ Below w.heap.size w w') (.returned (.bool b)) w') := Lib.hid fun b w' h hb => ⟨by rw [h], hb⟩
  generalize (fun e w' => e = Ending.returned (.bool (decide (mayA h))) ∧ Below w.heap.size w w') = PO at *
  have hv : headV h = .agg #[.string h.path, .int .i64 h.size, .int .u8 h.kind, .int .i64 h.mode, .int .i64 h.time, .string h.link, .string h.user, .string h.group, .int .i64 h.uid, .int .i64 h.gid] := rfl
  rw [hv]
  clear hv
  have HK : Hid (mayK h) := Lib.hid (by unfold mayK; omega)
  have k1 : (((h.kind : Nat) : Int) != 48) = true := by rw [hk]; rfl
  have k2 : (((h.kind : Nat) : Int) != 53) = true := by rw [hk]; rfl
  have k3 : (((h.kind : Nat) : Int) != 120) = true := by rw [hk]; rfl
  have k4 : (((h.kind : Nat) : Int) != 103) = false := by rw [hk]; rfl
  clear hk
  have HTX := Lib.hid hb.texts
  have HCT := Lib.hid fun wx i hi => rcutz_any wx (mayT h i) (hb.texts i hi)
  have NOT : Hid (∀ i, i < 4 → ¬ mayOk h i → decide (mayA h) = false) := Lib.hid fun i hi hn => decide_eq_false fun hm => hn (((may_iff h).1 hm).2.1 i hi)
  have NOS : Hid (∀ i, i < 3 → ¬ smallOk (mayS h i) → decide (mayA h) = false) := Lib.hid fun i hi hn => decide_eq_false fun hm => hn (((may_iff h).1 hm).2.2.1 i hi)
  have NOG : Hid (¬ (greatOk h.size ∧ greatOk h.time) → decide (mayA h) = false) := Lib.hid fun hn => decide_eq_false fun hm => hn (((may_iff h).1 hm).2.2.2)
  have YES : Hid ((∀ i, i < 4 → mayOk h i) → (∀ i, i < 3 → smallOk (mayS h i)) → greatOk h.size → greatOk h.time → decide (mayA h) = true) := Lib.hid fun a b c d => decide_eq_true ((may_iff h).2 ⟨HK.out, a, b, c, d⟩)
  clear hb
  go_enter Tryz.func94, Tryz.ntmps94
  go_wp2_with fail
  have hk1 := blk_new w 65 #[.string h.path, .int .i64 h.size, .int .u8 h.kind, .int .i64 h.mode, .int .i64 h.time, .string h.link, .string h.user, .string h.group, .int .i64 h.uid, .int .i64 h.gid]
  have hb1 : Below w.heap.size w (w.alloc (.cells #[.string h.path, .int .i64 h.size, .int .u8 h.kind, .int .i64 h.mode, .int .i64 h.time, .string h.link, .string h.user, .string h.group, .int .i64 h.uid, .int .i64 h.gid] 65)) := (Below.refl _ _).alloc (Nat.le_refl _) _
  have hs1 : (w.alloc (.cells #[.string h.path, .int .i64 h.size, .int .u8 h.kind, .int .i64 h.mode, .int .i64 h.time, .string h.link, .string h.user, .string h.group, .int .i64 h.uid, .int .i64 h.gid] 65)).heap.size = w.heap.size + 1 := by show (w.heap.push _).size = _; exact Array.size_push _
  generalize w.alloc (.cells #[.string h.path, .int .i64 h.size, .int .u8 h.kind, .int .i64 h.mode, .int .i64 h.time, .string h.link, .string h.user, .string h.group, .int .i64 h.uid, .int .i64 h.gid] 65) = w1 at *
  have hk2 := blk_new w1 9 #[.string h.path, .string h.link, .string h.user, .string h.group]
  have hb2 : Below w1.heap.size w1 (w1.alloc (.cells #[.string h.path, .string h.link, .string h.user, .string h.group] 9)) := (Below.refl _ _).alloc (Nat.le_refl _) _
  have hs2 : (w1.alloc (.cells #[.string h.path, .string h.link, .string h.user, .string h.group] 9)).heap.size = w1.heap.size + 1 := by show (w1.heap.push _).size = _; exact Array.size_push _
  generalize w1.alloc (.cells #[.string h.path, .string h.link, .string h.user, .string h.group] 9) = w2 at *
  have hk3 := blk_new w2 3 #[.int .i64 1099511627776, .int .i64 100, .int .i64 31, .int .i64 31]
  have hb3 : Below w2.heap.size w2 (w2.alloc (.cells #[.int .i64 1099511627776, .int .i64 100, .int .i64 31, .int .i64 31] 3)) := (Below.refl _ _).alloc (Nat.le_refl _) _
  generalize w2.alloc (.cells #[.int .i64 1099511627776, .int .i64 100, .int .i64 31, .int .i64 31] 3) = w3 at *
  have hk1 := (step_of_below hb2).blk hk1 List.not_mem_nil List.not_mem_nil
  have hk1 := (step_of_below hb3).blk hk1 List.not_mem_nil List.not_mem_nil
  have hk2 := (step_of_below hb3).blk hk2 List.not_mem_nil List.not_mem_nil
  have HB3 : Hid (Below w.heap.size w w3) := Lib.hid (hb1.trans ((hb2.trans (hb3.mono hb2.size)).mono hb1.size))
  rw [hs1] at hk2 hs2
  rw [hs2] at hk3
  clear hs1 hs2 hb1 hb2 hb3
  generalize w.heap.size + 1 + 1 = g2 at *
  generalize w.heap.size + 1 = g1 at *
  have HG2 := Lib.hid (fun (i : Nat) (hi : i < 4) => show w3.cell? ⟨g1, i, none⟩ = some (.string (mayT h i)) from (blk_cell hk2 i).trans (by
    have : i = 0 ∨ i = 1 ∨ i = 2 ∨ i = 3 := by omega
    rcases this with rfl | rfl | rfl | rfl <;> rfl))
  have HG3 := Lib.hid (fun (i : Nat) (hi : i < 4) => show w3.cell? ⟨g2, i, none⟩ = some (.int .i64 (mayM i)) from (blk_cell hk3 i).trans (by
    have : i = 0 ∨ i = 1 ∨ i = 2 ∨ i = 3 := by omega
    rcases this with rfl | rfl | rfl | rfl <;> rfl))
  have HLT1 := Lib.hid (blk_lt hk2)
  have HLT2 := Lib.hid (blk_lt hk3)
  have HK1 := Lib.hid hk1
  clear hk1 hk2 hk3
  go_loopw [5] (fun si wx => ∃ q j : Nat, si = .int .i64 q ∧ q ≤ 4 ∧ wx = w3.drewN j ∧ Hid (∀ i, i < q → mayOk h i)) (fun si _ => 4 - (intOf si).toNat)
  case atStart => exact ⟨0, 0, rfl, Nat.zero_le _, rfl, Lib.hid fun i hi => absurd hi (Nat.not_lt_zero _)⟩
  case round =>
    obtain ⟨q, j, rfl, hq, hwj, hJ⟩ := hrel
    have hbw := below_drewN (Below.refl w3.heap.size w3) j
    rw [← hwj] at hbw
    have HBW : Hid (Below w.heap.size w wr) := Lib.hid (by rw [hwj]; exact below_drewN HB3.out j)
    by_cases e : q < 4
    · have dq : decide ((q : Int) < 4) = true := decide_eq_true (by omega)
      have hqz : (q : Int) < 4 := by omega
      have c1 : wr.cell? ⟨g1, q, none⟩ = some (.string (mayT h q)) := (hbw.cell (p := ⟨g1, q, none⟩) HLT1.out).trans (HG2.out q e)
      have c2 : wr.cell? ⟨g2, q, none⟩ = some (.int .i64 (mayM q)) := (hbw.cell (p := ⟨g2, q, none⟩) HLT2.out).trans (HG3.out q e)
      have HW := Lib.hid hwj
      have HC := Lib.hid fun wx => HCT.out wx q e
      have HOK := Lib.hid (show mayOk h q ↔ (mayT h q).size ≤ mayM q ∧ cutZ (mayT h q).data.toList = (mayT h q).data.toList from Iff.rfl)
      have hsz := HTX.out q e
      clear hwj hbw
      generalize mayT h q = X at *
      generalize mayM q = M at *
      by_cases e2 : M < X.size
      · have d2 : decide ((M : Int) < (X.size : Int)) = true := decide_eq_true (by omega)
        have HF := Lib.hid (HP.out false wr.drew (NOT.out q e (fun hh => absurd (HOK.out.1 hh).1 (by omega))) HBW.out.drew)
        go_wp2_with fail
        go_region
        go_wp2_with fail
        first | go_ret2 | skip
        exact HF.out
      · have d2 : decide ((M : Int) < (X.size : Int)) = false := decide_eq_false (by omega)
        obtain ⟨E, hE⟩ : ∃ E, E = strF (cutZ X.data.toList) := ⟨_, rfl⟩
        have hcmp : (E.toList == X.toList) = decide (cutZ X.data.toList = X.data.toList) := by rw [fsame, hE, strF_list]
        have HC0 := HC.out
        rw [← hE] at HC0
        have HC := Lib.hid HC0
        clear HC0 hE
        by_cases e3 : cutZ X.data.toList = X.data.toList
        · have d4 : (E.toList == X.toList) = true := by rw [hcmp, decide_eq_true e3]
          have HJ2 : Hid (∀ i, i < q + 1 → mayOk h i) := Lib.hid fun i hi => by
            by_cases hiq : i = q
            · rw [hiq]
              exact HOK.out.2 ⟨by omega, e3⟩
            · exact hJ.out i (by omega)
          clear hcmp e3
          go_upto_region 8 with fail
          go_region_held3 (fun w' => w'.cell? ⟨g1, q, none⟩ = some (.string X) ∧ w'.cell? ⟨g2, q, none⟩ = some (.int .i64 M)) (first | exact ⟨c1, c2⟩ | go_keep) (first | (go_at_call 107; refine (HC.out _).mono ?_; rintro e w5 ⟨rfl, rfl⟩))
          go_wp2_with fail
          go_roundw
          case rel => exact ⟨q + 1, j + 1, by go_num, by omega, by rw [HW.out]; rfl, HJ2⟩
          case measure => simp [intOf]; omega
        · have d4 : (E.toList == X.toList) = false := by rw [hcmp, decide_eq_false e3]
          have HF := Lib.hid (HP.out false wr.drew (NOT.out q e (fun hh => e3 (HOK.out.1 hh).2)) HBW.out.drew)
          clear hcmp e3
          go_upto_region 8 with fail
          go_region_held3 (fun w' => w'.cell? ⟨g1, q, none⟩ = some (.string X) ∧ w'.cell? ⟨g2, q, none⟩ = some (.int .i64 M)) (first | exact ⟨c1, c2⟩ | go_keep) (first | (go_at_call 107; refine (HC.out _).mono ?_; rintro e w5 ⟨rfl, rfl⟩))
          go_wp2_with fail
          first | go_ret2 | skip
          exact HF.out
    · obtain rfl : q = 4 := by omega
      have hkw := (step_of_below hbw).blk HK1.out List.not_mem_nil List.not_mem_nil
      have hk5 := blk_new wr 3 #[.int .i64 h.mode, .int .i64 h.uid, .int .i64 h.gid]
      have hb5 : Below wr.heap.size wr (wr.alloc (.cells #[.int .i64 h.mode, .int .i64 h.uid, .int .i64 h.gid] 3)) := (Below.refl _ _).alloc (Nat.le_refl _) _
      have hkx := (step_of_below hb5).blk hkw List.not_mem_nil List.not_mem_nil
      have HB5 := Lib.hid (HBW.out.trans (hb5.mono HBW.out.size))
      have q3 : wr.cell? ⟨w.heap.size, 3, none⟩ = some (.int .i64 h.mode) := blk_cell hkw 3
      have q8 : wr.cell? ⟨w.heap.size, 8, none⟩ = some (.int .i64 h.uid) := blk_cell hkw 8
      have q9 : wr.cell? ⟨w.heap.size, 9, none⟩ = some (.int .i64 h.gid) := blk_cell hkw 9
      obtain ⟨w5, hw5⟩ : ∃ w5, w5 = wr.alloc (.cells #[.int .i64 h.mode, .int .i64 h.uid, .int .i64 h.gid] 3) := ⟨_, rfl⟩
      rw [← hw5] at hk5 hkx HB5
      have r1 : w5.cell? ⟨w.heap.size, 1, none⟩ = some (.int .i64 h.size) := blk_cell hkx 1
      have r4 : w5.cell? ⟨w.heap.size, 4, none⟩ = some (.int .i64 h.time) := blk_cell hkx 4
      have HR1 := Lib.hid r1
      have HR4 := Lib.hid r4
      have HG5 := Lib.hid (fun (i : Nat) (hi : i < 3) => show w5.cell? ⟨wr.heap.size, i, none⟩ = some (.int .i64 (mayS h i)) from (blk_cell hk5 i).trans (by
        have : i = 0 ∨ i = 1 ∨ i = 2 := by omega
        rcases this with rfl | rfl | rfl <;> rfl))
      have dq : decide (((4 : Nat) : Int) < 4) = false := rfl
      have HW5 := Lib.hid hw5
      clear hbw hkw hk5 hb5 hkx hwj r1 r4 hw5
      go_wp2_with fail
      rw [← HW5.out]
      clear q3 q8 q9
      generalize wr.heap.size = g3 at *
      go_loopw [7] (fun si wx => ∃ p : Nat, si = .int .i64 p ∧ p ≤ 3 ∧ wx = w5 ∧ Hid (∀ i, i < p → smallOk (mayS h i))) (fun si _ => 3 - (intOf si).toNat)
      case atStart => exact ⟨0, rfl, Nat.zero_le _, rfl, Lib.hid fun i hi => absurd hi (Nat.not_lt_zero _)⟩
      case round =>
        obtain ⟨p, rfl, hp, rfl, hI⟩ := hrel
        by_cases e : p < 3
        · have dp : decide ((p : Int) < 3) = true := decide_eq_true (by omega)
          have hpz : (p : Int) < 3 := by omega
          have c5 := HG5.out p e
          have HSO := Lib.hid (show smallOk (mayS h p) ↔ 0 ≤ mayS h p ∧ mayS h p ≤ 2097151 from Iff.rfl)
          have NS := Lib.hid (NOS.out p e)
          have HI3 : Hid (smallOk (mayS h p) → ∀ i, i < p + 1 → smallOk (mayS h i)) := Lib.hid fun hx i hi => by
            by_cases hip : i = p
            · rw [hip]
              exact hx
            · exact hI.out i (by omega)
          generalize mayS h p = V at *
          by_cases v1 : V < 0
          · have f1 : decide (V < 0) = true := decide_eq_true v1
            have HF := Lib.hid (HP.out false _ (NS.out (fun hh => absurd (HSO.out.1 hh).1 (by omega))) HB5.out)
            go_wp2_with fail
            first | go_ret2 | skip
            exact HF.out
          · have f1 : decide (V < 0) = false := decide_eq_false v1
            by_cases v2 : 2097151 < V
            · have f2 : decide (2097151 < V) = true := decide_eq_true v2
              have HF := Lib.hid (HP.out false _ (NS.out (fun hh => absurd (HSO.out.1 hh).2 (by omega))) HB5.out)
              go_wp2_with fail
              first | go_ret2 | skip
              exact HF.out
            · have f2 : decide (2097151 < V) = false := decide_eq_false v2
              have HI2 : Hid (∀ i, i < p + 1 → smallOk (mayS h i)) := Lib.hid (HI3.out (HSO.out.2 ⟨by omega, by omega⟩))
              go_wp2_with fail
              go_roundw
              case rel => exact ⟨p + 1, by go_num, by omega, by first | rfl | trivial, HI2⟩
              case measure => simp [intOf]; omega
        · obtain rfl : p = 3 := by omega
          have dp : decide (((3 : Nat) : Int) < 3) = false := rfl
          have r1 := HR1.out
          have r4 := HR4.out
          by_cases x1 : 0 ≤ h.size
          · have f1 : decide (0 ≤ h.size) = true := decide_eq_true x1
            by_cases x2 : h.size ≤ 8589934591
            · have f2 : decide (h.size ≤ 8589934591) = true := decide_eq_true x2
              by_cases x3 : 0 ≤ h.time
              · have f3 : decide (0 ≤ h.time) = true := decide_eq_true x3
                by_cases x4 : h.time ≤ 8589934591
                · have f4 : decide (h.time ≤ 8589934591) = true := decide_eq_true x4
                  have HF := Lib.hid (HP.out true _ (YES.out hJ.out hI.out ⟨x1, x2⟩ ⟨x3, x4⟩) HB5.out)
                  clear x1 x2 x3 x4
                  go_wp2_with fail
                  first | go_ret2 | skip
                  exact HF.out
                · have f4 : decide (h.time ≤ 8589934591) = false := decide_eq_false x4
                  have HF := Lib.hid (HP.out false _ (NOG.out fun hh => x4 hh.2.2) HB5.out)
                  clear x1 x2 x3 x4
                  go_wp2_with fail
                  first | go_ret2 | skip
                  exact HF.out
              · have f3 : decide (0 ≤ h.time) = false := decide_eq_false x3
                have HF := Lib.hid (HP.out false _ (NOG.out fun hh => x3 hh.2.1) HB5.out)
                clear x1 x2 x3
                go_wp2_with fail
                first | go_ret2 | skip
                exact HF.out
            · have f2 : decide (h.size ≤ 8589934591) = false := decide_eq_false x2
              have HF := Lib.hid (HP.out false _ (NOG.out fun hh => x2 hh.1.2) HB5.out)
              clear x1 x2
              go_wp2_with fail
              first | go_ret2 | skip
              exact HF.out
          · have f1 : decide (0 ≤ h.size) = false := decide_eq_false x1
            have HF := Lib.hid (HP.out false _ (NOG.out fun hh => x1 hh.1.1) HB5.out)
            clear x1
            go_wp2_with fail
            first | go_ret2 | skip
            exact HF.out
set_option maxRecDepth 100000 in
theorem rmay_any (w : World) (h : HeadP) (hb : HeadB h) : Calls Tryz.prog 94 #[headV h] w fun e w' => e = .returned (.bool (decide (mayA h))) ∧ Below w.heap.size w w' := by
  by_cases hk : mayK h
  · rcases hk with hk | hk | hk | hk
    · exact rmay_48 w h hb hk
    · exact rmay_53 w h hb hk
    · exact rmay_120 w h hb hk
    · exact rmay_103 w h hb hk
  · exact rmay_not w h hb hk
end Go.Proofs.YtdjmfkodjjjhfaaGreatDoor
