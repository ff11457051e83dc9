/- Ustar: the reference's Encode. Written ahead of stage 16. -/
import Derived.Test.YtdjmfkodjjjhfaaGreatDoorUsc
namespace Go.Proofs.YtdjmfkodjjjhfaaGreatDoor
open Go.RowKit

theorem wpAnyH_imp {P : Program} {md : Region.Mode} {ops : Array Oper} {Q : Exit → Act → World → Prop} {S S' : World → Prop} (h : ∀ w, S w → S' w) : ∀ (fuel : Nat) (listed : Array Bool) (a : Act) (w : World), wpAnyH P md ops Q S fuel listed a w → wpAnyH P md ops Q S' fuel listed a w
  | 0, _, _, _, k => k
  | fuel + 1, _, _, _, k => ⟨k.1, fun i hi => wpOp_mono (fun a' w' h' => ⟨h _ h'.1, wpAnyH_imp h fuel _ a' w' h'.2⟩) (k.2 i hi)⟩
set_option maxHeartbeats 6400000 in
set_option maxRecDepth 100000 in
theorem renc16_any (w : World) (h : HeadP) (hb : HeadB h) : Calls Tryz.prog 57 #[headV h] w fun e w' => e = .returned (.tuple #[.string (strP (encA h).1), .int .i64 (encA h).2]) ∧ Below w.heap.size w w' := by
  have HP : Hid (∀ (X : List UInt8) (k : Nat) (w' : World), encA h = (X, k) → Below w.heap.size w w' → (fun e w' => e = Ending.returned (.tuple #[.string (strP (encA h).1), .int .i64 (encA h).2]) ∧ Below w.heap.size w w') (.returned (.tuple #[.string (strP X), .int .i64 k])) w') := Lib.hid fun X k w' h hb => ⟨by rw [h], hb⟩
  generalize (fun e w' => e = Ending.returned (.tuple #[.string (strP (encA h).1), .int .i64 (encA h).2]) ∧ Below w.heap.size w w') = PO at *
  have hv : headV h = .agg #[.string h.path, .int .i64 h.size, .int .u8 h.kind, .int .i64 h.mode, .int .i64 h.time, .string h.link, .string h.user, .string h.group, .int .i64 h.uid, .int .i64 h.gid] := rfl
  have HS := Lib.hid fun wx => rsplit_any wx h.path (hb.texts 0 (by omega))
  have HM := Lib.hid fun wx => rmay_any wx h hb
  rw [hv] at HM ⊢
  have hb1 : Below w.heap.size w (w.alloc (.cells #[.string h.path, .int .i64 h.size, .int .u8 h.kind, .int .i64 h.mode, .int .i64 h.time, .string h.link, .string h.user, .string h.group, .int .i64 h.uid, .int .i64 h.gid] 65)) := (Below.refl _ _).alloc (Nat.le_refl _) _
  have hk1 := blk_new w 65 #[.string h.path, .int .i64 h.size, .int .u8 h.kind, .int .i64 h.mode, .int .i64 h.time, .string h.link, .string h.user, .string h.group, .int .i64 h.uid, .int .i64 h.gid]
  have HB1 := Lib.hid hb1
  have HK1 := Lib.hid hk1
  have HENC := Lib.hid (show encA h = if (splitL h.path.data.toList).2.2 = false ∨ h.path.data.toList = [] then ([], 140) else if ¬ mayA h then ([], 160) else (headL h (splitL h.path.data.toList).1 (splitL h.path.data.toList).2.1, 0) from rfl)
  have HF : Hid (mayA h → splitL h.path.data.toList = ((splitL h.path.data.toList).1, (splitL h.path.data.toList).2.1, true) → Fits h (splitL h.path.data.toList).1 (splitL h.path.data.toList).2.1) := Lib.hid fun hm hs => fits_of h hm _ _ hs
  have hpe : h.path.toList.isEmpty = decide (h.path.data.toList = []) := by
    rw [ByteArray.toList_eq]
    cases h.path.data.toList <;> rfl
  have HPE := Lib.hid hpe
  generalize splitL h.path.data.toList = ans at *
  obtain ⟨pre, name, ok⟩ := ans
  dsimp only at HS HENC HF
  clear hb hb1 hk1 hv hpe
  go_enter Tryz.func57, Tryz.ntmps57
  go_wp2_with fail
  refine (HS.out _).mono ?_
  rintro e w2 ⟨rfl, hb2⟩
  have hk2 := (step_of_below hb2).blk HK1.out List.not_mem_nil List.not_mem_nil
  have HB2 : Hid (Below w.heap.size w w2) := Lib.hid (HB1.out.trans (hb2.mono HB1.out.size))
  have c0 : w2.cell? ⟨w.heap.size, 0, none⟩ = some (.string h.path) := blk_cell hk2 0
  have c1 : w2.cell? ⟨w.heap.size, 1, none⟩ = some (.int .i64 h.size) := blk_cell hk2 1
  have c2 : w2.cell? ⟨w.heap.size, 2, none⟩ = some (.int .u8 h.kind) := blk_cell hk2 2
  have c3 : w2.cell? ⟨w.heap.size, 3, none⟩ = some (.int .i64 h.mode) := blk_cell hk2 3
  have c4 : w2.cell? ⟨w.heap.size, 4, none⟩ = some (.int .i64 h.time) := blk_cell hk2 4
  have c5 : w2.cell? ⟨w.heap.size, 5, none⟩ = some (.string h.link) := blk_cell hk2 5
  have c6 : w2.cell? ⟨w.heap.size, 6, none⟩ = some (.string h.user) := blk_cell hk2 6
  have c7 : w2.cell? ⟨w.heap.size, 7, none⟩ = some (.string h.group) := blk_cell hk2 7
  have c8 : w2.cell? ⟨w.heap.size, 8, none⟩ = some (.int .i64 h.uid) := blk_cell hk2 8
  have c9 : w2.cell? ⟨w.heap.size, 9, none⟩ = some (.int .i64 h.gid) := blk_cell hk2 9
  have HK2 := Lib.hid hk2
  clear hb2 hk2 HS HK1 HB1
  have hn : ((⟨#[]⟩ : ByteArray)) = strP [] := rfl
  cases ok
  · have HG := Lib.hid (HP.out [] 140 w2 (by rw [HENC.out, if_pos (.inl rfl)]) HB2.out)
    clear hn
    go_wp2_with fail
    exact HG.out
  by_cases ep : h.path.data.toList = []
  · have d0 : h.path.toList.isEmpty = true := by rw [HPE.out]; exact decide_eq_true ep
    have HG := Lib.hid (HP.out [] 140 w2 (by rw [HENC.out, if_pos (.inr ep)]) HB2.out)
    clear hn ep
    go_wp2_with fail
    exact HG.out
  have d0 : h.path.toList.isEmpty = false := by rw [HPE.out]; exact decide_eq_false ep
  have HEP := Lib.hid ep
  clear hn ep
  go_wp2_with fail
  refine (HM.out _).mono ?_
  rintro e w3 ⟨rfl, hb3⟩
  have hk3 := (step_of_below hb3).blk HK2.out List.not_mem_nil List.not_mem_nil
  have HB3 : Hid (Below w.heap.size w w3) := Lib.hid (HB2.out.trans (hb3.mono HB2.out.size))
  have q0 : w3.cell? ⟨w.heap.size, 0, none⟩ = some (.string h.path) := blk_cell hk3 0
  have q1 : w3.cell? ⟨w.heap.size, 1, none⟩ = some (.int .i64 h.size) := blk_cell hk3 1
  have q2 : w3.cell? ⟨w.heap.size, 2, none⟩ = some (.int .u8 h.kind) := blk_cell hk3 2
  have q3 : w3.cell? ⟨w.heap.size, 3, none⟩ = some (.int .i64 h.mode) := blk_cell hk3 3
  have q4 : w3.cell? ⟨w.heap.size, 4, none⟩ = some (.int .i64 h.time) := blk_cell hk3 4
  have q5 : w3.cell? ⟨w.heap.size, 5, none⟩ = some (.string h.link) := blk_cell hk3 5
  have q6 : w3.cell? ⟨w.heap.size, 6, none⟩ = some (.string h.user) := blk_cell hk3 6
  have q7 : w3.cell? ⟨w.heap.size, 7, none⟩ = some (.string h.group) := blk_cell hk3 7
  have q8 : w3.cell? ⟨w.heap.size, 8, none⟩ = some (.int .i64 h.uid) := blk_cell hk3 8
  have q9 : w3.cell? ⟨w.heap.size, 9, none⟩ = some (.int .i64 h.gid) := blk_cell hk3 9
  clear hb3 hk3 HK2 HM HB2 c0 c1 c2 c3 c4 c5 c6 c7 c8 c9
  by_cases hm : ¬ mayA h
  · have HG := Lib.hid (HP.out [] 160 w3 (by rw [HENC.out, if_neg (fun e => e.elim (fun e => Bool.noConfusion e) HEP.out), if_pos hm]) HB3.out)
    rw [decide_eq_false hm]
    clear hm
    go_wp2_with fail
    exact HG.out
  have hm := Decidable.not_not.1 hm
  rw [decide_eq_true hm]
  have F := HF.out hm trivial
  have L := head_laid F blanks rfl
  have HENC2 := Lib.hid (HENC.out.trans (by rw [if_neg (fun e => e.elim (fun e => Bool.noConfusion e) HEP.out), if_neg (fun e => e hm)]))
  obtain ⟨_, _, hli, hu, hg, s1, s2, s3, g1, g2⟩ := hm
  unfold smallOk at s1 s2 s3
  unfold greatOk at g1 g2
  have H0 : Hid (∀ wx, Calls Tryz.prog 95 #[.string (strP name), .int .i64 100] wx fun e w' => e = .returned (.string (strP (tW name 100))) ∧ w' = wx) := Lib.hid fun wx => rlaid_any wx (strP name) 100 (by have := F.nl; show name.length ≤ _; omega) (by omega) (by omega)
  have H1 : Hid (∀ wx, Calls Tryz.prog 96 #[.int .i64 h.mode, .int .i64 8] wx fun e w' => e = .returned (.string (strP (oW h.mode 8))) ∧ w' = wx) := Lib.hid fun wx => rnumber16_any wx h.mode 8 (by omega) (by omega) (by omega) (by omega)
  have H2 : Hid (∀ wx, Calls Tryz.prog 96 #[.int .i64 h.uid, .int .i64 8] wx fun e w' => e = .returned (.string (strP (oW h.uid 8))) ∧ w' = wx) := Lib.hid fun wx => rnumber16_any wx h.uid 8 (by omega) (by omega) (by omega) (by omega)
  have H3 : Hid (∀ wx, Calls Tryz.prog 96 #[.int .i64 h.gid, .int .i64 8] wx fun e w' => e = .returned (.string (strP (oW h.gid 8))) ∧ w' = wx) := Lib.hid fun wx => rnumber16_any wx h.gid 8 (by omega) (by omega) (by omega) (by omega)
  have H4 : Hid (∀ wx, Calls Tryz.prog 96 #[.int .i64 h.size, .int .i64 12] wx fun e w' => e = .returned (.string (strP (oW h.size 12))) ∧ w' = wx) := Lib.hid fun wx => rnumber16_any wx h.size 12 (by omega) (by omega) (by omega) (by omega)
  have H5 : Hid (∀ wx, Calls Tryz.prog 96 #[.int .i64 h.time, .int .i64 12] wx fun e w' => e = .returned (.string (strP (oW h.time 12))) ∧ w' = wx) := Lib.hid fun wx => rnumber16_any wx h.time 12 (by omega) (by omega) (by omega) (by omega)
  have H6 : Hid (∀ wx, Calls Tryz.prog 95 #[.string h.link, .int .i64 100] wx fun e w' => e = .returned (.string (strP (tW h.link.data.toList 100))) ∧ w' = wx) := Lib.hid fun wx => rlaid_any wx h.link 100 (by omega) (by omega) (by omega)
  have H7 : Hid (∀ wx, Calls Tryz.prog 95 #[.string h.user, .int .i64 32] wx fun e w' => e = .returned (.string (strP (tW h.user.data.toList 32))) ∧ w' = wx) := Lib.hid fun wx => rlaid_any wx h.user 32 (by omega) (by omega) (by omega)
  have H8 : Hid (∀ wx, Calls Tryz.prog 95 #[.string h.group, .int .i64 32] wx fun e w' => e = .returned (.string (strP (tW h.group.data.toList 32))) ∧ w' = wx) := Lib.hid fun wx => rlaid_any wx h.group 32 (by omega) (by omega) (by omega)
  have H9 : Hid (∀ wx, Calls Tryz.prog 96 #[.int .i64 0, .int .i64 8] wx fun e w' => e = .returned (.string (strP (oW 0 8))) ∧ w' = wx) := Lib.hid fun wx => rnumber16_any wx 0 8 (by omega) (by omega) (by omega) (by omega)
  have H10 : Hid (∀ wx, Calls Tryz.prog 95 #[.string (strP pre), .int .i64 155] wx fun e w' => e = .returned (.string (strP (tW pre 155))) ∧ w' = wx) := Lib.hid fun wx => rlaid_any wx (strP pre) 155 (by have := F.pl; show pre.length ≤ _; omega) (by omega) (by omega)
  have H11 : Hid (∀ wx, Calls Tryz.prog 95 #[.string ⟨#[]⟩, .int .i64 12] wx fun e w' => e = .returned (.string (strP (tW [] 12))) ∧ w' = wx) := Lib.hid fun wx => rlaid_any wx ⟨#[]⟩ 12 (by decide) (by omega) (by omega)
  have HSM := Lib.hid (head_sum F)
  have HRAW : Hid (strP (rawL h pre name) = strP (tW name 100) ++ strP (oW h.mode 8) ++ strP (oW h.uid 8) ++ strP (oW h.gid 8) ++ strP (oW h.size 12) ++ strP (oW h.time 12) ++ ⟨#[32, 32, 32, 32, 32, 32, 32, 32]⟩ ++ ⟨#[UInt8.ofNat h.kind]⟩ ++ strP (tW h.link.data.toList 100) ++ ⟨#[117, 115, 116, 97, 114, 0, 48, 48]⟩ ++ strP (tW h.user.data.toList 32) ++ strP (tW h.group.data.toList 32) ++ strP (oW 0 8) ++ strP (oW 0 8) ++ strP (tW pre 155) ++ strP (tW [] 12)) := Lib.hid (by
    rw [show (⟨#[32, 32, 32, 32, 32, 32, 32, 32]⟩ : ByteArray) = strP blanks from rfl, show (⟨#[UInt8.ofNat h.kind]⟩ : ByteArray) = strP [UInt8.ofNat h.kind] from rfl, show (⟨#[117, 115, 116, 97, 114, 0, 48, 48]⟩ : ByteArray) = strP ustarL from rfl]
    simp only [strP_app]
    congr 1
    unfold rawL aheadL behindL
    simp only [List.append_assoc, List.cons_append, List.nil_append])
  have l0 : (strP (tW name 100)).size = 100 := L.lN
  have l1 : (strP (oW h.mode 8)).size = 8 := L.lM
  have l2 : (strP (oW h.uid 8)).size = 8 := L.lU
  have l3 : (strP (oW h.gid 8)).size = 8 := L.lG
  have l4 : (strP (oW h.size 12)).size = 12 := L.lS
  have l5 : (strP (oW h.time 12)).size = 12 := L.lT
  have l6 : (strP (tW h.link.data.toList 100)).size = 100 := L.lL
  have l7 : (strP (tW h.user.data.toList 32)).size = 32 := L.lV
  have l8 : (strP (tW h.group.data.toList 32)).size = 32 := L.lW
  have l9 : (strP (oW 0 8)).size = 8 := L.lD
  have l10 : (strP (tW pre 155)).size = 155 := L.lP
  have l11 : (strP (tW [] 12)).size = 12 := L.lZ
  have HLN := Lib.hid L.len
  have ha148 : (aheadL h name).length = 148 := by
    unfold aheadL
    simp only [List.length_append, L.lN, L.lM, L.lU, L.lG, L.lS, L.lT]
  have HHD : Hid (∀ R : ByteArray, R = strP (rawL h pre name) → R.size = 512 ∧ strP (headL h pre name) = R.extract 0 148 ++ strP (oW ((sumA (rawL h pre name)).1 : Nat) 7) ++ ⟨#[32]⟩ ++ R.extract 156 R.size) := Lib.hid fun R hR => by
    subst hR
    refine ⟨L.len, ?_⟩
    rw [show (strP (rawL h pre name)).extract 0 148 = strP (aheadL h name) from ?_, show (strP (rawL h pre name)).extract 156 (strP (rawL h pre name)).size = strP (behindL h pre) from ?_, show (⟨#[32]⟩ : ByteArray) = strP [32] from rfl]
    · simp only [strP_app]
      congr 1
      unfold headL
      simp only [List.append_assoc, List.cons_append, List.nil_append]
    · apply ByteArray.ext
      apply Array.toList_inj.1
      rw [ext_list]
      have hl : (rawL h pre name).length = 512 := L.len
      rw [show (strP (rawL h pre name)).data.toList = rawL h pre name from rfl, show (strP (rawL h pre name)).size = (rawL h pre name).length from rfl, List.take_of_length_le (Nat.le_refl _)]
      show List.drop 156 (aheadL h name ++ (blanks ++ behindL h pre)) = behindL h pre
      rw [← List.append_assoc, List.drop_append_of_le_length (by rw [List.length_append, ha148]; exact Nat.le_refl _), List.drop_of_length_le (by rw [List.length_append, ha148]; exact Nat.le_refl _), List.nil_append]
    · apply ByteArray.ext
      apply Array.toList_inj.1
      rw [ext_list, List.drop_zero]
      show List.take 148 (aheadL h name ++ (blanks ++ behindL h pre)) = aheadL h name
      rw [List.take_append_of_le_length (by rw [ha148]; exact Nat.le_refl _), List.take_of_length_le (by rw [ha148]; exact Nat.le_refl _)]
  clear ha148
  clear L F
  generalize strP (tW name 100) = T0 at *
  generalize strP (oW h.mode 8) = T1 at *
  generalize strP (oW h.uid 8) = T2 at *
  generalize strP (oW h.gid 8) = T3 at *
  generalize strP (oW h.size 12) = T4 at *
  generalize strP (oW h.time 12) = T5 at *
  generalize strP (tW h.link.data.toList 100) = T6 at *
  generalize strP (tW h.user.data.toList 32) = T7 at *
  generalize strP (tW h.group.data.toList 32) = T8 at *
  generalize strP (oW 0 8) = T9 at *
  generalize strP (tW pre 155) = T10 at *
  generalize strP (tW [] 12) = T11 at *
  obtain ⟨A1, hA1⟩ : ∃ A1, A1 = T0 ++ T1 ++ T2 ++ T3 ++ T4 ++ T5 := ⟨_, rfl⟩
  have m1 : (T0 ++ T1).size = 108 := by rw [ByteArray.size_append]; omega
  have m2 : (T0 ++ T1 ++ T2).size = 116 := by rw [ByteArray.size_append]; omega
  have m3 : (T0 ++ T1 ++ T2 ++ T3).size = 124 := by rw [ByteArray.size_append]; omega
  have m4 : (T0 ++ T1 ++ T2 ++ T3 ++ T4).size = 136 := by rw [ByteArray.size_append]; omega
  have m5 : A1.size = 148 := by rw [hA1, ByteArray.size_append]; omega
  have HA1 := Lib.hid hA1
  clear hA1
  go_wp2_with fail
  go_quiet (first
    | (go_at_call 95; exact Calls.quiet_of_same (H0.out _))
    | (go_at_call_of 96 (Value.int .i64 h.mode); exact Calls.quiet_of_same (H1.out _))
    | (go_at_call_of 96 (Value.int .i64 h.uid); exact Calls.quiet_of_same (H2.out _))
    | (go_at_call_of 96 (Value.int .i64 h.gid); exact Calls.quiet_of_same (H3.out _))
    | (go_at_call_of 96 (Value.int .i64 h.size); exact Calls.quiet_of_same (H4.out _))
    | (go_at_call_of 96 (Value.int .i64 h.time); exact Calls.quiet_of_same (H5.out _)))
  go_wp2_with fail
  rw [← HA1.out]
  clear m1 m2 m3 m4
  clear q0 q1 q3 q4 q8 q9
  have hbyte : ∀ (w1 : World) (g : Nat), w1.cell? ⟨g, 0, none⟩ = some (.int .u8 h.kind) → (convert 80 9 (.slice (some ⟨g, 0, none⟩) 1 1)).run Tryz.prog w1 = .ok (.string ⟨#[UInt8.ofNat h.kind]⟩) w1 := by
    intro w1 g hc
    have := run_convert_bytes_arg (P := Tryz.prog) w1 80 5 Tryz.underlying80 Tryz.underlying5 g 0 1 1 [(h.kind : Int)] rfl (fun i hi => by
      obtain rfl : i = 0 := by omega
      exact hc) 9 Tryz.underlying9
    exact this
  have HBY := Lib.hid hbyte
  clear hbyte
  have HKD := Lib.hid (show Below w.heap.size w (w3.drewN nq) from below_drewN HB3.out nq)
  have r2 : (w3.drewN nq).cell? ⟨w.heap.size, 2, none⟩ = some (.int .u8 h.kind) := q2
  have r5 : (w3.drewN nq).cell? ⟨w.heap.size, 5, none⟩ = some (.string h.link) := q5
  have r6 : (w3.drewN nq).cell? ⟨w.heap.size, 6, none⟩ = some (.string h.user) := q6
  have r7 : (w3.drewN nq).cell? ⟨w.heap.size, 7, none⟩ = some (.string h.group) := q7
  clear q2 q5 q6 q7 H0 H1 H2 H3 H4 H5 l0 l1 l2 l3 l4 l5 s1 s2 s3 g1 g2
  generalize w3.drewN nq = w4 at *
  have hli2 : h.link.size ≤ 100 := hli.1
  obtain ⟨A2, hA2⟩ : ∃ A2, A2 = A1 ++ ⟨#[32, 32, 32, 32, 32, 32, 32, 32]⟩ ++ ⟨#[UInt8.ofNat h.kind]⟩ ++ T6 ++ ⟨#[117, 115, 116, 97, 114, 0, 48, 48]⟩ ++ T7 ++ T8 := ⟨_, rfl⟩
  have n1 : (A1 ++ (⟨#[32, 32, 32, 32, 32, 32, 32, 32]⟩ : ByteArray)).size = 156 := by rw [ByteArray.size_append, m5]; rfl
  have n2 : (A1 ++ (⟨#[32, 32, 32, 32, 32, 32, 32, 32]⟩ : ByteArray) ++ (⟨#[UInt8.ofNat h.kind]⟩ : ByteArray)).size = 157 := by rw [ByteArray.size_append, n1]; rfl
  have n3 : (A1 ++ (⟨#[32, 32, 32, 32, 32, 32, 32, 32]⟩ : ByteArray) ++ (⟨#[UInt8.ofNat h.kind]⟩ : ByteArray) ++ T6).size = 257 := by rw [ByteArray.size_append, n2, l6]
  have n4 : (A1 ++ (⟨#[32, 32, 32, 32, 32, 32, 32, 32]⟩ : ByteArray) ++ (⟨#[UInt8.ofNat h.kind]⟩ : ByteArray) ++ T6 ++ (⟨#[117, 115, 116, 97, 114, 0, 48, 48]⟩ : ByteArray)).size = 265 := by rw [ByteArray.size_append, n3]; rfl
  have n5 : (A1 ++ (⟨#[32, 32, 32, 32, 32, 32, 32, 32]⟩ : ByteArray) ++ (⟨#[UInt8.ofNat h.kind]⟩ : ByteArray) ++ T6 ++ (⟨#[117, 115, 116, 97, 114, 0, 48, 48]⟩ : ByteArray) ++ T7).size = 297 := by rw [ByteArray.size_append, n4, l7]
  have n6 : A2.size = 329 := by rw [hA2, ByteArray.size_append, n5, l8]
  have HA2 := Lib.hid hA2
  have hal := fun i v (hc : w4.cell? ⟨w.heap.size, i, none⟩ = some v) => (((Below.refl w4.heap.size w4).alloc (Nat.le_refl _) (.cells #[.int .u8 h.kind] 5)).cell (p := ⟨w.heap.size, i, none⟩) (World.block_lt_of_cell? w4 _ hc)).trans hc
  have t0 : (w4.alloc (.cells #[.int .u8 h.kind] 5)).drew.cell? ⟨w4.heap.size, 0, none⟩ = some (.int .u8 h.kind) := by
    show (w4.alloc _).cell? ⟨w4.heap.size, 0, none⟩ = _
    rw [World.cell?_alloc_new]
    rfl
  have t2 : (w4.alloc (.cells #[.int .u8 h.kind] 5)).drew.cell? ⟨w.heap.size, 2, none⟩ = some (.int .u8 h.kind) := hal 2 _ r2
  have t5 : (w4.alloc (.cells #[.int .u8 h.kind] 5)).drew.cell? ⟨w.heap.size, 5, none⟩ = some (.string h.link) := hal 5 _ r5
  have t6 : (w4.alloc (.cells #[.int .u8 h.kind] 5)).drew.cell? ⟨w.heap.size, 6, none⟩ = some (.string h.user) := hal 6 _ r6
  have t7 : (w4.alloc (.cells #[.int .u8 h.kind] 5)).drew.cell? ⟨w.heap.size, 7, none⟩ = some (.string h.group) := hal 7 _ r7
  have HB4 : Hid (Below w.heap.size w (w4.alloc (.cells #[.int .u8 h.kind] 5)).drew) := Lib.hid (HKD.out.alloc HKD.out.size _).drew
  clear hal
  clear hA2 hli hu hg hm
  go_upto_region 7 with fail
  go_cut [7] (fun s7 wx => s7 = .string A2 ∧ wx = (w4.alloc (.cells #[.int .u8 h.kind] 5)).drew)
  case first =>
    refine wp_region_held_drew (S := (fun w' => w'.cell? ⟨w.heap.size, 2, none⟩ = some (.int .u8 h.kind) ∧ w'.cell? ⟨w.heap.size, 5, none⟩ = some (.string h.link) ∧ w'.cell? ⟨w.heap.size, 6, none⟩ = some (.string h.user) ∧ w'.cell? ⟨w.heap.size, 7, none⟩ = some (.string h.group))) (by kernel_rfl) ⟨r2, r5, r6, r7⟩ (fun hHeld => ?_)
    refine wpAnyH_take (i := 0) (v := .string A1) rfl (by kernel_rfl) (by kernel_rfl) (by kernel_rfl) (fun _ _ _ h => h) (Or.inl ⟨by rfl, fun wq _ => by go_simp⟩) (by assumption) ?_
    (try simp only [List.getElem_toArray, List.getElem_cons_zero, Act.put, List.setIfInBounds_toArray, List.set_cons_zero, List.set_cons_succ])
    refine wpAnyH_take (i := 1) (v := .string (A1 ++ (⟨#[32, 32, 32, 32, 32, 32, 32, 32]⟩ : ByteArray))) rfl (by kernel_rfl) (by kernel_rfl) (by kernel_rfl) (fun _ _ _ h => h) (Or.inl ⟨by rfl, fun wq _ => by go_simp⟩) (by assumption) ?_
    (try simp only [List.getElem_toArray, List.getElem_cons_succ, List.getElem_cons_zero, Act.put, List.setIfInBounds_toArray, List.set_cons_zero, List.set_cons_succ])
    refine wpAnyH_take (i := 2) (v := .pointer (some ⟨w.heap.size, 2, none⟩)) rfl (by kernel_rfl) (by kernel_rfl) (by kernel_rfl) (fun _ _ _ h => h) (Or.inl ⟨by rfl, fun wq _ => by go_simp⟩) (by assumption) ?_
    (try simp only [List.getElem_toArray, List.getElem_cons_succ, List.getElem_cons_zero, Act.put, List.setIfInBounds_toArray, List.set_cons_zero, List.set_cons_succ])
    refine wpAnyH_take (i := 3) (v := .int .u8 h.kind) rfl (by kernel_rfl) (by kernel_rfl) (by kernel_rfl) (fun _ _ _ h => h) (Or.inl ⟨by rfl, fun wq hSw => by (try dsimp only at hSw); obtain ⟨s2, s5, s6, s7⟩ := hSw; go_simp⟩) (by assumption) ?_
    (try simp only [List.getElem_toArray, List.getElem_cons_succ, List.getElem_cons_zero, Act.put, List.setIfInBounds_toArray, List.set_cons_zero, List.set_cons_succ])
    refine wpAnyH_take (i := 7) (v := .pointer (some ⟨w.heap.size, 5, none⟩)) rfl (by kernel_rfl) (by kernel_rfl) (by kernel_rfl) (fun _ _ _ h => h) (Or.inl ⟨by rfl, fun wq _ => by go_simp⟩) (by assumption) ?_
    (try simp only [List.getElem_toArray, List.getElem_cons_succ, List.getElem_cons_zero, Act.put, List.setIfInBounds_toArray, List.set_cons_zero, List.set_cons_succ])
    refine wpAnyH_take (i := 8) (v := .string h.link) rfl (by kernel_rfl) (by kernel_rfl) (by kernel_rfl) (fun _ _ _ h => h) (Or.inl ⟨by rfl, fun wq hSw => by (try dsimp only at hSw); obtain ⟨s2, s5, s6, s7⟩ := hSw; go_simp⟩) (by assumption) ?_
    (try simp only [List.getElem_toArray, List.getElem_cons_succ, List.getElem_cons_zero, Act.put, List.setIfInBounds_toArray, List.set_cons_zero, List.set_cons_succ])
    refine wpAnyH_take (i := 12) (v := .pointer (some ⟨w.heap.size, 6, none⟩)) rfl (by kernel_rfl) (by kernel_rfl) (by kernel_rfl) (fun _ _ _ h => h) (Or.inl ⟨by rfl, fun wq _ => by go_simp⟩) (by assumption) ?_
    (try simp only [List.getElem_toArray, List.getElem_cons_succ, List.getElem_cons_zero, Act.put, List.setIfInBounds_toArray, List.set_cons_zero, List.set_cons_succ])
    refine wpAnyH_take (i := 13) (v := .pointer (some ⟨w.heap.size, 6, none⟩)) rfl (by kernel_rfl) (by kernel_rfl) (by kernel_rfl) (fun _ _ _ h => h) (Or.inl ⟨by rfl, fun wq _ => by go_simp⟩) (by assumption) ?_
    (try simp only [List.getElem_toArray, List.getElem_cons_succ, List.getElem_cons_zero, Act.put, List.setIfInBounds_toArray, List.set_cons_zero, List.set_cons_succ])
    refine wpAnyH_take (i := 14) (v := .string h.user) rfl (by kernel_rfl) (by kernel_rfl) (by kernel_rfl) (fun _ _ _ h => h) (Or.inl ⟨by rfl, fun wq hSw => by (try dsimp only at hSw); obtain ⟨s2, s5, s6, s7⟩ := hSw; go_simp⟩) (by assumption) ?_
    (try simp only [List.getElem_toArray, List.getElem_cons_succ, List.getElem_cons_zero, Act.put, List.setIfInBounds_toArray, List.set_cons_zero, List.set_cons_succ])
    refine wpAnyH_take (i := 17) (v := .pointer (some ⟨w.heap.size, 6, none⟩)) rfl (by kernel_rfl) (by kernel_rfl) (by kernel_rfl) (fun _ _ _ h => h) (Or.inl ⟨by rfl, fun wq _ => by go_simp⟩) (by assumption) ?_
    (try simp only [List.getElem_toArray, List.getElem_cons_succ, List.getElem_cons_zero, Act.put, List.setIfInBounds_toArray, List.set_cons_zero, List.set_cons_succ])
    refine wpAnyH_take (i := 18) (v := .pointer (some ⟨w.heap.size, 7, none⟩)) rfl (by kernel_rfl) (by kernel_rfl) (by kernel_rfl) (fun _ _ _ h => h) (Or.inl ⟨by rfl, fun wq _ => by go_simp⟩) (by assumption) ?_
    (try simp only [List.getElem_toArray, List.getElem_cons_succ, List.getElem_cons_zero, Act.put, List.setIfInBounds_toArray, List.set_cons_zero, List.set_cons_succ])
    refine wpAnyH_take (i := 19) (v := .string h.group) rfl (by kernel_rfl) (by kernel_rfl) (by kernel_rfl) (fun _ _ _ h => h) (Or.inl ⟨by rfl, fun wq hSw => by (try dsimp only at hSw); obtain ⟨s2, s5, s6, s7⟩ := hSw; go_simp⟩) (by assumption) ?_
    (try simp only [List.getElem_toArray, List.getElem_cons_succ, List.getElem_cons_zero, Act.put, List.setIfInBounds_toArray, List.set_cons_zero, List.set_cons_succ])
    refine wpAnyH_ready (rs := [4, 9]) (by kernel_rfl) (by simp) (AllReadyH.cons rfl (fun K hK => ?_) (AllReadyH.cons rfl (fun K hK => ?_) AllReadyH.nil))
    · go_simp
      refine hK.out _ _ ⟨t2, t5, t6, t7⟩ (fun hHeld => ?_)
      clear hK K
      refine wpAnyH_imp (S := fun w' => w'.cell? ⟨w.heap.size, 2, none⟩ = some (.int .u8 h.kind) ∧ w'.cell? ⟨w.heap.size, 5, none⟩ = some (.string h.link) ∧ w'.cell? ⟨w.heap.size, 6, none⟩ = some (.string h.user) ∧ w'.cell? ⟨w.heap.size, 7, none⟩ = some (.string h.group) ∧ w'.cell? ⟨w4.heap.size, 0, none⟩ = some (.int .u8 h.kind)) (fun wq hq => ⟨hq.1, hq.2.1, hq.2.2.1, hq.2.2.2.1⟩) _ _ _ _ ?_
      have hHeld2 := (show _ ∧ _ ∧ _ ∧ _ ∧ _ from ⟨t2, t5, t6, t7, t0⟩)
      (try simp only [List.getElem_toArray, List.getElem_cons_succ, List.getElem_cons_zero, Act.put, List.setIfInBounds_toArray, List.set_cons_zero, List.set_cons_succ])
      refine wpAnyH_take (i := 5) (v := .string (⟨#[UInt8.ofNat h.kind]⟩ : ByteArray)) rfl (by kernel_rfl) (by kernel_rfl) (by kernel_rfl) (fun _ _ _ h => h) (Or.inl ⟨by rfl, fun wq hSw => by (try dsimp only at hSw); obtain ⟨s2, s5, s6, s7, s0⟩ := hSw; have hcv := HBY.out wq _ s0; go_simp⟩) (by assumption) ?_
      (try simp only [List.getElem_toArray, List.getElem_cons_succ, List.getElem_cons_zero, Act.put, List.setIfInBounds_toArray, List.set_cons_zero, List.set_cons_succ])
      refine wpAnyH_take (i := 6) (v := .string (A1 ++ (⟨#[32, 32, 32, 32, 32, 32, 32, 32]⟩ : ByteArray) ++ (⟨#[UInt8.ofNat h.kind]⟩ : ByteArray))) rfl (by kernel_rfl) (by kernel_rfl) (by kernel_rfl) (fun _ _ _ h => h) (Or.inl ⟨by rfl, fun wq _ => by go_simp⟩) (by assumption) ?_
      (try simp only [List.getElem_toArray, List.getElem_cons_succ, List.getElem_cons_zero, Act.put, List.setIfInBounds_toArray, List.set_cons_zero, List.set_cons_succ])
      refine wpAnyH_ready (rs := [9]) (by kernel_rfl) (by simp) (AllReadyH.cons rfl (fun K hK => ?_) AllReadyH.nil)
      · go_simp
        go_at_call 95
        refine (H6.out _).mono ?_
        rintro e w5 ⟨rfl, rfl⟩
        dsimp only
        refine hK.out _ _ ⟨t2, t5, t6, t7, t0⟩ (fun hHeld => ?_)
        clear hK K
        (try simp only [List.getElem_toArray, List.getElem_cons_succ, List.getElem_cons_zero, Act.put, List.setIfInBounds_toArray, List.set_cons_zero, List.set_cons_succ])
        refine wpAnyH_take (i := 10) (v := .string (A1 ++ (⟨#[32, 32, 32, 32, 32, 32, 32, 32]⟩ : ByteArray) ++ (⟨#[UInt8.ofNat h.kind]⟩ : ByteArray) ++ T6)) rfl (by kernel_rfl) (by kernel_rfl) (by kernel_rfl) (fun _ _ _ h => h) (Or.inl ⟨by rfl, fun wq _ => by go_simp⟩) (by assumption) ?_
        (try simp only [List.getElem_toArray, List.getElem_cons_succ, List.getElem_cons_zero, Act.put, List.setIfInBounds_toArray, List.set_cons_zero, List.set_cons_succ])
        refine wpAnyH_take (i := 11) (v := .string (A1 ++ (⟨#[32, 32, 32, 32, 32, 32, 32, 32]⟩ : ByteArray) ++ (⟨#[UInt8.ofNat h.kind]⟩ : ByteArray) ++ T6 ++ (⟨#[117, 115, 116, 97, 114, 0, 48, 48]⟩ : ByteArray))) rfl (by kernel_rfl) (by kernel_rfl) (by kernel_rfl) (fun _ _ _ h => h) (Or.inl ⟨by rfl, fun wq _ => by go_simp⟩) (by assumption) ?_
        (try simp only [List.getElem_toArray, List.getElem_cons_succ, List.getElem_cons_zero, Act.put, List.setIfInBounds_toArray, List.set_cons_zero, List.set_cons_succ])
        refine wpAnyH_ready (rs := [15]) (by kernel_rfl) (by simp) (AllReadyH.cons rfl (fun K hK => ?_) AllReadyH.nil)
        · go_simp
          go_at_call 95
          refine (H7.out _).mono ?_
          rintro e w5 ⟨rfl, rfl⟩
          dsimp only
          refine hK.out _ _ ⟨t2, t5, t6, t7, t0⟩ (fun hHeld => ?_)
          clear hK K
          (try simp only [List.getElem_toArray, List.getElem_cons_succ, List.getElem_cons_zero, Act.put, List.setIfInBounds_toArray, List.set_cons_zero, List.set_cons_succ])
          refine wpAnyH_take (i := 16) (v := .string (A1 ++ (⟨#[32, 32, 32, 32, 32, 32, 32, 32]⟩ : ByteArray) ++ (⟨#[UInt8.ofNat h.kind]⟩ : ByteArray) ++ T6 ++ (⟨#[117, 115, 116, 97, 114, 0, 48, 48]⟩ : ByteArray) ++ T7)) rfl (by kernel_rfl) (by kernel_rfl) (by kernel_rfl) (fun _ _ _ h => h) (Or.inl ⟨by rfl, fun wq _ => by go_simp⟩) (by assumption) ?_
          (try simp only [List.getElem_toArray, List.getElem_cons_succ, List.getElem_cons_zero, Act.put, List.setIfInBounds_toArray, List.set_cons_zero, List.set_cons_succ])
          refine wpAnyH_ready (rs := [20]) (by kernel_rfl) (by simp) (AllReadyH.cons rfl (fun K hK => ?_) AllReadyH.nil)
          · go_simp
            go_at_call 95
            refine (H8.out _).mono ?_
            rintro e w5 ⟨rfl, rfl⟩
            dsimp only
            refine hK.out _ _ ⟨t2, t5, t6, t7, t0⟩ (fun hHeld => ?_)
            clear hK K
            (try simp only [List.getElem_toArray, List.getElem_cons_succ, List.getElem_cons_zero, Act.put, List.setIfInBounds_toArray, List.set_cons_zero, List.set_cons_succ])
            refine wpAnyH_take (i := 21) (v := .string (A1 ++ (⟨#[32, 32, 32, 32, 32, 32, 32, 32]⟩ : ByteArray) ++ (⟨#[UInt8.ofNat h.kind]⟩ : ByteArray) ++ T6 ++ (⟨#[117, 115, 116, 97, 114, 0, 48, 48]⟩ : ByteArray) ++ T7 ++ T8)) rfl (by kernel_rfl) (by kernel_rfl) (by kernel_rfl) (fun _ _ _ h => h) (Or.inl ⟨by rfl, fun wq _ => by go_simp⟩) (by assumption) ?_
            (try simp only [List.getElem_toArray, List.getElem_cons_succ, List.getElem_cons_zero, Act.put, List.setIfInBounds_toArray, List.set_cons_zero, List.set_cons_succ])
            refine wpAnyH_take (i := 22) (v := .string (A1 ++ (⟨#[32, 32, 32, 32, 32, 32, 32, 32]⟩ : ByteArray) ++ (⟨#[UInt8.ofNat h.kind]⟩ : ByteArray) ++ T6 ++ (⟨#[117, 115, 116, 97, 114, 0, 48, 48]⟩ : ByteArray) ++ T7 ++ T8)) rfl (by kernel_rfl) (by kernel_rfl) (by kernel_rfl) (fun _ _ _ h => h) (Or.inl ⟨by rfl, fun wq _ => by go_simp⟩) (by assumption) ?_
            (try simp only [List.getElem_toArray, List.getElem_cons_succ, List.getElem_cons_zero, Act.put, List.setIfInBounds_toArray, List.set_cons_zero, List.set_cons_succ])
            refine wpAnyH_done (by kernel_rfl) ?_ _
            go_wp2_with fail
            go_meet
            exact ⟨by rw [HA2.out], rfl⟩
    · go_simp
      go_at_call 95
      refine (H6.out _).mono ?_
      rintro e w5 ⟨rfl, rfl⟩
      dsimp only
      refine hK.out _ _ ⟨r2, r5, r6, r7⟩ (fun hHeld => ?_)
      clear hK K
      (try simp only [List.getElem_toArray, List.getElem_cons_succ, List.getElem_cons_zero, Act.put, List.setIfInBounds_toArray, List.set_cons_zero, List.set_cons_succ])
      refine wpAnyH_ready (rs := [4, 15]) (by kernel_rfl) (by simp) (AllReadyH.cons rfl (fun K hK => ?_) (AllReadyH.cons rfl (fun K hK => ?_) AllReadyH.nil))
      · go_simp
        refine hK.out _ _ ⟨t2, t5, t6, t7⟩ (fun hHeld => ?_)
        clear hK K
        refine wpAnyH_imp (S := fun w' => w'.cell? ⟨w.heap.size, 2, none⟩ = some (.int .u8 h.kind) ∧ w'.cell? ⟨w.heap.size, 5, none⟩ = some (.string h.link) ∧ w'.cell? ⟨w.heap.size, 6, none⟩ = some (.string h.user) ∧ w'.cell? ⟨w.heap.size, 7, none⟩ = some (.string h.group) ∧ w'.cell? ⟨w4.heap.size, 0, none⟩ = some (.int .u8 h.kind)) (fun wq hq => ⟨hq.1, hq.2.1, hq.2.2.1, hq.2.2.2.1⟩) _ _ _ _ ?_
        have hHeld2 := (show _ ∧ _ ∧ _ ∧ _ ∧ _ from ⟨t2, t5, t6, t7, t0⟩)
        (try simp only [List.getElem_toArray, List.getElem_cons_succ, List.getElem_cons_zero, Act.put, List.setIfInBounds_toArray, List.set_cons_zero, List.set_cons_succ])
        refine wpAnyH_take (i := 5) (v := .string (⟨#[UInt8.ofNat h.kind]⟩ : ByteArray)) rfl (by kernel_rfl) (by kernel_rfl) (by kernel_rfl) (fun _ _ _ h => h) (Or.inl ⟨by rfl, fun wq hSw => by (try dsimp only at hSw); obtain ⟨s2, s5, s6, s7, s0⟩ := hSw; have hcv := HBY.out wq _ s0; go_simp⟩) (by assumption) ?_
        (try simp only [List.getElem_toArray, List.getElem_cons_succ, List.getElem_cons_zero, Act.put, List.setIfInBounds_toArray, List.set_cons_zero, List.set_cons_succ])
        refine wpAnyH_take (i := 6) (v := .string (A1 ++ (⟨#[32, 32, 32, 32, 32, 32, 32, 32]⟩ : ByteArray) ++ (⟨#[UInt8.ofNat h.kind]⟩ : ByteArray))) rfl (by kernel_rfl) (by kernel_rfl) (by kernel_rfl) (fun _ _ _ h => h) (Or.inl ⟨by rfl, fun wq _ => by go_simp⟩) (by assumption) ?_
        (try simp only [List.getElem_toArray, List.getElem_cons_succ, List.getElem_cons_zero, Act.put, List.setIfInBounds_toArray, List.set_cons_zero, List.set_cons_succ])
        refine wpAnyH_take (i := 10) (v := .string (A1 ++ (⟨#[32, 32, 32, 32, 32, 32, 32, 32]⟩ : ByteArray) ++ (⟨#[UInt8.ofNat h.kind]⟩ : ByteArray) ++ T6)) rfl (by kernel_rfl) (by kernel_rfl) (by kernel_rfl) (fun _ _ _ h => h) (Or.inl ⟨by rfl, fun wq _ => by go_simp⟩) (by assumption) ?_
        (try simp only [List.getElem_toArray, List.getElem_cons_succ, List.getElem_cons_zero, Act.put, List.setIfInBounds_toArray, List.set_cons_zero, List.set_cons_succ])
        refine wpAnyH_take (i := 11) (v := .string (A1 ++ (⟨#[32, 32, 32, 32, 32, 32, 32, 32]⟩ : ByteArray) ++ (⟨#[UInt8.ofNat h.kind]⟩ : ByteArray) ++ T6 ++ (⟨#[117, 115, 116, 97, 114, 0, 48, 48]⟩ : ByteArray))) rfl (by kernel_rfl) (by kernel_rfl) (by kernel_rfl) (fun _ _ _ h => h) (Or.inl ⟨by rfl, fun wq _ => by go_simp⟩) (by assumption) ?_
        (try simp only [List.getElem_toArray, List.getElem_cons_succ, List.getElem_cons_zero, Act.put, List.setIfInBounds_toArray, List.set_cons_zero, List.set_cons_succ])
        refine wpAnyH_ready (rs := [15]) (by kernel_rfl) (by simp) (AllReadyH.cons rfl (fun K hK => ?_) AllReadyH.nil)
        · go_simp
          go_at_call 95
          refine (H7.out _).mono ?_
          rintro e w5 ⟨rfl, rfl⟩
          dsimp only
          refine hK.out _ _ ⟨t2, t5, t6, t7, t0⟩ (fun hHeld => ?_)
          clear hK K
          (try simp only [List.getElem_toArray, List.getElem_cons_succ, List.getElem_cons_zero, Act.put, List.setIfInBounds_toArray, List.set_cons_zero, List.set_cons_succ])
          refine wpAnyH_take (i := 16) (v := .string (A1 ++ (⟨#[32, 32, 32, 32, 32, 32, 32, 32]⟩ : ByteArray) ++ (⟨#[UInt8.ofNat h.kind]⟩ : ByteArray) ++ T6 ++ (⟨#[117, 115, 116, 97, 114, 0, 48, 48]⟩ : ByteArray) ++ T7)) rfl (by kernel_rfl) (by kernel_rfl) (by kernel_rfl) (fun _ _ _ h => h) (Or.inl ⟨by rfl, fun wq _ => by go_simp⟩) (by assumption) ?_
          (try simp only [List.getElem_toArray, List.getElem_cons_succ, List.getElem_cons_zero, Act.put, List.setIfInBounds_toArray, List.set_cons_zero, List.set_cons_succ])
          refine wpAnyH_ready (rs := [20]) (by kernel_rfl) (by simp) (AllReadyH.cons rfl (fun K hK => ?_) AllReadyH.nil)
          · go_simp
            go_at_call 95
            refine (H8.out _).mono ?_
            rintro e w5 ⟨rfl, rfl⟩
            dsimp only
            refine hK.out _ _ ⟨t2, t5, t6, t7, t0⟩ (fun hHeld => ?_)
            clear hK K
            (try simp only [List.getElem_toArray, List.getElem_cons_succ, List.getElem_cons_zero, Act.put, List.setIfInBounds_toArray, List.set_cons_zero, List.set_cons_succ])
            refine wpAnyH_take (i := 21) (v := .string (A1 ++ (⟨#[32, 32, 32, 32, 32, 32, 32, 32]⟩ : ByteArray) ++ (⟨#[UInt8.ofNat h.kind]⟩ : ByteArray) ++ T6 ++ (⟨#[117, 115, 116, 97, 114, 0, 48, 48]⟩ : ByteArray) ++ T7 ++ T8)) rfl (by kernel_rfl) (by kernel_rfl) (by kernel_rfl) (fun _ _ _ h => h) (Or.inl ⟨by rfl, fun wq _ => by go_simp⟩) (by assumption) ?_
            (try simp only [List.getElem_toArray, List.getElem_cons_succ, List.getElem_cons_zero, Act.put, List.setIfInBounds_toArray, List.set_cons_zero, List.set_cons_succ])
            refine wpAnyH_take (i := 22) (v := .string (A1 ++ (⟨#[32, 32, 32, 32, 32, 32, 32, 32]⟩ : ByteArray) ++ (⟨#[UInt8.ofNat h.kind]⟩ : ByteArray) ++ T6 ++ (⟨#[117, 115, 116, 97, 114, 0, 48, 48]⟩ : ByteArray) ++ T7 ++ T8)) rfl (by kernel_rfl) (by kernel_rfl) (by kernel_rfl) (fun _ _ _ h => h) (Or.inl ⟨by rfl, fun wq _ => by go_simp⟩) (by assumption) ?_
            (try simp only [List.getElem_toArray, List.getElem_cons_succ, List.getElem_cons_zero, Act.put, List.setIfInBounds_toArray, List.set_cons_zero, List.set_cons_succ])
            refine wpAnyH_done (by kernel_rfl) ?_ _
            go_wp2_with fail
            go_meet
            exact ⟨by rw [HA2.out], rfl⟩
      · go_simp
        go_at_call 95
        refine (H7.out _).mono ?_
        rintro e w5 ⟨rfl, rfl⟩
        dsimp only
        refine hK.out _ _ ⟨r2, r5, r6, r7⟩ (fun hHeld => ?_)
        clear hK K
        (try simp only [List.getElem_toArray, List.getElem_cons_succ, List.getElem_cons_zero, Act.put, List.setIfInBounds_toArray, List.set_cons_zero, List.set_cons_succ])
        refine wpAnyH_ready (rs := [4, 20]) (by kernel_rfl) (by simp) (AllReadyH.cons rfl (fun K hK => ?_) (AllReadyH.cons rfl (fun K hK => ?_) AllReadyH.nil))
        · go_simp
          refine hK.out _ _ ⟨t2, t5, t6, t7⟩ (fun hHeld => ?_)
          clear hK K
          refine wpAnyH_imp (S := fun w' => w'.cell? ⟨w.heap.size, 2, none⟩ = some (.int .u8 h.kind) ∧ w'.cell? ⟨w.heap.size, 5, none⟩ = some (.string h.link) ∧ w'.cell? ⟨w.heap.size, 6, none⟩ = some (.string h.user) ∧ w'.cell? ⟨w.heap.size, 7, none⟩ = some (.string h.group) ∧ w'.cell? ⟨w4.heap.size, 0, none⟩ = some (.int .u8 h.kind)) (fun wq hq => ⟨hq.1, hq.2.1, hq.2.2.1, hq.2.2.2.1⟩) _ _ _ _ ?_
          have hHeld2 := (show _ ∧ _ ∧ _ ∧ _ ∧ _ from ⟨t2, t5, t6, t7, t0⟩)
          (try simp only [List.getElem_toArray, List.getElem_cons_succ, List.getElem_cons_zero, Act.put, List.setIfInBounds_toArray, List.set_cons_zero, List.set_cons_succ])
          refine wpAnyH_take (i := 5) (v := .string (⟨#[UInt8.ofNat h.kind]⟩ : ByteArray)) rfl (by kernel_rfl) (by kernel_rfl) (by kernel_rfl) (fun _ _ _ h => h) (Or.inl ⟨by rfl, fun wq hSw => by (try dsimp only at hSw); obtain ⟨s2, s5, s6, s7, s0⟩ := hSw; have hcv := HBY.out wq _ s0; go_simp⟩) (by assumption) ?_
          (try simp only [List.getElem_toArray, List.getElem_cons_succ, List.getElem_cons_zero, Act.put, List.setIfInBounds_toArray, List.set_cons_zero, List.set_cons_succ])
          refine wpAnyH_take (i := 6) (v := .string (A1 ++ (⟨#[32, 32, 32, 32, 32, 32, 32, 32]⟩ : ByteArray) ++ (⟨#[UInt8.ofNat h.kind]⟩ : ByteArray))) rfl (by kernel_rfl) (by kernel_rfl) (by kernel_rfl) (fun _ _ _ h => h) (Or.inl ⟨by rfl, fun wq _ => by go_simp⟩) (by assumption) ?_
          (try simp only [List.getElem_toArray, List.getElem_cons_succ, List.getElem_cons_zero, Act.put, List.setIfInBounds_toArray, List.set_cons_zero, List.set_cons_succ])
          refine wpAnyH_take (i := 10) (v := .string (A1 ++ (⟨#[32, 32, 32, 32, 32, 32, 32, 32]⟩ : ByteArray) ++ (⟨#[UInt8.ofNat h.kind]⟩ : ByteArray) ++ T6)) rfl (by kernel_rfl) (by kernel_rfl) (by kernel_rfl) (fun _ _ _ h => h) (Or.inl ⟨by rfl, fun wq _ => by go_simp⟩) (by assumption) ?_
          (try simp only [List.getElem_toArray, List.getElem_cons_succ, List.getElem_cons_zero, Act.put, List.setIfInBounds_toArray, List.set_cons_zero, List.set_cons_succ])
          refine wpAnyH_take (i := 11) (v := .string (A1 ++ (⟨#[32, 32, 32, 32, 32, 32, 32, 32]⟩ : ByteArray) ++ (⟨#[UInt8.ofNat h.kind]⟩ : ByteArray) ++ T6 ++ (⟨#[117, 115, 116, 97, 114, 0, 48, 48]⟩ : ByteArray))) rfl (by kernel_rfl) (by kernel_rfl) (by kernel_rfl) (fun _ _ _ h => h) (Or.inl ⟨by rfl, fun wq _ => by go_simp⟩) (by assumption) ?_
          (try simp only [List.getElem_toArray, List.getElem_cons_succ, List.getElem_cons_zero, Act.put, List.setIfInBounds_toArray, List.set_cons_zero, List.set_cons_succ])
          refine wpAnyH_take (i := 16) (v := .string (A1 ++ (⟨#[32, 32, 32, 32, 32, 32, 32, 32]⟩ : ByteArray) ++ (⟨#[UInt8.ofNat h.kind]⟩ : ByteArray) ++ T6 ++ (⟨#[117, 115, 116, 97, 114, 0, 48, 48]⟩ : ByteArray) ++ T7)) rfl (by kernel_rfl) (by kernel_rfl) (by kernel_rfl) (fun _ _ _ h => h) (Or.inl ⟨by rfl, fun wq _ => by go_simp⟩) (by assumption) ?_
          (try simp only [List.getElem_toArray, List.getElem_cons_succ, List.getElem_cons_zero, Act.put, List.setIfInBounds_toArray, List.set_cons_zero, List.set_cons_succ])
          refine wpAnyH_ready (rs := [20]) (by kernel_rfl) (by simp) (AllReadyH.cons rfl (fun K hK => ?_) AllReadyH.nil)
          · go_simp
            go_at_call 95
            refine (H8.out _).mono ?_
            rintro e w5 ⟨rfl, rfl⟩
            dsimp only
            refine hK.out _ _ ⟨t2, t5, t6, t7, t0⟩ (fun hHeld => ?_)
            clear hK K
            (try simp only [List.getElem_toArray, List.getElem_cons_succ, List.getElem_cons_zero, Act.put, List.setIfInBounds_toArray, List.set_cons_zero, List.set_cons_succ])
            refine wpAnyH_take (i := 21) (v := .string (A1 ++ (⟨#[32, 32, 32, 32, 32, 32, 32, 32]⟩ : ByteArray) ++ (⟨#[UInt8.ofNat h.kind]⟩ : ByteArray) ++ T6 ++ (⟨#[117, 115, 116, 97, 114, 0, 48, 48]⟩ : ByteArray) ++ T7 ++ T8)) rfl (by kernel_rfl) (by kernel_rfl) (by kernel_rfl) (fun _ _ _ h => h) (Or.inl ⟨by rfl, fun wq _ => by go_simp⟩) (by assumption) ?_
            (try simp only [List.getElem_toArray, List.getElem_cons_succ, List.getElem_cons_zero, Act.put, List.setIfInBounds_toArray, List.set_cons_zero, List.set_cons_succ])
            refine wpAnyH_take (i := 22) (v := .string (A1 ++ (⟨#[32, 32, 32, 32, 32, 32, 32, 32]⟩ : ByteArray) ++ (⟨#[UInt8.ofNat h.kind]⟩ : ByteArray) ++ T6 ++ (⟨#[117, 115, 116, 97, 114, 0, 48, 48]⟩ : ByteArray) ++ T7 ++ T8)) rfl (by kernel_rfl) (by kernel_rfl) (by kernel_rfl) (fun _ _ _ h => h) (Or.inl ⟨by rfl, fun wq _ => by go_simp⟩) (by assumption) ?_
            (try simp only [List.getElem_toArray, List.getElem_cons_succ, List.getElem_cons_zero, Act.put, List.setIfInBounds_toArray, List.set_cons_zero, List.set_cons_succ])
            refine wpAnyH_done (by kernel_rfl) ?_ _
            go_wp2_with fail
            go_meet
            exact ⟨by rw [HA2.out], rfl⟩
        · go_simp
          go_at_call 95
          refine (H8.out _).mono ?_
          rintro e w5 ⟨rfl, rfl⟩
          dsimp only
          refine hK.out _ _ ⟨r2, r5, r6, r7⟩ (fun hHeld => ?_)
          clear hK K
          (try simp only [List.getElem_toArray, List.getElem_cons_succ, List.getElem_cons_zero, Act.put, List.setIfInBounds_toArray, List.set_cons_zero, List.set_cons_succ])
          refine wpAnyH_ready (rs := [4]) (by kernel_rfl) (by simp) (AllReadyH.cons rfl (fun K hK => ?_) AllReadyH.nil)
          · go_simp
            refine hK.out _ _ ⟨t2, t5, t6, t7⟩ (fun hHeld => ?_)
            clear hK K
            refine wpAnyH_imp (S := fun w' => w'.cell? ⟨w.heap.size, 2, none⟩ = some (.int .u8 h.kind) ∧ w'.cell? ⟨w.heap.size, 5, none⟩ = some (.string h.link) ∧ w'.cell? ⟨w.heap.size, 6, none⟩ = some (.string h.user) ∧ w'.cell? ⟨w.heap.size, 7, none⟩ = some (.string h.group) ∧ w'.cell? ⟨w4.heap.size, 0, none⟩ = some (.int .u8 h.kind)) (fun wq hq => ⟨hq.1, hq.2.1, hq.2.2.1, hq.2.2.2.1⟩) _ _ _ _ ?_
            have hHeld2 := (show _ ∧ _ ∧ _ ∧ _ ∧ _ from ⟨t2, t5, t6, t7, t0⟩)
            (try simp only [List.getElem_toArray, List.getElem_cons_succ, List.getElem_cons_zero, Act.put, List.setIfInBounds_toArray, List.set_cons_zero, List.set_cons_succ])
            refine wpAnyH_take (i := 5) (v := .string (⟨#[UInt8.ofNat h.kind]⟩ : ByteArray)) rfl (by kernel_rfl) (by kernel_rfl) (by kernel_rfl) (fun _ _ _ h => h) (Or.inl ⟨by rfl, fun wq hSw => by (try dsimp only at hSw); obtain ⟨s2, s5, s6, s7, s0⟩ := hSw; have hcv := HBY.out wq _ s0; go_simp⟩) (by assumption) ?_
            (try simp only [List.getElem_toArray, List.getElem_cons_succ, List.getElem_cons_zero, Act.put, List.setIfInBounds_toArray, List.set_cons_zero, List.set_cons_succ])
            refine wpAnyH_take (i := 6) (v := .string (A1 ++ (⟨#[32, 32, 32, 32, 32, 32, 32, 32]⟩ : ByteArray) ++ (⟨#[UInt8.ofNat h.kind]⟩ : ByteArray))) rfl (by kernel_rfl) (by kernel_rfl) (by kernel_rfl) (fun _ _ _ h => h) (Or.inl ⟨by rfl, fun wq _ => by go_simp⟩) (by assumption) ?_
            (try simp only [List.getElem_toArray, List.getElem_cons_succ, List.getElem_cons_zero, Act.put, List.setIfInBounds_toArray, List.set_cons_zero, List.set_cons_succ])
            refine wpAnyH_take (i := 10) (v := .string (A1 ++ (⟨#[32, 32, 32, 32, 32, 32, 32, 32]⟩ : ByteArray) ++ (⟨#[UInt8.ofNat h.kind]⟩ : ByteArray) ++ T6)) rfl (by kernel_rfl) (by kernel_rfl) (by kernel_rfl) (fun _ _ _ h => h) (Or.inl ⟨by rfl, fun wq _ => by go_simp⟩) (by assumption) ?_
            (try simp only [List.getElem_toArray, List.getElem_cons_succ, List.getElem_cons_zero, Act.put, List.setIfInBounds_toArray, List.set_cons_zero, List.set_cons_succ])
            refine wpAnyH_take (i := 11) (v := .string (A1 ++ (⟨#[32, 32, 32, 32, 32, 32, 32, 32]⟩ : ByteArray) ++ (⟨#[UInt8.ofNat h.kind]⟩ : ByteArray) ++ T6 ++ (⟨#[117, 115, 116, 97, 114, 0, 48, 48]⟩ : ByteArray))) rfl (by kernel_rfl) (by kernel_rfl) (by kernel_rfl) (fun _ _ _ h => h) (Or.inl ⟨by rfl, fun wq _ => by go_simp⟩) (by assumption) ?_
            (try simp only [List.getElem_toArray, List.getElem_cons_succ, List.getElem_cons_zero, Act.put, List.setIfInBounds_toArray, List.set_cons_zero, List.set_cons_succ])
            refine wpAnyH_take (i := 16) (v := .string (A1 ++ (⟨#[32, 32, 32, 32, 32, 32, 32, 32]⟩ : ByteArray) ++ (⟨#[UInt8.ofNat h.kind]⟩ : ByteArray) ++ T6 ++ (⟨#[117, 115, 116, 97, 114, 0, 48, 48]⟩ : ByteArray) ++ T7)) rfl (by kernel_rfl) (by kernel_rfl) (by kernel_rfl) (fun _ _ _ h => h) (Or.inl ⟨by rfl, fun wq _ => by go_simp⟩) (by assumption) ?_
            (try simp only [List.getElem_toArray, List.getElem_cons_succ, List.getElem_cons_zero, Act.put, List.setIfInBounds_toArray, List.set_cons_zero, List.set_cons_succ])
            refine wpAnyH_take (i := 21) (v := .string (A1 ++ (⟨#[32, 32, 32, 32, 32, 32, 32, 32]⟩ : ByteArray) ++ (⟨#[UInt8.ofNat h.kind]⟩ : ByteArray) ++ T6 ++ (⟨#[117, 115, 116, 97, 114, 0, 48, 48]⟩ : ByteArray) ++ T7 ++ T8)) rfl (by kernel_rfl) (by kernel_rfl) (by kernel_rfl) (fun _ _ _ h => h) (Or.inl ⟨by rfl, fun wq _ => by go_simp⟩) (by assumption) ?_
            (try simp only [List.getElem_toArray, List.getElem_cons_succ, List.getElem_cons_zero, Act.put, List.setIfInBounds_toArray, List.set_cons_zero, List.set_cons_succ])
            refine wpAnyH_take (i := 22) (v := .string (A1 ++ (⟨#[32, 32, 32, 32, 32, 32, 32, 32]⟩ : ByteArray) ++ (⟨#[UInt8.ofNat h.kind]⟩ : ByteArray) ++ T6 ++ (⟨#[117, 115, 116, 97, 114, 0, 48, 48]⟩ : ByteArray) ++ T7 ++ T8)) rfl (by kernel_rfl) (by kernel_rfl) (by kernel_rfl) (fun _ _ _ h => h) (Or.inl ⟨by rfl, fun wq _ => by go_simp⟩) (by assumption) ?_
            (try simp only [List.getElem_toArray, List.getElem_cons_succ, List.getElem_cons_zero, Act.put, List.setIfInBounds_toArray, List.set_cons_zero, List.set_cons_succ])
            refine wpAnyH_done (by kernel_rfl) ?_ _
            go_wp2_with fail
            go_meet
            exact ⟨by rw [HA2.out], rfl⟩
  case rest =>
    obtain ⟨rfl, rfl⟩ := hcut
    have m9 : (A2 ++ T9).size = 337 := by rw [ByteArray.size_append]; omega
    have m10 : (A2 ++ T9 ++ T9).size = 345 := by rw [ByteArray.size_append]; omega
    have m11 : (A2 ++ T9 ++ T9 ++ T10).size = 500 := by rw [ByteArray.size_append]; omega
    obtain ⟨R, hR⟩ : ∃ R, R = A2 ++ T9 ++ T9 ++ T10 ++ T11 := ⟨_, rfl⟩
    have hraw : R = strP (rawL h pre name) := by rw [hR, HA2.out, HA1.out, HRAW.out]
    obtain ⟨hRs, hhd⟩ := HHD.out R hraw
    rw [hRs] at hhd
    have hsl : R.data.toList = rawL h pre name := by rw [hraw]; rfl
    have HSU := Lib.hid fun wx => rsum15_any wx R (by omega)
    rw [hsl] at HSU
    have hsm := HSM.out
    have HFIN : Hid (∀ wx, Below w.heap.size w wx → PO (.returned (.tuple #[.string (R.extract 0 148 ++ strP (oW ((sumA (rawL h pre name)).1 : Nat) 7) ++ ⟨#[32]⟩ ++ R.extract 156 512), .int .i64 0])) wx) := Lib.hid fun wx hbx => by
      rw [← hhd]
      exact HP.out (headL h pre name) 0 wx HENC2.out hbx
    have HNU : Hid (∀ wx, Calls Tryz.prog 96 #[.int .i64 ((sumA (rawL h pre name)).1 : Nat), .int .i64 7] wx fun e w' => e = .returned (.string (strP (oW ((sumA (rawL h pre name)).1 : Nat) 7))) ∧ w' = wx) := Lib.hid fun wx => rnumber16_any wx _ 7 (by omega) (by omega) (by omega) (by omega)
    have hq7 : (strP (oW ((sumA (rawL h pre name)).1 : Nat) 7)).size = 7 := seven_len _ hsm.2.1
    generalize strP (oW ((sumA (rawL h pre name)).1 : Nat) 7) = S7 at *
    have hn0 : (sumA (rawL h pre name)).1 < 262144 := hsm.2.1
    generalize (sumA (rawL h pre name)).2 = k2 at *
    generalize (sumA (rawL h pre name)).1 = n at *
    have HR := Lib.hid hR
    have e1 : (R.extract 0 148).size = 148 := by rw [ByteArray.size_extract]; omega
    have e2 : (R.extract 156 512).size = 356 := by rw [ByteArray.size_extract]; omega
    have e3 : (R.extract 0 148 ++ S7).size = 155 := by rw [ByteArray.size_append]; omega
    have e4 : (R.extract 0 148 ++ S7 ++ (⟨#[32]⟩ : ByteArray)).size = 156 := by rw [ByteArray.size_append, e3]; rfl
    have b1 : (148 : Int) ≤ (R.size : Int) := by omega
    have b2 : (156 : Int) ≤ (R.size : Int) := by omega
    clear hR hraw hhd hsl hsm HHD HSM HRAW HENC HENC2 HP HF HLN HPE HEP H6 H7 H8 l6 l7 l8 m5 n1 n2 n3 n4 n5 r2 r5 r6 r7 t0 t2 t5 t6 t7 HA1 HA2 HBY d0
    generalize (w4.alloc (.cells #[.int .u8 h.kind] 5)).drew = w6 at *
    go_wp2_with fail
    refine (H9.out _).mono ?_
    rintro e w7 ⟨rfl, rfl⟩
    go_wp2_with fail
    refine (H9.out _).mono ?_
    rintro e w8 ⟨rfl, rfl⟩
    go_wp2_with fail
    refine (H10.out _).mono ?_
    rintro e w9 ⟨rfl, rfl⟩
    go_wp2_with fail
    refine (H11.out _).mono ?_
    rintro e w10 ⟨rfl, rfl⟩
    go_wp2_with fail
    rw [← HR.out]
    refine (HSU.out _).mono ?_
    rintro e w11 ⟨rfl, rfl⟩
    clear m9 m10 m11 H9 H10 H11 HSU
    go_wp2_with fail
    go_quiet (first | (go_at_call 96; exact Calls.quiet_of_same (HNU.out _)))
    go_wp2_with fail
    first | go_ret2 | skip
    exact HFIN.out _ (below_drewN HB4.out _)
end Go.Proofs.YtdjmfkodjjjhfaaGreatDoor
