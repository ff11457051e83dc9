/- Gru: texts laid together, what is not used left out. -/
import Derived.Test.YtmgmgmbpldboiaaGreatZ39
import Derived.Test.YtmgmgmbpldboiaaGreatZ17
namespace Go.Proofs.YtmgmgmbpldboiaaGreat
open Go.RowKit

set_option maxHeartbeats 6400000 in
set_option maxRecDepth 100000 in
theorem cput_yes (w : World) (v : Value) (T : List (List Int)) (P : List Int) (h : PlanIn w v T P) (A' : Option Addr) (n' c' : Nat) (L : List Int) (hL : ZIn w A' n' L) (hnc : n' ≤ c') (hn' : n' ≤ 2000000) (hF : FitG T P L) :
    Calls Tryz.prog 22 #[v, .slice A' n' c'] w (BitsPost w (codesG T P L)) := by
  have hP := hF.1
  obtain ⟨A, q, c, B, m, d, rfl, hT, hqc, hq, hPP, hmd, hmm⟩ := id h
  have hlT := hT.1
  have hlP := hPP.1
  have hlL := hL.1
  have hq26 : 2 ≤ q ∧ q ≤ 6 := by have h1 := hP.1; have h2 := hP.2.1; omega
  have hm1 : 1 ≤ m ∧ m ≤ 32767 := by have h1 := hP.2.2.1; have h2 := hP.2.2.2.1; omega
  obtain ⟨z, hz⟩ : ∃ z, z = groupsN n' := ⟨_, rfl⟩
  have hzm : z ≤ m := by have := hF.2; rw [hlL, hlP, ← hz] at this; exact this
  have hzn : n' ≤ 50 * z ∧ 50 * z < n' + 50 := by rw [hz]; unfold groupsN; omega
  obtain ⟨tb, tq, rfl, htc⟩ := hT.2 (by omega)
  obtain ⟨b, off, rfl, hpc⟩ := hPP.2 (by omega)
  have hPx : ∀ i, i < m → 0 ≤ P.getD i 0 ∧ (P.getD i 0).toNat < q := fun i hi => by
    have := hP.2.2.2.2.2.1 (P.getD i 0) (by
      rw [List.getD_eq_getElem?_getD, List.getElem?_eq_getElem (by omega)]
      exact List.getElem_mem _)
    rw [hlT] at this
    omega
  have hTok : ∀ i, i < q → (T.getD i []).length = (T.getD 0 []).length ∧ LenOk (T.getD i []) := fun i hi => hP.2.2.2.2.1 _ (tab_mem T i (by omega))
  obtain ⟨m0, hm0⟩ : ∃ m0, m0 = (T.getD 0 []).length := ⟨_, rfl⟩
  rw [← hm0] at hTok
  have hans : codesG T P L = if ∀ x ∈ L, 0 ≤ x ∧ x < (m0 : Int) then (((List.range z).map (grpB T P L)).flatten, 0) else ([], 60) := by
    unfold codesG
    rw [if_pos hF, ← codesQ_groups T P L z, Nat.min_eq_right (by omega), hm0]
  rw [hans]
  have hb1 : Below w.heap.size w (w.alloc (.cells #[.slice (some ⟨tb, tq, none⟩) q c, .slice (some ⟨b, off, none⟩) m d] 26)) := (Below.refl _ _).alloc (Nat.le_refl _) _
  have hk1 := blk_new w 26 #[.slice (some ⟨tb, tq, none⟩) q c, .slice (some ⟨b, off, none⟩) m d]
  obtain ⟨w1, hw1⟩ : ∃ w1, w1 = w.alloc (.cells #[.slice (some ⟨tb, tq, none⟩) q c, .slice (some ⟨b, off, none⟩) m d] 26) := ⟨_, rfl⟩
  have hz1 : w1.heap.size = w.heap.size + 1 := by rw [hw1]; simp
  rw [← hw1] at hb1 hk1
  have hb2 : Below w1.heap.size w1 (w1.alloc (.cells #[.string ⟨#[]⟩, .int .i64 0] 43)) := (Below.refl _ _).alloc (Nat.le_refl _) _
  have hk2 := (step_of_below hb2).blk hk1 List.not_mem_nil List.not_mem_nil
  have hr2 := blk_new w1 43 #[.string ⟨#[]⟩, .int .i64 0]
  rw [hz1] at hr2
  have hb12 := hb1.trans (hb2.mono hb1.size)
  have HW1 := Lib.hid hw1.symm
  have HM2 : Hid (∀ w2, w2 = w1.alloc (.cells #[.string ⟨#[]⟩, .int .i64 0] 43) → Calls Tryz.prog 58 #[.agg #[.slice (some ⟨tb, tq, none⟩) q c, .slice (some ⟨b, off, none⟩) m d]] w2.drew fun e w' => e = .returned (.bool true) ∧ Below w2.heap.size w2.drew w') := Lib.hid fun w2 e2 => by
    have h3 := cmay_any w2.drew _ T P (h.below (by rw [e2]; exact hb12.drew))
    rw [decide_eq_true hP] at h3
    exact h3
  have HGR := Lib.hid fun (wx : World) => cgroups_any wx n' (by omega)
  rw [← hz] at HGR
  unfold maxLen at hmm
  have d0 : decide ((m : Int) < (z : Int)) = false := decide_eq_false (by omega)
  have dn : ¬ m < z := by omega
  have HTC := Lib.hid htc
  have HPC := Lib.hid hpc
  have HPX := Lib.hid hPx
  have HTOK := Lib.hid hTok
  have HL := Lib.hid hL
  have HLL := Lib.hid hlL
  have HZE := Lib.hid hz
  have HK2 := Lib.hid hk2
  have HR2 := Lib.hid hr2
  have HB2 := Lib.hid hb12
  have HBAD : Hid (∀ i, i < z → (¬ ∀ x ∈ partZ L i, 0 ≤ x ∧ x < (m0 : Int)) → ∀ w', Below w.heap.size w w' → BitsPost w (if ∀ x ∈ L, 0 ≤ x ∧ x < (m0 : Int) then (((List.range z).map (grpB T P L)).flatten, 0) else ([], 60)) (.returned (.tuple #[.agg #[.string ⟨#[]⟩, .int .i64 0], .int .i64 60])) w') := Lib.hid fun i _ hno w' hb => by
    rw [if_neg fun hall => hno fun x hx => hall x (part_mem hx)]
    exact ⟨rfl, hb⟩
  have HEND0 : Hid ((∀ j, j < z → ∀ x ∈ partZ L j, 0 ≤ x ∧ x < (m0 : Int)) → ∀ w' X, X = ((List.range z).map (grpB T P L)).flatten → Below w.heap.size w w' → BitsPost w (if ∀ x ∈ L, 0 ≤ x ∧ x < (m0 : Int) then (((List.range z).map (grpB T P L)).flatten, 0) else ([], 60)) (.returned (.tuple #[.agg #[.string ⟨(pack X).toArray⟩, .int .i64 X.length], .int .i64 0])) w') := Lib.hid fun hall w' X hX hb => by
    have : ∀ x ∈ L, 0 ≤ x ∧ x < (m0 : Int) := fun x hx => by
      obtain ⟨k, hk, hxk⟩ := mem_part hx
      exact hall k (by rw [hz, ← hlL]; exact hk) x hxk
    rw [if_pos this, hX]
    exact ⟨rfl, hb⟩
  generalize BitsPost w (if ∀ x ∈ L, 0 ≤ x ∧ x < (m0 : Int) then (((List.range z).map (grpB T P L)).flatten, 0) else ([], 60)) = PO at *
  clear h hF hb1 hk1 hb2 hk2 hr2 hb12 hz1 hw1 hP hz hL hlP hPP hT htc hpc hPx hTok hans hlL hm0 hlT
  go_enter Tryz.func22, Tryz.ntmps22
  go_upto_region 1 with fail
  rw [HW1.out]
  have HM := Lib.hid (HM2.out _ rfl)
  generalize w1.alloc (.cells #[.string ⟨#[]⟩, .int .i64 0] 43) = w2 at *
  clear HW1 HM2
  have p0 : w2.cell? ⟨w.heap.size, 0, none⟩ = some (.slice (some ⟨tb, tq, none⟩) q c) := (blk_cell HK2.out 0).trans rfl
  have p1 : w2.cell? ⟨w.heap.size, 1, none⟩ = some (.slice (some ⟨b, off, none⟩) m d) := (blk_cell HK2.out 1).trans rfl
  have hlt : w.heap.size < w2.heap.size := blk_lt HK2.out
  have hlt2 : w.heap.size + 1 < w2.heap.size := blk_lt HR2.out
  go_region_held3 (fun w' => w'.cell? ⟨w.heap.size, 0, none⟩ = some (.slice (some ⟨tb, tq, none⟩) q c) ∧ w'.cell? ⟨w.heap.size, 1, none⟩ = some (.slice (some ⟨b, off, none⟩) m d))
    (first | exact ⟨p0, p1⟩ | exact ⟨s0, s1⟩ | go_keep)
    (first
      | (go_at_call 58; refine HM.out.mono ?_; rintro e w3 ⟨rfl, hb3⟩
         have s0 : w3.cell? ⟨w.heap.size, 0, none⟩ = some (.slice (some ⟨tb, tq, none⟩) q c) := (hb3.cell (p := ⟨w.heap.size, 0, none⟩) hlt).trans p0
         have s1 : w3.cell? ⟨w.heap.size, 1, none⟩ = some (.slice (some ⟨b, off, none⟩) m d) := (hb3.cell (p := ⟨w.heap.size, 1, none⟩) hlt).trans p1)
      | (go_at_call 46; refine (HGR.out _).mono ?_; rintro e w4 ⟨rfl, rfl⟩))
  have HR3 : Hid (Blk w3 (w.heap.size + 1) 43 #[.string ⟨#[]⟩, .int .i64 0]) := Lib.hid ((hb3.block (w.heap.size + 1) hlt2).trans HR2.out)
  have HB3 := Lib.hid (HB2.out.drew.trans (hb3.mono (Nat.le_of_lt hlt)))
  clear hb3 HK2 HR2 HB2 HM p0 p1 hlt hlt2
  go_wp2_with fail
  refine (HGR.out _).mono ?_
  rintro e w3 ⟨rfl, rfl⟩
  clear HGR
  have hsz3 := HB3.out.size
  have hr3lt := blk_lt HR3.out
  go_wp2_with fail
  go_loopw [6, 7, 8, 9, 26] (fun pv s7 s8 s9 iv' wx => ∃ (i : Nat) (A9 : Option Addr) (c9 : Nat), i ≤ z ∧ iv' = .int .i64 i ∧ pv = .slice A9 i c9 ∧ Pcs wx w3.heap.size (.slice A9 i c9) ((List.range i).map (grpB T P L)) ∧ Below w3.heap.size w3 wx ∧ Hid (∀ j, j < i → ∀ x ∈ partZ L j, 0 ≤ x ∧ x < (m0 : Int))) (fun _ _ _ _ iv' _ => z - (intOf iv').toNat)
  case atStart => exact ⟨0, none, 0, Nat.zero_le _, rfl, rfl, pcs_none _ _, Below.refl _ _, fun j hj => absurd hj (Nat.not_lt_zero _)⟩
  case round =>
    rename World => wx
    obtain ⟨i, A9, c9, hi, rfl, rfl, hpc, hbx, hin⟩ := hrel
    by_cases e : i < z
    · have di : decide ((i : Int) < (z : Int)) = true := decide_eq_true (by omega)
      have hiI : (0 : Int) ≤ (i : Int) := by omega
      have him : (i : Int) < (m : Int) := by omega
      have h50 : 50 * i < n' := by omega
      obtain ⟨hy0, hyq⟩ := HPX.out i (by omega)
      obtain ⟨y, hy⟩ : ∃ y, y = (P.getD i 0).toNat := ⟨_, rfl⟩
      have hyP : P.getD i 0 = (y : Int) := by omega
      rw [← hy] at hyq
      obtain ⟨A2, c2, h1, h2, _, h4⟩ := HTC.out y hyq
      obtain ⟨htl, hok⟩ := HTOK.out y hyq
      have hbw : ∀ W, Below wx.heap.size wx W → Below w.heap.size w W := fun W hb => (HB3.out.trans (hbx.mono hsz3)).trans (hb.mono (Nat.le_trans hsz3 hbx.size))
      have hbw0 := hbw wx (Below.refl _ _)
      have c0 : wx.cell? ⟨w.heap.size, 0, none⟩ = some (.slice (some ⟨tb, tq, none⟩) q c) := (hbx.cell (p := ⟨w.heap.size, 0, none⟩) (World.block_lt_of_cell? w3 _ s0)).trans s0
      have c1 : wx.cell? ⟨w.heap.size, 1, none⟩ = some (.slice (some ⟨b, off, none⟩) m d) := (hbx.cell (p := ⟨w.heap.size, 1, none⟩) (World.block_lt_of_cell? w3 _ s1)).trans s1
      have c2' : wx.cell? ⟨b, off + i, none⟩ = some (.int .i64 (y : Int)) := by
        rw [← hyP]
        exact (hbw0.cell (p := ⟨b, off + i, none⟩) (World.block_lt_of_cell? w _ (HPC.out i (by omega)))).trans (HPC.out i (by omega))
      have c3 : wx.cell? ⟨tb, tq + y, none⟩ = some (.slice A2 m0 c2) := by
        rw [← htl]
        exact (hbw0.cell (p := ⟨tb, tq + y, none⟩) (World.block_lt_of_cell? w _ h1)).trans h1
      have HPART := Lib.hid fun (W : World) (hb : Below wx.heap.size wx W) => cpart_at W A' n' c' L i (HL.out.below (hbw W hb)) hnc hn' h50
      have HENC := Lib.hid fun (W : World) (hb : Below wx.heap.size wx W) (cc : Nat) (hcc : (partZ L i).length ≤ cc) => cenc_any W A2 (A'.map fun x => x.add (50 * i)) m0 c2 (partZ L i).length cc (T.getD y []) (partZ L i) (by rw [← htl]; exact h2.below (hbw W hb)) (by rw [← htl]; exact h4) (partZ_in (HL.out.below (hbw W hb)) h50) hcc (by rw [partZ_length]; omega)
      have hput : putAns (T.getD y []) (partZ L i) = if ∀ x ∈ partZ L i, 0 ≤ x ∧ x < (m0 : Int) then (grpB T P L i, 0) else ([], 60) := by
        unfold putAns grpB
        rw [if_pos hok, htl, hy]
      rw [hput] at HENC
      obtain ⟨⟨X, zz⟩, hXz⟩ : ∃ r : List Nat × Nat, r = if ∀ x ∈ partZ L i, 0 ≤ x ∧ x < (m0 : Int) then (grpB T P L i, 0) else ([], 60) := ⟨_, rfl⟩
      rw [← hXz] at HENC
      have HXZ := Lib.hid hXz
      have HPCS := Lib.hid hpc
      have HBX := Lib.hid hbx
      have HIN := Lib.hid hin
      have hyI : (0 : Int) ≤ (y : Int) := by omega
      have hyqI : (y : Int) < (q : Int) := by omega
      have bd : Below wx.heap.size wx wx.drew := (Below.refl _ _).drew
      have ba : Below wx.heap.size wx (wx.alloc (.cells #[.string ⟨#[]⟩, .int .i64 0] 43)).drew := ((Below.refl _ _).alloc (Nat.le_refl _) _).drew
      have ka : Blk (wx.alloc (.cells #[.string ⟨#[]⟩, .int .i64 0] 43)).drew wx.heap.size 43 #[.string ⟨#[]⟩, .int .i64 0] := blk_new wx _ _
      have l0 := World.block_lt_of_cell? wx _ c0
      have l2 := World.block_lt_of_cell? wx _ c2'
      have l3 := World.block_lt_of_cell? wx _ c3
      generalize (partZ L i).length = pl at *
      generalize (A'.map fun x => x.add (50 * i)) = AP at *
      clear hpc hbx hin hput hXz h1 h2 h4 htl hok hbw hbw0 hy hyP hy0 s0 s1 h50
      go_upto_region 7 with fail
      go_cut [8, 9] from 29 to 44 (fun s8 s9 wy => ∃ b8, s8 = .pointer (some ⟨b8, 0, none⟩) ∧ s9 = .int .i64 (zz : Nat) ∧ Blk wy b8 43 #[.string ⟨(pack X).toArray⟩, .int .i64 (X.length : Nat)] ∧ wx.heap.size ≤ b8 ∧ Below wx.heap.size wx wy)
      case first =>
        go_region_held3 (fun w' => w'.cell? ⟨w.heap.size, 0, none⟩ = some (.slice (some ⟨tb, tq, none⟩) q c) ∧ w'.cell? ⟨w.heap.size, 1, none⟩ = some (.slice (some ⟨b, off, none⟩) m d) ∧ w'.cell? ⟨b, off + i, none⟩ = some (.int .i64 (y : Int)) ∧ w'.cell? ⟨tb, tq + y, none⟩ = some (.slice A2 m0 c2))
          (first | exact ⟨c0, c1, c2', c3⟩ | exact ⟨t0, t1, t2, t3⟩ | exact ⟨u0, u1, u2, u3⟩ | go_keep)
          (first
            | (go_at_call 60; (first | with_reducible refine (HPART.out _ bd).mono ?_ | with_reducible refine (HPART.out _ ba).mono ?_); rintro e w7 ⟨cc, rfl, hcc, rfl⟩)
            | (go_at_call 59; (with_reducible refine (HENC.out _ bd cc hcc).mono ?_); rintro e w9 ⟨rfl, hb9⟩
               have t0 : w9.cell? ⟨w.heap.size, 0, none⟩ = some (.slice (some ⟨tb, tq, none⟩) q c) := (hb9.cell (p := ⟨w.heap.size, 0, none⟩) l0).trans c0
               have t1 : w9.cell? ⟨w.heap.size, 1, none⟩ = some (.slice (some ⟨b, off, none⟩) m d) := (hb9.cell (p := ⟨w.heap.size, 1, none⟩) l0).trans c1
               have t2 : w9.cell? ⟨b, off + i, none⟩ = some (.int .i64 (y : Int)) := (hb9.cell (p := ⟨b, off + i, none⟩) l2).trans c2'
               have t3 : w9.cell? ⟨tb, tq + y, none⟩ = some (.slice A2 m0 c2) := (hb9.cell (p := ⟨tb, tq + y, none⟩) l3).trans c3
               have hbb : Below wx.heap.size wx w9 := bd.trans hb9)
            | (go_at_call 59; (with_reducible refine (HENC.out _ ba cc hcc).mono ?_); rintro e w9 ⟨rfl, hb9⟩
               have hbb : Below wx.heap.size wx w9 := ba.trans (hb9.mono ba.size)
               have t0 : w9.cell? ⟨w.heap.size, 0, none⟩ = some (.slice (some ⟨tb, tq, none⟩) q c) := (hbb.cell (p := ⟨w.heap.size, 0, none⟩) l0).trans c0
               have t1 : w9.cell? ⟨w.heap.size, 1, none⟩ = some (.slice (some ⟨b, off, none⟩) m d) := (hbb.cell (p := ⟨w.heap.size, 1, none⟩) l0).trans c1
               have t2 : w9.cell? ⟨b, off + i, none⟩ = some (.int .i64 (y : Int)) := (hbb.cell (p := ⟨b, off + i, none⟩) l2).trans c2'
               have t3 : w9.cell? ⟨tb, tq + y, none⟩ = some (.slice A2 m0 c2) := (hbb.cell (p := ⟨tb, tq + y, none⟩) l3).trans c3
               have k9 : Blk w9 wx.heap.size 43 #[.string ⟨#[]⟩, .int .i64 0] := (hb9.block wx.heap.size (blk_lt ka)).trans ka
               have x0 := (blk_cell k9 0).trans (rfl : _ = some (Value.string ⟨#[]⟩))
               have x1 := (blk_cell k9 1).trans (rfl : _ = some (Value.int .i64 0))
               have y0 := blk_frozen k9 0
               have y1 := blk_frozen k9 1
               have hbs : Below wx.heap.size wx ((w9.setCell ⟨wx.heap.size, 0, none⟩ (.string ⟨(pack X).toArray⟩)).setCell ⟨wx.heap.size, 1, none⟩ (.int .i64 (X.length : Nat))) := (hbb.setCell (p := ⟨wx.heap.size, 0, none⟩) (Nat.le_refl _) _).setCell (p := ⟨wx.heap.size, 1, none⟩) (Nat.le_refl _) _
               have u0 := (hbs.cell (p := ⟨w.heap.size, 0, none⟩) l0).trans c0
               have u1 := (hbs.cell (p := ⟨w.heap.size, 1, none⟩) l0).trans c1
               have u2 := (hbs.cell (p := ⟨b, off + i, none⟩) l2).trans c2'
               have u3 := (hbs.cell (p := ⟨tb, tq + y, none⟩) l3).trans c3))
        all_goals go_wp2_with fail
        all_goals go_meet
        all_goals first
          | exact ⟨_, rfl, rfl, blk_new w9 _ _, hbb.size, hbb.alloc hbb.size _⟩
          | exact ⟨_, rfl, rfl, blk_set (blk_set k9 0 _) 1 _, Nat.le_refl _, hbs⟩
      case rest =>
        obtain ⟨b8, rfl, rfl, hk8, hb8, hbc⟩ := hcut
        have hb3c := HBX.out.trans (hbc.mono HBX.out.size)
        have hszc : w3.heap.size ≤ wc.heap.size := hb3c.size
        by_cases hall : ∀ x ∈ partZ L i, 0 ≤ x ∧ x < (m0 : Int)
        · have hxz := HXZ.out
          rw [if_pos hall] at hxz
          obtain ⟨rfl, rfl⟩ : X = grpB T P L i ∧ zz = 0 := by
            injection hxz with e1 e2
            exact ⟨e1, e2⟩
          have HG1 : Hid (Bit01 (grpB T P L i)) := Lib.hid (putB_bits _ _)
          have hin2 : ∀ j, j < i + 1 → ∀ x ∈ partZ L j, 0 ≤ x ∧ x < (m0 : Int) := fun j hj => by
            by_cases ej : j = i
            · rw [ej]; exact hall
            · exact HIN.out j (by omega)
          have hnx : (List.range (i + 1)).map (grpB T P L) = (List.range i).map (grpB T P L) ++ [grpB T P L i] := by rw [List.range_succ, List.map_append]; rfl
          obtain ⟨X, hX⟩ : ∃ X, X = grpB T P L i := ⟨_, rfl⟩
          rw [← hX] at hk8 HG1 hnx
          obtain ⟨v5, w5, hr5, hpc5, hb5⟩ := pcs_append wc w3.heap.size (.slice A9 i c9) _ X (HPCS.out.below hbc) hszc (by simp; omega) HG1.out
          rw [← hnx] at hpc5
          obtain ⟨A5, c5, rfl, _, _, _⟩ := own_slice hpc5.own
          rw [List.length_map, List.length_range] at hpc5 hr5
          have x0 := (blk_cell hk8 0).trans (rfl : _ = some (Value.string ⟨(pack X).toArray⟩))
          have x1 := (blk_cell hk8 1).trans (rfl : _ = some (Value.int .i64 X.length))
          have HR5 := Lib.hid hr5
          have HPC5 := Lib.hid hpc5
          have HB5 := Lib.hid (hb3c.trans hb5)
          have HIN2 := Lib.hid hin2
          clear hk8 hb8 hbc hb3c hszc hall hxz hin2 hnx hX hr5 hpc5 hb5 HG1 HXZ HPCS HBX HIN HPART HENC c0 c1 c2' c3 bd ba ka l0 l2 l3
          go_wp2_with (at_builtin; refine Lib.wpList_append_run _ rfl (.tmp 49) (.tmp 51) 92 92 rfl (.slice A9 i c9) (.slice (some ⟨wc.heap.size, 0, none⟩) 1 1) rfl rfl _ w5 HR5.out ?_)
          go_roundw
          case rel => exact ⟨i + 1, A5, c5, by omega, by go_num, rfl, HPC5.out, HB5.out, HIN2.out⟩
          case measure => simp [intOf]; omega
        · have hxz := HXZ.out
          rw [if_neg hall] at hxz
          obtain ⟨rfl, rfl⟩ : X = [] ∧ zz = 60 := by
            injection hxz with e1 e2
            exact ⟨e1, e2⟩
          have hr := (hb3c.block (w.heap.size + 1) hr3lt).trans HR3.out
          have g0 := (blk_cell (show Blk wc (w.heap.size + 1) _ _ from hr) 0).trans (rfl : _ = some (Value.string ⟨#[]⟩))
          have g1 := (blk_cell (show Blk wc (w.heap.size + 1) _ _ from hr) 1).trans (rfl : _ = some (Value.int .i64 0))
          have f0 := blk_frozen (show Blk wc (w.heap.size + 1) _ _ from hr) 0
          have f1 := blk_frozen (show Blk wc (w.heap.size + 1) _ _ from hr) 1
          have HE := Lib.hid (HBAD.out i e hall _ (((HB3.out.trans (hb3c.mono hsz3)).setCell (p := ⟨w.heap.size + 1, 0, none⟩) (Nat.le_succ _) (.string ⟨#[]⟩)).setCell (p := ⟨w.heap.size + 1, 1, none⟩) (Nat.le_succ _) (.int .i64 0)))
          clear hk8 hb8 hbc hb3c hszc hall hxz hr HXZ HPCS HBX HIN HPART HENC c0 c1 c2' c3 bd ba ka l0 l2 l3 HBAD HEND0
          go_wp2_with fail
          refine bodyPost_ret (v := .tuple #[.agg #[.string ⟨#[]⟩, .int .i64 0], .int .i64 60]) ?_ rfl HE.out
          simp [results, Tryz.results22, go_sem, g0, g1]
    · obtain rfl : i = z := by omega
      have di : decide ((i : Int) < (i : Int)) = false := decide_eq_false (by omega)
      have hfl : ((List.range i).map (grpB T P L)).flatten.length ≤ 1000 * i := grps_short T P L (fun k => by
        by_cases hk : k < m
        · exact .inl (HTOK.out _ (HPX.out k hk).2).2
        · right
          unfold partZ
          rw [List.drop_eq_nil_of_le (by have := HLL.out; omega)]
          rfl) i
      have HJ := Lib.hid (pcs_join wx w3.heap.size (.slice A9 i c9) _ hpc (by simp; omega) (by omega))
      obtain ⟨X, hX⟩ : ∃ X, X = ((List.range i).map (grpB T P L)).flatten := ⟨_, rfl⟩
      rw [← hX] at HJ
      have HXE := Lib.hid hX
      have HBX := Lib.hid hbx
      have HIN := Lib.hid hin
      clear hpc hbx hin hfl hX HBAD HTC HPC HPX HTOK HL
      go_wp2_with fail
      refine HJ.out.mono ?_
      rintro e w9 ⟨rfl, hb9⟩
      have hr9 := (step_of_below hb9).blk ((HBX.out.block (w.heap.size + 1) hr3lt).trans HR3.out) List.not_mem_nil List.not_mem_nil
      have g0 := (blk_cell hr9 0).trans (rfl : _ = some (Value.string ⟨#[]⟩))
      have g1 := (blk_cell hr9 1).trans (rfl : _ = some (Value.int .i64 0))
      have f0 := blk_frozen hr9 0
      have f1 := blk_frozen hr9 1
      have hbb := (HB3.out.trans (HBX.out.mono hsz3)).trans (hb9.mono (Nat.le_trans hsz3 HBX.out.size))
      have HE := Lib.hid (HEND0.out HIN.out _ X HXE.out ((hbb.setCell (p := ⟨w.heap.size + 1, 0, none⟩) (Nat.le_succ _) (.string ⟨(pack X).toArray⟩)).setCell (p := ⟨w.heap.size + 1, 1, none⟩) (Nat.le_succ _) (.int .i64 X.length)))
      clear hr9 hb9 hbb HJ HBX HIN HEND0 HXE
      go_wp2_with fail
      refine bodyPost_ret (v := .tuple #[.agg #[.string ⟨(pack X).toArray⟩, .int .i64 X.length], .int .i64 0]) ?_ rfl HE.out
      simp [results, Tryz.results22, go_sem, g0, g1]

theorem cput_any (w : World) (v : Value) (T : List (List Int)) (P : List Int) (h : PlanIn w v T P) (A' : Option Addr) (n' c' : Nat) (L : List Int) (hL : ZIn w A' n' L) (hnc : n' ≤ c') (hn' : n' ≤ 2000000) :
    Calls Tryz.prog 22 #[v, .slice A' n' c'] w (BitsPost w (codesG T P L)) := by
  by_cases hP : MayPlan T P
  · by_cases hM : FitG T P L
    · exact cput_yes w v T P h A' n' c' L hL hnc hn' hM
    · exact cput_few w v T P h A' n' c' L hL.1 hn' hP hM
  · exact cput_bad w v T P h A' n' c' L hP

end Go.Proofs.YtmgmgmbpldboiaaGreat
