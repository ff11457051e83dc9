/- The reference of rotate, walked: Order. Conditions: at most a million bytes. -/
import Derived.Test.YtglcideecelemaaGh
namespace Go.Proofs.Ytglcideecelemaa
open Go.RowKit

def InRel (w wr : World) (s : List UInt8) (Ls : List (List Nat)) (a : Value) (t : Nat) (w3 : World) : Prop :=
  ∃ zs P R j, Ls = P ++ R ∧ t = 2 * j ∧ (P.length = t ∨ (R = [] ∧ P.length + 1 = t)) ∧ RInner w w3 wr.heap.size s a zs P ∧ Below wr.heap.size wr w3

theorem ones_snoc (q : Nat) : (List.range (q + 1)).map (fun x => [x]) = (List.range q).map (fun x => [x]) ++ [[q]] := by
  rw [List.range_succ, List.map_append]
  rfl
theorem ones_flat (n : Nat) : ((List.range n).map fun i => [i]).flatten = List.range n := by
  rw [← List.flatMap_def]
  simp
theorem at_end {P R : List (List Nat)} {L : List Nat} : (P ++ L :: R)[P.length]? = some L := by
  rw [List.getElem?_append_right (Nat.le_refl _), Nat.sub_self]
  rfl

theorem rmerged_list (w : World) (s : ByteArray) (B : Nat) (A A' : Option Addr) (c c' : Nat) (La Lb : List Nat) (hA : w.ownsRow B 3 1 (.slice A La.length c) La.length (La.map iv)) (hB : w.ownsRow B 3 1 (.slice A' Lb.length c') Lb.length (Lb.map iv)) (hla : ∀ x ∈ La, x < s.size) (hlb : ∀ x ∈ Lb, x < s.size) (hs : s.size ≤ 1000000) (hnm : La.length + Lb.length ≤ s.size) :
    Calls Try.prog 24 #[.string s, .slice A La.length c, .slice A' Lb.length c'] w fun e w' => ∃ A2 c2, e = .returned (.slice A2 (mergeL s.data.toList La Lb).length c2) ∧ w'.ownsRow w.heap.size 3 1 (.slice A2 (mergeL s.data.toList La Lb).length c2) (mergeL s.data.toList La Lb).length ((mergeL s.data.toList La Lb).map iv) ∧ Below w.heap.size w w' := by
  refine (rmerged_any w s A A' La.length c Lb.length c' La Lb (own_nums hA) (own_nums hB) hla hlb hs (by omega)).mono ?_
  rintro e w' ⟨v, rfl, hown, hb⟩
  have hl : La.length + Lb.length = (mergeL s.data.toList La Lb).length := by rw [(mergeL_perm s.data.toList _ La Lb (Nat.le_refl _)).length_eq, List.length_append]
  obtain ⟨A2, c2, rfl, _⟩ := own_slice hown
  rw [hl] at hown ⊢
  exact ⟨A2, c2, rfl, hown, hb⟩

theorem step_next (B : Nat) (w5 : World) (A3 A5 : Option Addr) (p c3 k c5 : Nat) (zs : List Value) (hrow : w5.ownsRow B 34 1 (.slice A3 p c3) p zs) (hB : B ≤ w5.heap.size) (hp : p ≤ 1000000) :
    ∃ v6 w6, (Builtin.append_ #[55, 55] 55 #[.slice A3 p c3, .slice (some ⟨w5.heap.size, 0, none⟩) 1 1]).run Try.prog (w5.alloc (.cells #[.slice A5 k c5] 34)) = .ok v6 w6 ∧ w6.ownsRow B 34 1 v6 (p + 1) (zs ++ [.slice A5 k c5]) ∧ Step B [] [34] w5 w6 := by
  obtain ⟨i30, h30, hz0, hz1, hz2⟩ := info_parts infoSl
  have hr := hrow.alloc (.cells #[.slice A5 k c5] 34)
  obtain ⟨v6, w6, h1, h2, h3, _⟩ := run_append_own (P := Try.prog) (w5.alloc (.cells #[.slice A5 k c5] 34)) B 55 55 34 i30 (.slice none 0 0) 1 24 Try.underlying55 h30 hz0 hz1 hz2 rfl (by decide) _ p zs hr ⟨w5.heap.size, 0, none⟩ 1 1 [.slice A5 k c5] rfl (cell_one _ _ _)
    (fun u hu => by simp at hu; subst hu; rfl) (by unfold maxLen; omega) (by omega) (by simp; omega)
  exact ⟨v6, w6, h1, h2, ((Step.refl _ _ _ _).alloc hB _).grown h3 (by simp; omega) (row_blk hr)⟩

set_option maxHeartbeats 1600000 in
set_option maxRecDepth 100000 in
theorem rord_any (w : World) (s : ByteArray) (hs : s.size ≤ 1000000) : Calls Try.prog 17 #[.string s] w (ROrdPost w s.data.toList) := by
  obtain ⟨i30, h30, hz0, hz1, hz2⟩ := info_parts infoSl
  have HSL := Lib.hid (show s.data.toList.length = s.size from rfl)
  go_enter Try.func17, Try.ntmps17
  go_wp2_with fail
  go_loopw [3, 4] (fun a i wr => ∃ (q : Nat) (xs : List Value), q ≤ s.size ∧ i = .int .i64 q ∧ wr.ownsRow w.heap.size 34 1 a q xs ∧ Lists wr w.heap.size xs ((List.range q).map fun x => [x]) ∧ Below w.heap.size w wr) (fun _ i _ => s.size - (intOf i).toNat)
  case atStart => exact ⟨0, [], Nat.zero_le _, rfl, World.ownsRow_nil _ _ _ _, lists_nil _ _, Below.refl _ _⟩
  case round =>
    obtain ⟨q, xs, hq, rfl, hown, hls, hb⟩ := hrel
    have hz := hb.size
    obtain ⟨A0, c0, rfl, hn0, hm0, hA0⟩ := own_slice hown
    clear hA0
    unfold maxLen at hm0
    have HO := Lib.hid hown
    have HL := Lib.hid hls
    have HB := Lib.hid hb
    clear hown hls hb
    by_cases e : q < s.size
    · have d1 : decide ((q : Int) < (s.size : Int)) = true := decide_eq_true (by omega)
      go_wp2_with (at_builtin; refine wpList_append_own _ rfl _ _ 55 rfl w.heap.size 34 i30 (.slice none 0 0) 1 24 Try.underlying55 h30 hz0 hz1 hz2 rfl (by decide) _ _ _ rfl ((HO.out.alloc _).alloc _) ⟨wr.heap.size + 1, 0, none⟩ 1 1 [.slice (some ⟨wr.heap.size, 0, none⟩) 1 1] rfl rfl ?c1 ?c2 ?c3 ?c4 ?c5 ?_)
      case c1 => exact cell_two _ _ _ _
      case c2 => intro u hu; simp at hu; subst hu; rfl
      case c3 => unfold maxLen; omega
      case c4 => omega
      case c5 => simp; omega
      intro v2 w2 hown2 hgrow2 _
      have hsa : Step w.heap.size [] [34] wr w2 := by
        have h1 : Step w.heap.size [] [34] wr (wr.alloc (.cells #[.int .i64 q] 3)) := (Step.refl _ _ _ _).alloc hz _
        have h2 := h1.alloc (by simp; omega) (.cells #[.slice (some ⟨wr.heap.size, 0, none⟩) 1 1] 34)
        exact h2.grown hgrow2 (by simp; omega) (row_blk ((HO.out.alloc _).alloc _))
      have hsb : Step w.heap.size [] [34] (wr.alloc (.cells #[.int .i64 q] 3)) w2 := by
        have h2 : Step w.heap.size [] [34] (wr.alloc (.cells #[.int .i64 q] 3)) _ := (Step.refl _ _ _ _).alloc (by simp; omega) (.cells #[.slice (some ⟨wr.heap.size, 0, none⟩) 1 1] 34)
        exact h2.grown hgrow2 (by simp; omega) (row_blk ((HO.out.alloc _).alloc _))
      have hnew := hsb.row (own_one wr w.heap.size q hz) (fun _ _ => List.not_mem_nil) (by decide)
      have HO2 := Lib.hid hown2
      have HL2 := Lib.hid ((HL.out.step hsa (by decide)).snoc hnew)
      have HB2 := Lib.hid (HB.out.trans hsa.below)
      clear hown2 hgrow2 hsa hsb hnew
      go_wp2_with fail
      go_roundw
      case rel => exact ⟨q + 1, _, by omega, by go_num, HO2.out, by rw [ones_snoc]; exact HL2.out, HB2.out⟩
      case measure => simp [intOf]; omega
    · obtain rfl : q = s.size := by omega
      have d1 : decide ((s.size : Int) < (s.size : Int)) = false := decide_eq_false (by omega)
      have hR : RRound w wr s.data.toList (.slice A0 s.size c0) xs ((List.range s.size).map fun x => [x]) := by
        refine ⟨?_, HL.out, parts_ones _ _, ?_, HB.out⟩
        · rw [List.length_map, List.length_range]
          exact HO.out
        · rw [ones_flat]
          exact List.Perm.refl _
      have HR := Lib.hid hR
      clear hR
      go_wp2_with fail
      go_loopw [3] (fun a w2 => ∃ xs Ls, RRound w w2 s.data.toList a xs Ls ∧ Ls.length ≤ s.size) (fun a _ => sliceLen a)
      case atStart => exact ⟨_, _, HR.out, by rw [List.length_map, List.length_range]; exact Nat.le_refl _⟩
      case round =>
        obtain ⟨ys, Ls, hR2, hlen⟩ := hrel
        rename World => w2
        obtain ⟨A1, c1, rfl, hn1, hm1, hA1⟩ := own_slice hR2.row
        unfold maxLen at hm1
        have hz2' := hR2.below.size
        have HR2 := Lib.hid hR2
        have HA1 := Lib.hid hA1
        obtain ⟨m, hm⟩ : ∃ m, m = Ls.length := ⟨_, rfl⟩
        rw [← hm] at hn1 hlen ⊢
        have HM := Lib.hid hm
        clear hR2 hA1 hm
        by_cases e1 : 1 < m
        · have d2 : decide ((1 : Int) < (m : Int)) = true := decide_eq_true (by omega)
          go_wp2_with fail
          go_loopw [5, 6] (fun a i w3 => ∃ t : Nat, i = .int .i64 t ∧ t ≤ m + 1 ∧ InRel w w2 s.data.toList Ls a t w3) (fun _ i _ => m + 2 - (intOf i).toNat)
          case atStart => exact ⟨0, rfl, by omega, [], [], Ls, 0, rfl, rfl, .inl rfl, ⟨World.ownsRow_nil _ _ _ _, lists_nil _ _⟩, Below.refl _ _⟩
          case round =>
            obtain ⟨t, rfl, ht, zs, P, R, j, hPR, hj, hPt, hI, hb3⟩ := hrel
            rename World => w3
            obtain ⟨A3, c3, rfl, hn3, hm3, hA3⟩ := own_slice hI.row
            clear hA3
            unfold maxLen at hm3
            have hz3 := hb3.size
            have hpl := passL_length s.data.toList P
            obtain ⟨p, hp⟩ : ∃ p, p = (passL s.data.toList P).length := ⟨_, rfl⟩
            rw [← hp] at hn3 hpl ⊢
            have hrow3 := hI.row
            rw [← hp] at hrow3
            have HRO := Lib.hid hrow3
            clear hrow3
            have HS3 := Lib.hid (step_of_below hb3)
            have HI := Lib.hid hI
            have HP := Lib.hid hp
            have HB3 := Lib.hid hb3
            have HPR := Lib.hid hPR
            have HJ := Lib.hid hj
            have hlen3 : m = P.length + R.length := by rw [HM.out, HPR.out, List.length_append]
            have hpm : p ≤ 1000000 := by omega
            have HPL := Lib.hid hpl
            clear hpl
            have hown3 := HS3.out.row HR2.out.row (fun _ _ => List.not_mem_nil) List.not_mem_nil
            have hls3 := HR2.out.lists.step HS3.out List.not_mem_nil
            have HOA := Lib.hid hown3
            have HLA := Lib.hid hls3
            clear hI hp hb3 hPR hj hown3 hls3
            by_cases e2 : t < m
            · have hPt' : P.length = t := by
                rcases hPt with h | ⟨h, h'⟩
                · exact h
                · rw [h] at hlen3
                  simp at hlen3
                  omega
              clear hPt
              obtain ⟨g, rfl⟩ := HA1.out (by rw [← HM.out]; omega)
              obtain ⟨La, R1, rfl⟩ : ∃ L R1, R = L :: R1 := by cases R with | nil => simp at hlen3; omega | cons L R1 => exact ⟨L, R1, rfl⟩
              have hLa : Ls[t]? = some La := by rw [HPR.out, ← hPt']; exact at_end
              obtain ⟨Aa, ca, hxa, howna⟩ := HLA.out.2 t La hLa
              have hca := HOA.out.cellAt t (by rw [← HM.out]; omega)
              rw [hxa] at hca
              have d3 : decide ((t : Int) < (m : Int)) = true := decide_eq_true (by omega)
              have HOWA := Lib.hid howna
              obtain ⟨na, hna⟩ : ∃ na, na = La.length := ⟨_, rfl⟩
              rw [← hna] at hca
              have HNA := Lib.hid hna
              clear hxa howna hLa hna
              simp only [List.length_cons] at hlen3
              have HLEN := Lib.hid hlen3
              have HPT := Lib.hid hPt'
              clear hlen3 hPt'
              by_cases e3 : t + 1 < m
              · have d4 : decide ((t : Int) + 1 < (m : Int)) = true := decide_eq_true (by omega)
                obtain ⟨Lb, R2, rfl⟩ : ∃ L R2, R1 = L :: R2 := by
                  have := HLEN.out
                  have := HPT.out
                  cases R1 with
                  | nil => simp at *; omega
                  | cons L R2 => exact ⟨L, R2, rfl⟩
                have hLb : Ls[t + 1]? = some Lb := by
                  have e : P ++ La :: Lb :: R2 = (P ++ [La]) ++ Lb :: R2 := by simp
                  rw [HPR.out, e, ← HPT.out, show P.length + 1 = (P ++ [La]).length by simp]
                  exact at_end
                obtain ⟨Ab, cb, hxb, hownb⟩ := HLA.out.2 (t + 1) Lb hLb
                have hcb := HOA.out.cellAt (t + 1) (by rw [← HM.out]; omega)
                rw [hxb] at hcb
                have hp0 := HR2.out.perm
                rw [HPR.out] at hp0
                obtain ⟨hla, hlb, hab⟩ := flat_two hp0
                rw [HSL.out] at hla hlb hab
                have hMG := fun (w4 : World) (h1 : w4.ownsRow w.heap.size 3 1 (.slice Aa La.length ca) La.length (La.map iv)) (h2 : w4.ownsRow w.heap.size 3 1 (.slice Ab Lb.length cb) Lb.length (Lb.map iv)) => rmerged_list w4 s w.heap.size Aa Ab ca cb La Lb h1 h2 hla hlb hs hab
                have hM4 := hMG w3.drew HOWA.out hownb
                obtain ⟨nb, hnb⟩ : ∃ nb, nb = Lb.length := ⟨_, rfl⟩
                rw [← hnb] at hcb
                rw [← hnb, ← HNA.out] at hM4
                obtain ⟨M, hM⟩ : ∃ M, M = mergeL s.data.toList La Lb := ⟨_, rfl⟩
                rw [← hM] at hM4
                obtain ⟨k, hk⟩ : ∃ k, k = M.length := ⟨_, rfl⟩
                rw [← hk] at hM4
                have HM4 := Lib.hid hM4
                have HMM := Lib.hid hM
                have HK := Lib.hid hk
                have HRO4 := Lib.hid (show w3.drew.ownsRow w2.heap.size 34 1 (.slice A3 p c3) p zs from HRO.out)
                have HB4 := Lib.hid HB3.out.drew
                have HL4 := Lib.hid (show Lists w3.drew w.heap.size zs (passL s.data.toList P) from HI.out.lists)
                have hz4 : w2.heap.size ≤ w3.drew.heap.size := hz3
                clear hxb hownb hLb hp0 hla hlb hab hMG hM4 hnb hM hk
                have hwr : IntKind.i64.wrap ((t : Int) + 1) = (t : Int) + 1 := by rw [IntKind.wrap_i64]; omega
                have hi0 : (0 : Int) ≤ (t : Int) + 1 := by omega
                have hi1 : (t : Int) + 1 < (m : Int) := by omega
                have hgB : g < w2.heap.size := by
                  have h1 := HR2.out.row.cellAt t (by rw [← HM.out]; omega)
                  obtain ⟨A', c', h2, _⟩ := HR2.out.lists.2 t La (by rw [HPR.out, ← HPT.out]; exact at_end)
                  rw [h2] at h1
                  exact World.block_lt_of_cell? w2 _ h1
                have hg1 : w3.drew.cell? ⟨g, t, none⟩ = some (.slice Aa na ca) := hca
                have hg2 : w3.drew.cell? ⟨g, t + 1, none⟩ = some (.slice Ab nb cb) := hcb
                go_upto_region 12 with fail
                go_region_held3 (fun w' => w'.cell? ⟨g, t, none⟩ = some (.slice Aa na ca) ∧ w'.cell? ⟨g, t + 1, none⟩ = some (.slice Ab nb cb)) (first | exact ⟨hca, hcb⟩ | exact ⟨hg1, hg2⟩ | exact ⟨e1, e2⟩ | exact ⟨f1, f2⟩ | exact ⟨k1, k2⟩ | go_keep)
                  (first | (refine step_append_run rfl _ _ 55 rfl _ _ rfl rfl hrun ?_) | (go_at_call 24; refine HM4.out.mono ?_; rintro e w5 ⟨A5, c5, rfl, ho5, hb5⟩; have hS5 := step_of_below hb5; have hr5 := hS5.row HRO4.out (fun _ _ => List.not_mem_nil) List.not_mem_nil; have hz5 : w2.heap.size ≤ w5.heap.size := Nat.le_trans hz4 hb5.size; obtain ⟨v6, w6, hrun, hr6, hS6⟩ := step_next w2.heap.size w5 A3 A5 p c3 k c5 zs hr5 hz5 hpm; have hb25 := hb5.mono hz4; have e1 := (hb25.cell (p := ⟨g, t, none⟩) hgB).trans hg1; have e2 := (hb25.cell (p := ⟨g, t + 1, none⟩) hgB).trans hg2; have hba := (Below.refl w2.heap.size w5).alloc hz5 (.cells #[.slice A5 k c5] 34); have f1 := (hba.cell (p := ⟨g, t, none⟩) hgB).trans e1; have f2 := (hba.cell (p := ⟨g, t + 1, none⟩) hgB).trans e2; have k1 := (hS6.below.cell (p := ⟨g, t, none⟩) hgB).trans e1; have k2 := (hS6.below.cell (p := ⟨g, t + 1, none⟩) hgB).trans e2))
                have hpa : passL s.data.toList (P ++ [La, Lb]) = passL s.data.toList P ++ [mergeL s.data.toList La Lb] := passL_append s.data.toList [La, Lb] j P (by rw [HPT.out, HJ.out])
                have hS6' : Step w.heap.size [] [34] w5 w6 := hS6.mono hz2' (fun _ h => h) (fun _ h => h)
                have hI6 : RInner w w6 w2.heap.size s.data.toList v6 (zs ++ [.slice A5 k c5]) (P ++ [La, Lb]) := by
                  refine ⟨?_, ?_⟩
                  · rw [hpa, List.length_append, ← HP.out]
                    exact hr6
                  · have h1 := (HL4.out.step hS5 List.not_mem_nil).step hS6' (by decide)
                    have h2 := hS6'.row (own_low ho5 (Nat.le_trans hz2' hz4)) (fun _ _ => List.not_mem_nil) (by decide)
                    rw [HK.out] at h2
                    have h3 := h1.snoc h2
                    rw [hpa, HK.out, ← HMM.out]
                    exact h3
                have HI6 := Lib.hid hI6
                have HB6 := Lib.hid (HB4.out.trans (hb25.trans hS6.below))
                clear hrun hr6 hS6 hS6' hI6 hpa ho5 hb5 hb25 hr5 hS5 e1 e2 f1 f2 k1 k2 hba
                go_wp2_with fail
                go_roundw
                case rel => exact ⟨t + 2, by go_num, by omega, _, P ++ [La, Lb], R2, j + 1, by rw [HPR.out]; simp, by rw [HJ.out]; omega, .inl (by rw [List.length_append, HPT.out]; rfl), HI6.out, HB6.out⟩
                case measure => simp [intOf]; omega
              · have d4 : decide ((t : Int) + 1 < (m : Int)) = false := decide_eq_false (by omega)
                go_wp2_with (at_builtin; refine wpList_append_own _ rfl _ _ 55 rfl w2.heap.size 34 i30 (.slice none 0 0) 1 24 Try.underlying55 h30 hz0 hz1 hz2 rfl (by decide) _ _ _ rfl (HRO.out.alloc _) ⟨w3.heap.size, 0, none⟩ 1 1 [.slice Aa na ca] rfl rfl ?c1 ?c2 ?c3 ?c4 ?c5 ?_)
                case c1 => exact cell_one _ _ _
                case c2 => intro u hu; simp at hu; subst hu; rfl
                case c3 => unfold maxLen; omega
                case c4 => omega
                case c5 => simp; omega
                intro v4 w4 hown4 hgrow4 _
                have hlen3 := HLEN.out
                have hPt' := HPT.out
                have hR1 : R1 = [] := List.eq_nil_of_length_eq_zero (by omega)
                subst hR1
                have hsa : Step w.heap.size [] [34] w3 w4 :=
                  ((Step.refl _ _ _ _).alloc (by omega) _).grown hgrow4 (by simp; omega) fun k hk => ⟨Nat.le_trans hz2' (row_blk (HRO.out.alloc (.cells #[.slice Aa na ca] 34)) k hk).1, (row_blk (HRO.out.alloc (.cells #[.slice Aa na ca] 34)) k hk).2⟩
                have hb4 : Below w2.heap.size w2 w4 := (HB3.out.alloc hz3 _).grown hgrow4 (by simp; omega) fun k hk => (HRO.out.lt k hk).1
                have hpa : passL s.data.toList (P ++ [La]) = passL s.data.toList P ++ [La] := passL_append s.data.toList [La] j P (by rw [hPt', HJ.out])
                have hI4 : RInner w w4 w2.heap.size s.data.toList v4 (zs ++ [.slice Aa na ca]) (P ++ [La]) := by
                  refine ⟨?_, ?_⟩
                  · rw [hpa, List.length_append, ← HP.out]
                    exact hown4
                  · rw [hpa, HNA.out]
                    rw [HNA.out] at hown4 hgrow4
                    exact (HI.out.lists.step hsa (by decide)).snoc (hsa.row HOWA.out (fun _ _ => List.not_mem_nil) (by decide))
                have HI4 := Lib.hid hI4
                have HB4 := Lib.hid hb4
                clear hown4 hgrow4 hsa hb4 hpa hI4 hlen3 hPt'
                go_wp2_with fail
                go_roundw
                case rel => exact ⟨t + 2, by go_num, by omega, _, P ++ [La], [], j + 1, by rw [HPR.out, List.append_nil], by rw [HJ.out]; omega, .inr ⟨rfl, by rw [List.length_append, List.length_singleton, HPT.out]⟩, HI4.out, HB4.out⟩
                case measure => simp [intOf]; omega
            · have d3 : decide ((t : Int) < (m : Int)) = false := decide_eq_false (by omega)
              have hR0 : R = [] := by
                rcases hPt with h | ⟨h, _⟩
                · exact List.eq_nil_of_length_eq_zero (by omega)
                · exact h
              subst hR0
              have hLP : Ls = P := by rw [HPR.out, List.append_nil]
              have hpass : p = (passL s.data.toList Ls).length := by rw [hLP]; exact HP.out
              have hpm2 : p < m := by
                have h1 := HPL.out
                simp at hlen3
                omega
              have hRn : RRound w w3 s.data.toList (.slice A3 p c3) zs (passL s.data.toList Ls) := by
                refine ⟨?_, ?_, passL_parts _ _ HR2.out.parts, (passL_perm _ _).trans HR2.out.perm, HR2.out.below.trans (HB3.out.mono hz2')⟩
                · rw [← hpass]
                  exact own_low HRO.out hz2'
                · rw [hLP]
                  exact HI.out.lists
              have HRN := Lib.hid hRn
              have HPA := Lib.hid hpass
              clear hRn hpass hLP hlen3 hPt
              go_wp2_with fail
              go_roundw
              case rel => exact ⟨zs, _, HRN.out, by rw [← HPA.out]; omega⟩
              case measure => exact hpm2
        · have d2 : decide ((1 : Int) < (m : Int)) = false := decide_eq_false (by omega)
          by_cases e0 : m = 0
          · subst e0
            have d3 : (((0 : Nat) : Int) == 0) = true := rfl
            have hnil : Ls = [] := List.eq_nil_of_length_eq_zero HM.out.symm
            go_wp2_with fail
            go_ret
            refine ⟨none, 0, [], rfl, World.ownsRow_nil _ _ _ _, ?_, HR2.out.below⟩
            have hp := HR2.out.perm
            rw [hnil] at hp
            exact sorted_perm List.Pairwise.nil hp
          · obtain rfl : m = 1 := by omega
            obtain ⟨g, rfl⟩ := HA1.out (by rw [← HM.out]; omega)
            obtain ⟨L, hL⟩ : ∃ L, Ls = [L] := by
              have := HM.out
              match Ls, this with
              | [L], _ => exact ⟨L, rfl⟩
            subst hL
            obtain ⟨A2, c2, hx, hown⟩ := HR2.out.lists.2 0 L rfl
            have hc := HR2.out.row.cellAt 0 (by simp)
            rw [hx] at hc
            have HOW := Lib.hid hown
            clear hx hown
            go_wp2_with fail
            go_ret
            exact ⟨A2, c2, L, rfl, HOW.out, parts_ord _ L HR2.out.parts HR2.out.perm, HR2.out.below⟩

end Go.Proofs.Ytglcideecelemaa
