/- The program's Decode of runs. Conditions: a text of at most 2097152 bytes. -/
import Derived.Test.YtihmlhkjafajmaaHe
import Derived.Test.YtihmlhkjafajmaaHf
import Derived.WalkMore
namespace Go.Proofs.Ytihmlhkjafajmaa
open Go.RowKit

theorem conv_laid {w : World} {B : Nat} {v : Value} {l : List UInt8} (h : w.ownsRow B 5 1 v l.length (l.map bv)) : (convert 35 9 v).run Try.prog w = .ok (.string ⟨l.toArray⟩) w := by
  rcases h.2 with ⟨rfl, h0⟩ | ⟨g, cap, cur, rfl, _⟩
  · have : l = [] := List.eq_nil_of_length_eq_zero h0
    subst this
    exact run_convert_bytes_nil w 35 5 Try.underlying35 Try.underlying5 0 0 9 Try.underlying9
  · have hn : ∀ j (hj : j < l.length), w.cell? ((⟨g, 0, none⟩ : Addr).add j) = some (.int .u8 (l[j].toNat : Int)) := by
      intro j hj
      have h1 := h.cells (g := g) rfl j (.int .u8 (l[j].toNat : Int))
      exact h1 (by rw [List.getElem?_map, List.getElem?_eq_getElem hj]; rfl)
    exact run_convert_bytes_back w 35 9 5 ⟨g, 0, none⟩ cap l Try.underlying35 Try.underlying5 Try.underlying9 hn

/-- What Decode has laid so far: the block of its variable, the row in it. -/
structure Out (B : Nat) (w : World) (o : List UInt8) : Prop where
  size : B ≤ w.heap.size
  laid : ∃ v, Blk w B 35 #[v] ∧ w.ownsRow B 5 1 v o.length (o.map bv)
  most : o.length ≤ 262144
theorem Out.drewN {B : Nat} {w : World} {o : List UInt8} (h : Out B w o) (k : Nat) : Out B (w.drewN k) o := ⟨h.size, h.laid, h.most⟩

theorem lay_out (B : Nat) (w0 w : World) (o : List UInt8) (p : ByteArray) (hO : Out B w o) (hp : p.size ≤ 2097152) (h0 : 0 < o.length + p.size) (hb : Below B w0 w) :
    Calls Try.prog 17 #[.pointer (some ⟨B, 0, none⟩), .string p] w fun e w' => e = .returned (.bool (decide (o.length + p.size ≤ 262144))) ∧ Below B w0 w' ∧ (o.length + p.size ≤ 262144 → Out B w' (o ++ p.data.toList)) := by
  obtain ⟨v, hblk, hown⟩ := hO.laid
  have hm := hO.most
  by_cases h : o.length + p.size ≤ 262144
  · refine (clay_fits w B B o.length v _ p (Nat.le_refl _) hblk hown hO.size (by omega) h0 (by omega)).mono ?_
    rintro e w' ⟨v', rfl, hblk', hb', hown'⟩
    refine ⟨by rw [decide_eq_true h], hb.trans hb', fun _ => ⟨Nat.le_trans hO.size hb'.size, ⟨v', hblk', ?_⟩, by rw [List.length_append]; exact h⟩⟩
    rw [List.length_append, List.map_append]
    exact hown'
  · refine (clay_big w B B o.length v _ p hblk hown (by omega) (by omega)).mono ?_
    rintro e w' ⟨rfl, rfl⟩
    exact ⟨by rw [decide_eq_false h], hb, fun h' => absurd h' h⟩

set_option maxHeartbeats 1600000 in
set_option maxRecDepth 1000000 in
theorem cdec_any (w : World) (s : ByteArray) (hs : s.size ≤ 2097152) :
    Calls Try.prog 12 #[.string s] w fun e w' => e = .returned (.tuple #[.string ⟨(decL [] s.data.toList).1.toArray⟩, .int .i64 (decL [] s.data.toList).2]) ∧ Below w.heap.size w w' := by
  have hst : Out w.heap.size (w.alloc (.cells #[.slice none 0 0] 35)) [] := ⟨by simp, ⟨_, blk_new w 35 _, World.ownsRow_nil _ _ _ _⟩, by simp⟩
  have hb0 : Below w.heap.size w (w.alloc (.cells #[.slice none 0 0] 35)) := (Below.refl _ _).alloc (Nat.le_refl _) _
  go_enter Try.func12, Try.ntmps12
  go_wp2_with fail
  go_step3
  go_wp2_with fail
  go_step3
  go_wp2_with fail
  obtain ⟨B, hB⟩ : ∃ B, B = w.heap.size := ⟨_, rfl⟩
  rw [← hB] at hst hb0 ⊢
  generalize w.alloc (.cells #[.slice none 0 0] 35) = w1 at *
  have HBE := Lib.hid hB
  clear hB
  go_loopw [0] (fun a wr => ∃ (t : ByteArray) (o : List UInt8), a = .string t ∧ t.size ≤ s.size ∧ decL o t.data.toList = decL [] s.data.toList ∧ Out B wr o ∧ Below B w wr) (fun a _ => txtLen a)
  case atStart => exact ⟨s, [], rfl, Nat.le_refl _, rfl, hst, hb0⟩
  case round =>
    obtain ⟨t, o, rfl, hts, hdec, hO, hb⟩ := hrel
    by_cases h : 0 < t.size
    · have HD := Lib.hid hdec
      have HO := Lib.hid hO
      have HB := Lib.hid hb
      have hm := hO.most
      have HM := Lib.hid hm
      clear hdec hO hb hst hb0 hm
      go_wp2_with fail
      go_loopw [0, 5] (fun a i wx => ∃ n k : Nat, a = .string t ∧ 1 ≤ n ∧ n ≤ 4 ∧ n ≤ t.size ∧ i = .int .i64 n ∧ sameN t.data.toList = n + runN t[0] (4 - n) (t.data.toList.drop n) ∧ wx = wr.drewN k) (fun _ i _ => 4 - (intOf i).toNat)
      case atStart =>
        refine ⟨1, 0, rfl, Nat.le_refl _, by omega, h, rfl, ?_, rfl⟩
        rw [list_head t h]
        rfl
      case round =>
        obtain ⟨n, k, rfl, h1, h4, hn, rfl, hsm, rfl⟩ := hrel
        have hx : (t.extract 0 n).size = n := by rw [ByteArray.size_extract]; omega
        have hol := HM.out
        have hlay := fun K => lay_out B w (wr.drewN K) o (t.extract 0 n) (HO.out.drewN _) (by rw [hx]; omega) (by rw [hx]; omega) (below_drewN HB.out _)
        rw [hx, ext_take] at hlay
        by_cases e4 : n < 4
        · by_cases e : ∃ (e1 : n < t.size), t[n] = t[0]
          · obtain ⟨e1, e2⟩ := e
            have HK := Lib.hid (run_more t.data.toList n 4 _ t[0] t[n] (data_get t n e1) e2 e4 hsm)
            have q0 : ((n : Int) == (t.size : Int)) = false := by
              simp only [beq_eq_false_iff_ne, ne_eq]
              omega
            have q : (((t[n].toNat : Nat) : Int) != ((t[0].toNat : Nat) : Int)) = false := by rw [e2]; simp
            clear hsm hlay hol hx e2
            go_wp2_with fail
            go_quiet (fail)
            go_wp2_with fail
            exact ⟨⟨n + 1, _, rfl, by omega, by omega, by omega, by go_num, HK.out, rfl⟩, by simp [intOf]; omega⟩
          · have hend : sameN t.data.toList = n := by
              refine run_end _ n 4 _ _ hsm ?_
              by_cases e1 : n < t.size
              · exact .inr (.inr ⟨t[n], data_get t n e1, fun e3 => e ⟨e1, e3⟩⟩)
              · exact .inl (by show t.size ≤ n; omega)
            have hne : t.data.toList ≠ [] := fun e => by
              have : t.data.toList.length = 0 := by rw [e]; rfl
              have h2 : t.data.toList.length = t.size := rfl
              omega
            have hfew := dec_few o t.data.toList n hne hend e4 hol
            rw [HD.out] at hfew
            have HF := Lib.hid hfew
            have HL := Lib.hid hlay
            clear hfew hlay hne hend hol
            by_cases e1 : n < t.size
            · have e2 : t[n] ≠ t[0] := fun e2 => e ⟨e1, e2⟩
              have q0 : ((n : Int) == (t.size : Int)) = false := by
                simp only [beq_eq_false_iff_ne, ne_eq]
                omega
              have q : (((t[n].toNat : Nat) : Int) != ((t[0].toNat : Nat) : Int)) = true := by
                simp only [bne_iff_ne, ne_eq]
                intro h
                exact e2 (UInt8.toNat_inj.1 (by omega))
              clear e e2 hsm
              go_wp2_with fail
              go_quiet (fail)
              go_wp2_with fail
              refine (HL.out _).mono ?_
              rintro e w2 ⟨rfl, hb2, hO2⟩
              have HB2 := Lib.hid hb2
              have HO2 := Lib.hid hO2
              clear hb2 hO2
              by_cases hf : o.length + n ≤ 262144
              · have hfe := HF.out
                rw [if_pos hf] at hfe
                have HFE := Lib.hid hfe
                have HOX := Lib.hid (HO2.out hf)
                have hd : decide (o.length + n ≤ 262144) = true := decide_eq_true hf
                clear hfe hf
                rw [hd]
                clear hd
                go_wp2_with fail
                go_roundw
                case rel => exact ⟨t.extract n t.size, o ++ t.data.toList.take n, rfl, by rw [ext_drop_size]; omega, by rw [ext_drop]; exact HFE.out.symm, HOX.out, HB2.out⟩
                case measure => show (t.extract n t.size).size < t.size; rw [ext_drop_size]; omega
              · have hfe := HF.out
                rw [if_neg hf] at hfe
                have HFE := Lib.hid hfe
                have hd : decide (o.length + n ≤ 262144) = false := decide_eq_false hf
                clear hfe hf
                rw [hd]
                clear hd
                go_wp2_with fail
                try rw [Exit.noGoto_ret]
                go_ret2
                rw [← HBE.out, HFE.out]
                exact ⟨rfl, HB2.out⟩
            · have q0 : ((n : Int) == (t.size : Int)) = true := by
                simp only [beq_iff_eq]
                omega
              clear e hsm
              go_wp2_with fail
              go_quiet (fail)
              go_wp2_with fail
              refine (HL.out _).mono ?_
              rintro e w2 ⟨rfl, hb2, hO2⟩
              have HB2 := Lib.hid hb2
              have HO2 := Lib.hid hO2
              clear hb2 hO2
              by_cases hf : o.length + n ≤ 262144
              · have hfe := HF.out
                rw [if_pos hf] at hfe
                have HFE := Lib.hid hfe
                have HOX := Lib.hid (HO2.out hf)
                have hd : decide (o.length + n ≤ 262144) = true := decide_eq_true hf
                clear hfe hf
                rw [hd]
                clear hd
                go_wp2_with fail
                go_roundw
                case rel => exact ⟨t.extract n t.size, o ++ t.data.toList.take n, rfl, by rw [ext_drop_size]; omega, by rw [ext_drop]; exact HFE.out.symm, HOX.out, HB2.out⟩
                case measure => show (t.extract n t.size).size < t.size; rw [ext_drop_size]; omega
              · have hfe := HF.out
                rw [if_neg hf] at hfe
                have HFE := Lib.hid hfe
                have hd : decide (o.length + n ≤ 262144) = false := decide_eq_false hf
                clear hfe hf
                rw [hd]
                clear hd
                go_wp2_with fail
                try rw [Exit.noGoto_ret]
                go_ret2
                rw [← HBE.out, HFE.out]
                exact ⟨rfl, HB2.out⟩
        · obtain rfl : n = 4 := by omega
          have hend : sameN t.data.toList = 4 := run_end _ 4 4 _ _ hsm (.inr (.inl (Nat.le_refl _)))
          have hfour := dec_fourth o t.data.toList t[0] (data_get t 0 h) hend
          rw [HD.out] at hfour
          have HF := Lib.hid hfour
          have HL := Lib.hid hlay
          clear hfour hlay hend hol hsm
          go_wp2_with fail
          refine (HL.out k).mono ?_
          rintro e w2 ⟨rfl, hb2, hO2⟩
          have HB2 := Lib.hid hb2
          have HO2 := Lib.hid hO2
          clear hb2 hO2
          have htl : t.data.toList.length = t.size := rfl
          by_cases hA : o.length + 4 ≤ 262144
          · have hfe := HF.out
            rw [if_neg (by omega), htl] at hfe
            have HOX := HO2.out hA
            have hd : decide (o.length + 4 ≤ 262144) = true := decide_eq_true hA
            rw [hd]
            clear hd
            by_cases h44 : t.size = 4
            · rw [if_pos h44] at hfe
              have HFE := Lib.hid hfe
              have q4 : ((t.size : Int) == 4) = true := by rw [h44]; rfl
              clear hfe HOX hA
              go_wp2_with fail
              try rw [Exit.noGoto_ret]
              go_ret2
              rw [← HBE.out, HFE.out]
              exact ⟨rfl, HB2.out⟩
            · rw [if_neg h44] at hfe
              have h5 : 4 < t.size := by omega
              have hcount : (t.data.toList.getD 4 0).toNat = t[4].toNat := by
                rw [List.getD_eq_getElem?_getD, data_get t 4 h5]
                rfl
              rw [hcount] at hfe
              have hb4 : t[4].toNat < 256 := UInt8.toNat_lt _
              have hol4 : (o ++ t.data.toList.take 4).length = o.length + 4 := by rw [List.length_append, List.length_take, htl]; omega
              have hrep : ∀ w3, Calls Try.prog 18 #[.string (t.extract 0 1), .int .i64 t[4].toNat] w3 fun e w' => e = .returned (.string ⟨(List.replicate t[4].toNat t[0]).toArray⟩) ∧ Below w3.heap.size w3 w' := by
                intro w3
                have hr := repeat_any w3 (t.extract 0 1) t[4].toNat (by omega) (by rw [ByteArray.size_extract]; have : min 1 t.size - 0 ≤ 1 := by omega
                                                                                   have := Nat.mul_le_mul this (Nat.le_of_lt hb4)
                                                                                   omega)
                have hone : (t.extract 0 1).data.toList = List.replicate 1 t[0] := by
                  rw [ext_take, list_head t h]
                  rfl
                rw [hone, Lib.repeatL_replicate, Nat.mul_one] at hr
                exact hr
              have q4 : ((t.size : Int) == 4) = false := by
                simp only [beq_eq_false_iff_ne, ne_eq]
                omega
              obtain ⟨p, hp⟩ : ∃ p : ByteArray, p = ⟨(List.replicate t[4].toNat t[0]).toArray⟩ := ⟨_, rfl⟩
              have hps : p.size = t[4].toNat := by
                rw [hp]
                show (List.replicate t[4].toNat t[0]).toArray.size = _
                simp
              have hpl : p.data.toList = List.replicate t[4].toNat t[0] := by rw [hp]
              rw [← hp] at hrep
              have hlay2 := fun (w3 : World) (hO3 : Out B w3 (o ++ t.data.toList.take 4)) (hb3 : Below B w w3) => lay_out B w w3 (o ++ t.data.toList.take 4) p hO3 (by omega) (by omega) hb3
              have HFE := Lib.hid hfe
              have HREP := Lib.hid hrep
              have HL2 := Lib.hid hlay2
              have HOX := Lib.hid HOX
              have HPS := Lib.hid hps
              have HPL := Lib.hid hpl
              have HOL := Lib.hid hol4
              have hI4 : (4 : Int) < t.size := by omega
              have hI1 : (1 : Int) ≤ t.size := by omega
              clear hfe hrep hlay2 hps hpl hol4 hp hA hcount
              go_upto_region 14 with fail
              go_still_tail 5, (by kernel_rfl)
              change wpList _ _ _ _ _ w2.drew
              have HB3 := Lib.hid (HB2.out.drew)
              have hO3 : Out B w2.drew (o ++ t.data.toList.take 4) := ⟨HOX.out.size, HOX.out.laid, HOX.out.most⟩
              have HO3 := Lib.hid hO3
              have hz3 : B ≤ w2.drew.heap.size := hO3.size
              clear hO3
              generalize w2.drew = w3 at *
              go_wp2_with fail
              refine (HREP.out w3).mono ?_
              rintro e w4 ⟨rfl, hb5⟩
              have HB4 := Lib.hid (HB3.out.trans (hb5.mono hz3))
              obtain ⟨v3, hbl3, how3⟩ := HO3.out.laid
              have hO4 : Out B w4 (o ++ t.data.toList.take 4) := ⟨Nat.le_trans hz3 hb5.size, ⟨v3, (step_of_below hb5).blk hbl3 List.not_mem_nil List.not_mem_nil, (step_of_below hb5).row how3 (fun _ _ => List.not_mem_nil) List.not_mem_nil⟩, HO3.out.most⟩
              have HO4 := Lib.hid hO4
              clear hO4 hbl3 how3 hb5
              go_wp2_with fail
              refine (HL2.out w4 HO4.out HB4.out).mono ?_
              rintro e w5 ⟨rfl, hb6, hO6⟩
              have HB6 := Lib.hid hb6
              have HO6 := Lib.hid hO6
              clear hb6 hO6
              have hfe := HFE.out
              rw [HPS.out, HOL.out]
              by_cases hf : o.length + 4 + t[4].toNat ≤ 262144
              · rw [if_neg (by omega)] at hfe
                have HFF := Lib.hid hfe
                have HO7 := Lib.hid (HO6.out (by rw [HPS.out, HOL.out]; exact hf))
                have hd : decide (o.length + 4 + t[4].toNat ≤ 262144) = true := decide_eq_true hf
                clear hfe hf
                rw [hd]
                clear hd
                have hI5 : (5 : Int) ≤ t.size := by omega
                go_wp2_with fail
                go_roundw
                case rel => exact ⟨t.extract 5 t.size, o ++ t.data.toList.take 4 ++ List.replicate t[4].toNat t[0], rfl, by rw [ext_drop_size]; omega, by rw [ext_drop]; exact HFF.out.symm, by rw [← HPL.out]; exact HO7.out, HB6.out⟩
                case measure => show (t.extract 5 t.size).size < t.size; rw [ext_drop_size]; omega
              · rw [if_pos (by omega)] at hfe
                have HFF := Lib.hid hfe
                have hd : decide (o.length + 4 + t[4].toNat ≤ 262144) = false := decide_eq_false hf
                clear hfe hf
                rw [hd]
                clear hd
                go_wp2_with fail
                try rw [Exit.noGoto_ret]
                go_ret2
                rw [← HBE.out, HFF.out]
                exact ⟨rfl, HB6.out⟩
          · have hfe := HF.out
            rw [if_pos (by omega)] at hfe
            have HFE := Lib.hid hfe
            have hd : decide (o.length + 4 ≤ 262144) = false := decide_eq_false hA
            rw [hd]
            clear hfe hA hd
            go_wp2_with fail
            try rw [Exit.noGoto_ret]
            go_ret2
            rw [← HBE.out, HFE.out]
            exact ⟨rfl, HB2.out⟩
    · have hz : t.size = 0 := by omega
      have ht : t.data.toList = [] := List.eq_nil_of_length_eq_zero hz
      rw [ht, decL_nil] at hdec
      obtain ⟨v, hblk, hown⟩ := hO.laid
      have hconv := conv_laid hown
      obtain ⟨A0, c0, rfl, _, _, _⟩ := own_slice hown
      have h0 := blk_cell hblk 0
      simp at h0
      have HD := Lib.hid hdec
      have HB := Lib.hid hb
      clear hdec hb hown hO hst hb0
      go_wp2_with fail
      try rw [Exit.noGoto_ret]
      go_ret2
      rw [← HBE.out, ← HD.out]
      exact ⟨rfl, HB.out⟩

end Go.Proofs.Ytihmlhkjafajmaa
