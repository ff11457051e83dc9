/- Tar's reader: fileHeader. Conditions: the tables are there; texts of at most 1000000 bytes. -/
import Derived.Test.YtdjmfkodjjjhfaaGreatDoorTvh
import Derived.Test.YtdjmfkodjjjhfaaGreatDoorUve
import Derived.Test.YtdjmfkodjjjhfaaGreatDoorTvj
import Derived.Test.YtdjmfkodjjjhfaaGreatDoorTre
namespace Go.Proofs.YtdjmfkodjjjhfaaGreatDoor
open Go.RowKit

theorem cdecode_any (w : World) (t : ByteArray) (ht : t.size ≤ 140737488355328) : Calls Tryz.prog 99 #[.string t] w fun e w' => e = .returned (.tuple #[headV (decA t.data.toList).1, .int .i64 (decA t.data.toList).2]) ∧ Below w.heap.size w w' := by
  by_cases h : t.size = 512
  · exact cdec_yes w t h
  · rw [decA_short (show t.data.toList.length ≠ 512 from h)]
    exact cdec_no w t ht h
theorem cheader_any (w : World) (g : Nat) (r : List UInt8) (b : Bool) (h : Rd w g (strF r) b) (hs : r.length ≤ 1000000) :
    Calls Tryz.prog 61 #[.pointer (some ⟨g, 0, none⟩)] w fun e w' => e = .returned (headV (hdP r)) ∧ Rd w' g (strF (r.drop 512)) (b || hdE r) ∧ Step g [g] [] w w' :=
  cheader_over cdecode_any w g (strF r) b h (by show r.length ≤ _; omega)
theorem str_front (r : List UInt8) (n : Nat) : (strF r).extract 0 n = strF (r.take n) := by
  apply ByteArray.ext
  apply Array.toList_inj.1
  rw [fext_list, List.drop_zero]
  rfl
theorem str_back (r : List UInt8) (n : Nat) : (strF r).extract n (strF r).size = strF (r.drop n) := by
  apply ByteArray.ext
  apply Array.toList_inj.1
  rw [fext_list, List.take_of_length_le (show (strF r).data.toList.length ≤ (strF r).size from Nat.le_refl _)]
  rfl
theorem cdata_all (w : World) (g : Nat) (r : List UInt8) (b : Bool) (n : Nat) (h : Rd w g (strF r) b) (hn : n ≤ 9007199254740992) (hs : r.length ≤ 1000000) :
    Calls Tryz.prog 35 #[.pointer (some ⟨g, 0, none⟩), .int .i64 n] w fun e w' => ∃ T r2 sh, e = .returned (.string (strF T)) ∧ Rd w' g (strF r2) (b || sh) ∧ Step g [g] [] w w' ∧ T.length ≤ r.length ∧ r2.length ≤ r.length ∧
      if r.length < upTo n then sh = true else sh = false ∧ T = r.take n ∧ r2 = r.drop (upTo n) := by
  refine (cdata_any w g (strF r) b n h hn (by show r.length ≤ _; omega)).mono ?_
  rintro e w' ⟨hst, hor⟩
  rw [show (strF r).size = r.length from rfl] at hor
  by_cases el : r.length < upTo n
  · rw [if_pos el] at hor
    exact ⟨[], r, true, hor.1, by rw [Bool.or_true]; exact hor.2, hst, Nat.zero_le _, Nat.le_refl _, by rw [if_pos el]⟩
  · rw [if_neg el] at hor
    refine ⟨r.take n, r.drop (upTo n), false, by rw [hor.1, str_front], ?_, hst, by rw [List.length_take]; omega, by rw [List.length_drop]; omega, by rw [if_neg el]; exact ⟨rfl, rfl, rfl⟩⟩
    have h2 := hor.2
    rw [show (r.length : Nat) = (strF r).size from rfl, str_back] at h2
    rw [Bool.or_false]
    exact h2
theorem cpdec_all (w : World) (hT : Tabs w) (T : List UInt8) (hz : T.length ≤ 1000000) (a1 : Nat) (ha : a1 < w.heap.size) :
    Calls Tryz.prog 62 #[.string (strF T)] w fun e w' => ∃ A n c L kE, e = .returned (.tuple #[.slice A n c, .int .i64 (kE : Nat)]) ∧ Prs w' a1 A n c L ∧ n ≤ maxLen ∧ Below w.heap.size w w' ∧ (∀ p, p ∈ L → p.2.size ≤ 1000000) ∧
      ((kE = 0 ∧ T.length ≤ 262144 ∧ keysK (L.map toL) ∧ flatP (L.map toL) = T) ∨ (kE ≠ 0 ∧ ∀ l, keysK l → flatP l = T → 262144 < T.length)) := by
  refine (cpdec_own w hT (strF T) (by show T.length ≤ _; unfold maxLen; omega)).mono ?_
  rintro e w' (⟨A, n, c, L, rfl, h1, h2, h3, h4, h5, h6⟩ | ⟨rfl, h2, h3⟩)
  · have h3' : flatP (L.map toL) = T := h3
    refine ⟨A, n, c, L, 0, rfl, ⟨_, ha, h5⟩, h4, h6, fun p hp => ?_, .inl ⟨rfl, h1, h2, h3'⟩⟩
    have h8 := part_le (L.map toL) (toL p) (List.mem_map_of_mem hp)
    rw [h3'] at h8
    have h9 : (recL (toL p)).length = (decL (recN (toL p))).length + (prestL (toL p)).length := by rw [recL, List.length_append]
    have h10 := prestL_length (toL p)
    have h11 : (toL p).2.length = p.2.size := rfl
    omega
  · refine ⟨none, 0, 0, [], _, rfl, Prs.nil (Nat.lt_of_lt_of_le ha h3.size), Nat.zero_le _, h3, (fun p hp => by cases hp), .inr ⟨?_, h2⟩⟩
    split <;> omega
theorem Prs.stepG {wx wy : World} {a1 n c g B : Nat} {A : Option Addr} {L : List PairB} (h : Prs wx a1 A n c L) (hs : Step B [g] [] wx wy) (hg : g ≤ a1) : Prs wy a1 A n c L := by
  obtain ⟨base, hb, ho⟩ := h
  refine ⟨base, hb, hs.row ho (fun k hk hm => ?_) List.not_mem_nil⟩
  have h1 := (World.ownsRow.lt ho k hk).1
  have h2 := List.mem_singleton.1 hm
  omega

/-- What fileHeader tells: a header, what is left, whether something was wrong; Read's answer by these. -/
def FhPost (w : World) (g : Nat) (s : List UInt8) (e : Ending) (w' : World) : Prop :=
  ∃ (X : HeadP) (r : List UInt8) (b : Bool), e = .returned (headV X) ∧ Rd w' g (strF r) b ∧ Step g [g] [] w w' ∧ readT s = finS X r b ∧ (∃ n : Nat, X.size = n ∧ n ≤ 9007199254740992) ∧ X.path.size ≤ 1000000 ∧ X.kind < 256 ∧ r.length ≤ s.length
set_option maxHeartbeats 6400000 in
set_option maxRecDepth 100000 in
theorem cfh_any (w : World) (g : Nat) (hT : ∀ wx : World, Below g w wx → Tabs wx) (s : List UInt8) (h : Rd w g (strF s) false) (hs : s.length ≤ 1000000) :
    Calls Tryz.prog 34 #[.pointer (some ⟨g, 0, none⟩)] w (FhPost w g s) := by
  have HTB := Lib.hid hT
  have HG := Lib.hid (blk_lt h)
  have HZ : Hid (Blk (w.alloc (.cells #[.string ⟨#[]⟩, .int .i64 0, .int .u8 0, .int .i64 0, .int .i64 0, .string ⟨#[]⟩, .string ⟨#[]⟩, .string ⟨#[]⟩, .int .i64 0, .int .i64 0] 65)) w.heap.size 65 zeroCs) := Lib.hid (blk_new w 65 zeroCs)
  have HR := Lib.hid (rd_past h (.cells #[.string ⟨#[]⟩, .int .i64 0, .int .u8 0, .int .i64 0, .int .i64 0, .string ⟨#[]⟩, .string ⟨#[]⟩, .string ⟨#[]⟩, .int .i64 0, .int .i64 0] 65))
  have HS : Hid (Step g [g] [] w (w.alloc (.cells #[.string ⟨#[]⟩, .int .i64 0, .int .u8 0, .int .i64 0, .int .i64 0, .string ⟨#[]⟩, .string ⟨#[]⟩, .string ⟨#[]⟩, .int .i64 0, .int .i64 0] 65))) := Lib.hid ((Step.refl g [g] [] w).alloc (Nat.le_of_lt HG.out) _)
  have HP : Hid (∀ (X : HeadP) (r : List UInt8) (b : Bool), readT s = finS X r b → (∃ n : Nat, X.size = n ∧ n ≤ 9007199254740992) → X.path.size ≤ 1000000 → X.kind < 256 → r.length ≤ s.length → ∀ w', Rd w' g (strF r) b → Step g [g] [] w w' → FhPost w g s (.returned (headV X)) w') := Lib.hid fun X r b h1 h2 h3 h3' h4 w' h5 h6 => ⟨X, r, b, rfl, h5, h6, h1, h2, h3, h3', h4⟩
  generalize FhPost w g s = PO at *
  have HH := Lib.hid fun (wx : World) (r : List UInt8) (b : Bool) (hx : Rd wx g (strF r) b) (hz : r.length ≤ 1000000) => cheader_any wx g r b hx hz
  have HZS := Lib.hid hs
  have HH1 := Lib.hid fun wx hx => HH.out wx s false hx hs
  rw [Bool.false_or] at HH1
  have HPL : Hid ((hdP s).kind ≠ 120 → readT s = finS (hdP s) (s.drop 512) (hdE s)) := Lib.hid fun hk => read_plain hk
  have HFF := Lib.hid (fh_final s)
  have HX := Lib.hid (hdP_facts s)
  have HEZ : Hid ((hdP s).kind = 120 → hdE s = false) := Lib.hid fun hk => by
    cases e : hdE s with
    | false => rfl
    | true => rw [hdE_zero e] at hk; cases hk
  obtain ⟨X, hX⟩ : ∃ X, X = hdP s := ⟨_, rfl⟩
  obtain ⟨b1, hb1⟩ : ∃ b, b = hdE s := ⟨_, rfl⟩
  rw [← hX, ← hb1] at HH1 HPL
  rw [← hX] at HFF HX
  rw [← hX, ← hb1] at HEZ
  have hv : headV X = .agg #[.string X.path, .int .i64 X.size, .int .u8 X.kind, .int .i64 X.mode, .int .i64 X.time, .string X.link, .string X.user, .string X.group, .int .i64 X.uid, .int .i64 X.gid] := rfl
  rw [hv] at HH1
  clear hX hb1 hv h hT hs
  go_enter Tryz.func34, Tryz.ntmps34
  go_upto_region 1 with fail
  generalize w.alloc (.cells #[.string ⟨#[]⟩, .int .i64 0, .int .u8 0, .int .i64 0, .int .i64 0, .string ⟨#[]⟩, .string ⟨#[]⟩, .string ⟨#[]⟩, .int .i64 0, .int .i64 0] 65) = w1 at *
  go_wp2_with fail
  refine (HH1.out _ HR.out).mono ?_
  rintro e w2 ⟨rfl, hr2, hs2⟩
  have hz2 := hs2.blk HZ.out (by have := HG.out; simp; omega) List.not_mem_nil
  have HD3 : Hid (FHd w (w2.alloc (.cells #[.string X.path, .int .i64 X.size, .int .u8 X.kind, .int .i64 X.mode, .int .i64 X.time, .string X.link, .string X.user, .string X.group, .int .i64 X.uid, .int .i64 X.gid] 65)) g w.heap.size w2.heap.size (s.drop 512) b1 X) := Lib.hid
    ⟨rd_past hr2 _, blk_new w2 65 _, blk_past hz2 _, (HS.out.trans hs2).alloc (Nat.le_of_lt (blk_lt hr2)) _, HG.out, blk_lt hz2, rfl⟩
  clear hr2 hs2 hz2 HZ HR HS HH1
  go_upto_region 2 with fail
  generalize w2.alloc (.cells #[.string X.path, .int .i64 X.size, .int .u8 X.kind, .int .i64 X.mode, .int .i64 X.time, .string X.link, .string X.user, .string X.group, .int .i64 X.uid, .int .i64 X.gid] 65) = w3 at *
  generalize w2.heap.size = a1 at *
  have y2 : w3.cell? ⟨a1, 2, none⟩ = some (.int .u8 X.kind) := blk_cell HD3.out.hd 2
  by_cases ek : X.kind = 120
  · have d2 : ((X.kind : Int) != 120) = false := by rw [ek]; rfl
    have hb1 := HEZ.out ek
    rw [hb1] at HD3
    obtain ⟨⟨N, hN, hNz⟩, hXp, _⟩ := HX.out
    have y1 : w3.cell? ⟨a1, 1, none⟩ = some (.int .i64 N) := by rw [← hN]; exact blk_cell HD3.out.hd 1
    have HDA := Lib.hid (cdata_all w3 g (s.drop 512) false N HD3.out.rd hNz (by have := HZS.out; rw [List.length_drop]; omega))
    have HNT : Hid (X.size.toNat = N) := Lib.hid (by rw [hN]; rfl)
    have HEK := Lib.hid ek
    clear hb1 ek hN hXp HPL HEZ HX
    go_wp2_with fail
    refine HDA.out.mono ?_
    rintro e w4 ⟨T, r2, sh, rfl, hr4, hs4, hTz, hrz, hsh⟩
    rw [Bool.false_or] at hr4
    have HD4 := Lib.hid (HD3.out.call hr4 hs4)
    have HSH := Lib.hid hsh
    rw [List.length_drop] at hTz hrz
    have HDC := Lib.hid (cpdec_all w4 (HTB.out _ HD4.out.st.below) T (by have := HZS.out; omega) a1 (blk_lt HD4.out.hd))
    have HRZ := Lib.hid hrz
    clear hr4 hs4 hsh hTz hrz y1 y2 HD3 HDA
    go_wp2_with fail
    refine HDC.out.mono ?_
    rintro e w5 ⟨A, n, c, L, kE, rfl, hI, hn, hb5, hpz, hor⟩
    have HD5 := Lib.hid (HD4.out.low hb5)
    have HI5 := Lib.hid hI
    have HOR := Lib.hid hor
    have HPZ := Lib.hid hpz
    have HNM := Lib.hid hn
    have CK := Lib.hid (ckeep_any w5 g _ sh kE HD5.out.rd)
    clear hI hb5 hpz hor hn HD4 HDC
    go_wp2_with fail
    refine CK.out.mono ?_
    rintro e w6 ⟨rfl, hr6, hs6⟩
    have HD6 := Lib.hid (HD5.out.call hr6 hs6)
    have HI6 := Lib.hid (Prs.stepG HI5.out hs6 (by have := HD5.out.o1; have := HD5.out.o2; omega))
    have HH2 := Lib.hid (HH.out w6 r2 _ HD6.out.rd (by have := HZS.out; have := HRZ.out; omega))
    have HX2 := Lib.hid (hdP_facts r2)
    obtain ⟨Y, hY⟩ : ∃ Y, Y = hdP r2 := ⟨_, rfl⟩
    rw [← hY] at HH2 HX2
    have HY := Lib.hid hY
    have hv : headV Y = .agg #[.string Y.path, .int .i64 Y.size, .int .u8 Y.kind, .int .i64 Y.mode, .int .i64 Y.time, .string Y.link, .string Y.user, .string Y.group, .int .i64 Y.uid, .int .i64 Y.gid] := rfl
    rw [hv] at HH2
    clear hr6 hs6 hY hv HD5 HI5 CK
    go_wp2_with fail
    refine HH2.out.mono ?_
    rintro e w7 ⟨rfl, hr7, hs7⟩
    have HD7 := Lib.hid (HD6.out.call hr7 hs7)
    have HI7 := Lib.hid (Prs.stepG HI6.out hs7 (by have := HD6.out.o1; have := HD6.out.o2; omega))
    clear hr7 hs7 HD6 HI6 HH2
    have HD8 := Lib.hid (HD7.out.row Y)
    have HI8 := Lib.hid (HI7.out.step (step_row w7 a1 (headCs Y)))
    obtain ⟨⟨N2, hN2, hN2z⟩, hYp, hYk⟩ := HX2.out
    have C1 := Lib.hid (clast_any (w7.setRow a1 (headCs Y)) A n c L pathB18 HI8.out.pin HNM.out)
    obtain ⟨V1, hV1⟩ : ∃ V, V = lastA pathB18 L none := ⟨_, rfl⟩
    rw [← hV1] at C1
    have HV1 := Lib.hid hV1
    obtain ⟨PV, hPV⟩ : ∃ v, v = V1.getD Y.path := ⟨_, rfl⟩
    have HPV := Lib.hid hPV
    have HPVZ : Hid (PV.size ≤ 1000000) := Lib.hid (by
      rw [hPV]
      cases hq : V1 with
      | none => show Y.path.size ≤ _; omega
      | some v =>
        rw [hq] at hV1
        rcases lastA_mem L none v hV1.symm with h | ⟨p, hp, e⟩
        · cases h
        · show v.size ≤ _
          rw [← e]
          exact HPZ.out p hp)
    have HPL2 : Hid (PV.data.toList = (lastA pathK (L.map toL) none).getD Y.path.data.toList) := Lib.hid (by
      have h := last_toL pathB18 L none
      rw [← hV1] at h
      rw [show pathK = pathB18.data.toList from rfl, show (none : Option (List UInt8)) = Option.map (fun b : ByteArray => b.data.toList) none from rfl, ← h, hPV]
      cases V1 <;> rfl)
    have HN2 := Lib.hid hN2
    have HYK := Lib.hid hYk
    clear hV1 hPV hN2 hYp hYk HX2
    go_wp2_with (refine wpList_store_row rfl 65 (.tmp 3) (.tmp 28) rfl a1 (headCs Y) rfl (by kernel_rfl) 65 (headCs X) HD7.out.hd (by kernel_rfl) rfl (by kernel_rfl) ?_)
    refine C1.out.mono ?_
    rintro e w8 ⟨rfl, hb8⟩
    have HD9 := Lib.hid (HD8.out.low hb8)
    have HI9 := Lib.hid (HI8.out.below hb8)
    have x0 : w8.cell? ⟨a1, 0, none⟩ = some (.string Y.path) := blk_cell HD9.out.hd 0
    have f0 : w8.frozen? ⟨a1, 0, none⟩ = false := blk_frozen HD9.out.hd 0
    clear hb8 HD8 HI8 HD7 HI7 C1
    go_upto_if 34 with fail
    go_cut [] (fun wx => Hid (FHd w wx g w.heap.size a1 (r2.drop 512) (sh || decide (kE ≠ 0) || hdE r2) { Y with path := PV } ∧ Prs wx a1 A n c L))
    case first =>
      cases V1 with
      | none =>
        go_wp2_with fail
        go_meet
        case rel => exact Lib.hid ⟨by rw [HPV.out]; exact HD9.out, HI9.out⟩
      | some v =>
        go_wp2_with fail
        go_meet
        case rel => exact Lib.hid ⟨by rw [HPV.out]; exact HD9.out.cell 0 (.string v) { Y with path := v } rfl, HI9.out.step ((Step.refl a1 [a1] [] w8).set (p := ⟨a1, 0, none⟩) (Nat.le_refl _) (by simp) _)⟩
    case rest =>
      rename World => w9
      obtain ⟨hd9, hi9⟩ := hcut.out
      have HDa := Lib.hid hd9
      have C2 := Lib.hid (clast_any w9 A n c L sizeB18 hi9.pin HNM.out)
      obtain ⟨V2, hV2⟩ : ∃ V, V = lastA sizeB18 L none := ⟨_, rfl⟩
      rw [← hV2] at C2
      have HVZ : Hid (∀ v, V2 = some v → v.size ≤ 1000000) := Lib.hid fun v hq => by
        rw [hq] at hV2
        rcases lastA_mem L none v hV2.symm with h | ⟨p, hp, e⟩
        · cases h
        · rw [← e]
          exact HPZ.out p hp
      have HV2 : Hid (lastA sizeK (L.map toL) none = V2.map fun b => b.data.toList) := Lib.hid (by
        have h := last_toL sizeB18 L none
        rw [← hV2] at h
        rw [show sizeK = sizeB18.data.toList from rfl, show (none : Option (List UInt8)) = Option.map (fun b : ByteArray => b.data.toList) none from rfl, ← h])
      clear hV2 hd9 hi9 x0 f0 HD9 HI9 HV1 HPV
      go_wp2_with fail
      refine C2.out.mono ?_
      rintro e wa ⟨rfl, hba⟩
      have HDb := Lib.hid (HDa.out.low hba)
      have x1 : wa.cell? ⟨a1, 1, none⟩ = some (.int .i64 Y.size) := blk_cell HDb.out.hd 1
      have f1 : wa.frozen? ⟨a1, 1, none⟩ = false := blk_frozen HDb.out.hd 1
      clear hba HDa C2
      cases V2 with
      | none =>
        have HFN := Lib.hid (HP.out { Y with path := PV } (r2.drop 512) (sh || decide (kE ≠ 0) || hdE r2) (by
          have h := HFF.out T r2 (L.map toL) kE sh false { Y with path := PV } HEK.out (by rw [HNT.out]; exact HSH.out) HOR.out (by rw [← HY.out]) (by rw [← HY.out]; exact HPL2.out) (by
            rw [HV2.out]
            exact ⟨by rw [← HY.out], rfl⟩)
          rw [Bool.or_false] at h
          exact h) ⟨N2, HN2.out, hN2z⟩ HPVZ.out HYK.out (by have := HRZ.out; rw [List.length_drop]; omega))
        go_upto_region 14 with fail
        apply wp_region_lit
        refine wpList_load_row rfl 65 (.tmp 3) rfl a1 rfl 65 (headCs { Y with path := PV }) (0, 0) _ HDb.out.hd Tryz.underlying65 rfl (by kernel_rfl) ?_
        refine wpList_store_row rfl 65 (.tmp 2) (.tmp 52) rfl w.heap.size (headCs { Y with path := PV }) rfl (by kernel_rfl) 65 zeroCs HDb.out.zr (by kernel_rfl) rfl (by kernel_rfl) ?_
        obtain ⟨f1, f2, f3⟩ := HDb.out.fin
        have HFB := Lib.hid f3
        have HFF := Lib.hid (HFN.out _ f1 f2)
        clear f1 f2 f3
        go_wp2_with fail
        exact bodyPost_ret (retH _ _ rfl w.heap.size { Y with path := PV } HFB.out _ rfl) rfl HFF.out

      | some v =>
        have CD := Lib.hid (cdecimal_any wa v (by have := HVZ.out v rfl; omega))
        obtain ⟨N3, hN3⟩ : ∃ n, n = (decimalA v.data.toList).1 := ⟨_, rfl⟩
        obtain ⟨k3, hk3⟩ : ∃ n, n = (decimalA v.data.toList).2 := ⟨_, rfl⟩
        have hN3z : N3 ≤ 9007199254740992 := by rw [hN3]; exact decimalA_le _
        rw [← hN3, ← hk3] at CD
        have HFN := Lib.hid (HP.out { Y with path := PV, size := (N3 : Int) } (r2.drop 512) (sh || decide (kE ≠ 0) || hdE r2 || decide (k3 ≠ 0)) (by
          exact HFF.out T r2 (L.map toL) kE sh (decide (k3 ≠ 0)) { Y with path := PV, size := (N3 : Int) } HEK.out (by rw [HNT.out]; exact HSH.out) HOR.out (by rw [← HY.out]) (by rw [← HY.out]; exact HPL2.out) (by
            rw [HV2.out]
            exact ⟨by show ((N3 : Int)).toNat = _; rw [hN3]; rfl, by rw [hk3]⟩)) ⟨N3, rfl, hN3z⟩ HPVZ.out HYK.out (by have := HRZ.out; rw [List.length_drop]; omega))
        clear hN3 hk3
        go_wp2_with fail
        refine CD.out.mono ?_
        rintro e wb ⟨rfl, hbb⟩
        have HDc := Lib.hid (HDb.out.low hbb)
        have x2 : wb.cell? ⟨a1, 1, none⟩ = some (.int .i64 Y.size) := blk_cell HDc.out.hd 1
        have f2 : wb.frozen? ⟨a1, 1, none⟩ = false := blk_frozen HDc.out.hd 1
        have HDd : Hid (FHd w (wb.setCell ⟨a1, 1, none⟩ (.int .i64 N3)) g w.heap.size a1 (r2.drop 512) (sh || decide (kE ≠ 0) || hdE r2) { Y with path := PV, size := (N3 : Int) }) := Lib.hid (HDc.out.cell 1 (.int .i64 N3) _ rfl)
        have CK2 := Lib.hid (ckeep_any (wb.setCell ⟨a1, 1, none⟩ (.int .i64 N3)) g _ _ k3 HDd.out.rd)
        clear hbb x1 f1 HDb
        go_wp2_with fail
        refine CK2.out.mono ?_
        rintro e wc ⟨rfl, hrc, hsc⟩
        have HDe := Lib.hid (HDd.out.call hrc hsc)
        clear hrc hsc x2 f2 HDd HDc CK2
        go_upto_region 14 with fail
        apply wp_region_lit
        refine wpList_load_row rfl 65 (.tmp 3) rfl a1 rfl 65 (headCs { Y with path := PV, size := (N3 : Int) }) (0, 0) _ HDe.out.hd Tryz.underlying65 rfl (by kernel_rfl) ?_
        refine wpList_store_row rfl 65 (.tmp 2) (.tmp 52) rfl w.heap.size (headCs { Y with path := PV, size := (N3 : Int) }) rfl (by kernel_rfl) 65 zeroCs HDe.out.zr (by kernel_rfl) rfl (by kernel_rfl) ?_
        obtain ⟨f1, f2, f3⟩ := HDe.out.fin
        have HFB := Lib.hid f3
        have HFF := Lib.hid (HFN.out _ f1 f2)
        clear f1 f2 f3
        go_wp2_with fail
        exact bodyPost_ret (retH _ _ rfl w.heap.size { Y with path := PV, size := (N3 : Int) } HFB.out _ rfl) rfl HFF.out
  · have d2 : ((X.kind : Int) != 120) = true := bne_iff_ne.2 (by omega)
    have HFP := Lib.hid (HP.out X (s.drop 512) b1 (HPL.out ek) HX.out.1 (by have := HX.out.2.1; omega) HX.out.2.2 (by rw [List.length_drop]; omega))
    clear ek
    go_upto_region 3 with fail
    apply wp_region_lit
    refine wpList_load_row rfl 65 (.tmp 3) rfl a1 rfl 65 (headCs X) (0, 0) _ HD3.out.hd Tryz.underlying65 rfl (by kernel_rfl) ?_
    refine wpList_store_row rfl 65 (.tmp 2) (.tmp 15) rfl w.heap.size (headCs X) rfl (by kernel_rfl) 65 zeroCs HD3.out.zr (by kernel_rfl) rfl (by kernel_rfl) ?_
    obtain ⟨f1, f2, f3⟩ := HD3.out.fin
    have HFB := Lib.hid f3
    have HFF := Lib.hid (HFP.out _ f1 f2)
    clear f1 f2 f3
    go_wp2_with fail
    exact bodyPost_ret (retH _ _ rfl w.heap.size X HFB.out _ rfl) rfl HFF.out
end Go.Proofs.YtdjmfkodjjjhfaaGreatDoor
/- Tar's code: Read. Conditions: the tables are there; texts of at most 1000000 bytes. -/
namespace Go.Proofs.YtdjmfkodjjjhfaaGreatDoor
open Go.RowKit

set_option maxRecDepth 100000 in
theorem cret_read (wx : World) (B : Nat) (p d : ByteArray) (n k : Int) (hk : Blk wx B 23 #[.string p, .string d]) (tmps : Array Value) (h2 : tmps.getD 2 undef = .pointer (some ⟨B, 0, none⟩)) (h3 : tmps.getD 3 undef = .int .i64 n) (h4 : tmps.getD 4 undef = .int .i64 k) :
    (results Tryz.f14 tmps).run Tryz.prog wx = .ok (.tuple #[.agg #[.string p, .string d], .int .i64 n, .int .i64 k]) wx := by
  have c0 : wx.cell? ⟨B, 0, none⟩ = some (.string p) := blk_cell hk 0
  have c1 : wx.cell? ⟨B, 1, none⟩ = some (.string d) := blk_cell hk 1
  have hr : Tryz.f14.results = #[.cell 2 23, .tmp 3, .tmp 4] := rfl
  rw [Array.getD_eq_getD_getElem?] at h2 h3 h4
  simp only [results, hr]
  simp [Sem.run_bind, Result.andThen, asAddr, loadVar, go_sem, h2, h3, h4, c0, c1]
/-- Between Read's steps: the reader at a0 + 1, the answer's variable at a0 ahead of it. -/
structure RdK (w wk : World) (a0 : Nat) (r : List UInt8) (b : Bool) : Prop where
  rd : Rd wk (a0 + 1) (strF r) b
  zr : Blk wk a0 23 #[.string ⟨#[]⟩, .string ⟨#[]⟩]
  low : Below w.heap.size w wk
  eq : w.heap.size = a0
section
variable {w wk w' : World} {a0 : Nat} {r : List UInt8} {b : Bool} (D : RdK w wk a0 r b)
include D
theorem RdK.below (h : Below wk.heap.size wk w') : RdK w w' a0 r b :=
  ⟨(step_of_below h).blk D.rd List.not_mem_nil List.not_mem_nil, (step_of_below h).blk D.zr List.not_mem_nil List.not_mem_nil, D.low.trans (h.mono D.low.size), D.eq⟩
set_option maxRecDepth 100000 in
theorem RdK.call {r' : List UInt8} {b' : Bool} (hr : Rd w' (a0 + 1) (strF r') b') (h : Step (a0 + 1) [a0 + 1] [] wk w') : RdK w w' a0 r' b' :=
  ⟨hr, h.blk D.zr (by simp) List.not_mem_nil, D.low.trans (h.below.mono (by have := D.eq; omega)), D.eq⟩
end
theorem readA_none {s : List UInt8} (h : readT s = none) : readA s = (([], []), 0, 180) := by unfold readA; rw [h]
theorem readA_some {s p d more : List UInt8} (h : readT s = some (p, d, more)) : readA s = ((p, d), s.length - more.length, 0) := by unfold readA; rw [h]
set_option maxRecDepth 100000 in
theorem finS_none {X : HeadP} {r : List UInt8} {b sh : Bool} (h : (b || sh) = true ∨ X.kind ≠ 48 ∨ (cleanL X.path.data.toList).2 ≠ 0) (hsh : r.length < upTo X.size.toNat ∨ sh = false) : finS X r b = none := by
  unfold finS
  rw [if_pos]
  rcases h with h | h | h
  · rcases hsh with q | q
    · exact .inr (.inr (.inl q))
    · rw [q, Bool.or_false] at h
      exact .inl h
  · exact .inr (.inl h)
  · exact .inr (.inr (.inr h))
theorem finS_some {X : HeadP} {r : List UInt8} (h1 : X.kind = 48) (h2 : ¬ r.length < upTo X.size.toNat) (h3 : (cleanL X.path.data.toList).2 = 0) : finS X r false = some ((cleanL X.path.data.toList).1, r.take X.size.toNat, r.drop (upTo X.size.toNat)) := by
  unfold finS
  rw [if_neg]
  rintro (q | q | q | q)
  · cases q
  · exact q h1
  · exact h2 q
  · exact q h3

set_option maxHeartbeats 6400000 in
set_option maxRecDepth 100000 in
theorem cread_any (w : World) (hT : Tabs w) (s : ByteArray) (hs : s.size ≤ 1000000) : Calls Tryz.prog 14 #[.string s] w fun e w' => e = .returned (.tuple #[.agg #[.string (strF (readA s.data.toList).1.1), .string (strF (readA s.data.toList).1.2)], .int .i64 (readA s.data.toList).2.1, .int .i64 (readA s.data.toList).2.2]) ∧ Below w.heap.size w w' := by
  have HP : Hid (∀ (p d : List UInt8) (n k : Nat) (w' : World), readA s.data.toList = ((p, d), n, k) → Below w.heap.size w w' → (fun e w' => e = Ending.returned (.tuple #[.agg #[.string (strF (readA s.data.toList).1.1), .string (strF (readA s.data.toList).1.2)], .int .i64 (readA s.data.toList).2.1, .int .i64 (readA s.data.toList).2.2]) ∧ Below w.heap.size w w') (.returned (.tuple #[.agg #[.string (strF p), .string (strF d)], .int .i64 n, .int .i64 k])) w') := Lib.hid fun p d n k w' h hb => by
    rw [h]
    exact ⟨rfl, hb⟩
  generalize (fun e w' => e = Ending.returned (.tuple #[.agg #[.string (strF (readA s.data.toList).1.1), .string (strF (readA s.data.toList).1.2)], .int .i64 (readA s.data.toList).2.1, .int .i64 (readA s.data.toList).2.2]) ∧ Below w.heap.size w w') = PO at *
  have hself := strF_self s
  have hll : s.data.toList.length = s.size := rfl
  have HTB : Hid (∀ wx : World, Below w.heap.size w wx → Tabs wx) := Lib.hid fun wx hb => hT.below hb
  have hz1 := blk_past (blk_new w 23 #[.string ⟨#[]⟩, .string ⟨#[]⟩]) (.cells #[.string s, .bool false] 61)
  have hr1 := blk_new (w.alloc (.cells #[.string ⟨#[]⟩, .string ⟨#[]⟩] 23)) 61 #[.string s, .bool false]
  rw [World.size_alloc] at hr1
  have hb1 : Below w.heap.size w ((w.alloc (.cells #[.string ⟨#[]⟩, .string ⟨#[]⟩] 23)).alloc (.cells #[.string s, .bool false] 61)) := ((Below.refl _ _).alloc (Nat.le_refl _) _).alloc (by simp) _
  have HD1 : Hid (RdK w ((w.alloc (.cells #[.string ⟨#[]⟩, .string ⟨#[]⟩] 23)).alloc (.cells #[.string s, .bool false] 61)) w.heap.size s.data.toList false) := Lib.hid ⟨by rw [hself]; exact hr1, hz1, hb1, rfl⟩
  have HFH := Lib.hid (cfh_any _ (w.heap.size + 1) (fun wx hb => hT.below (HD1.out.low.trans (hb.mono (Nat.le_succ _)))) s.data.toList HD1.out.rd (by omega))
  have HLL := Lib.hid hll
  clear hT hself hll hz1 hr1 hb1
  go_enter Tryz.func14, Tryz.ntmps14
  go_upto_region 2 with fail
  generalize (w.alloc (.cells #[.string ⟨#[]⟩, .string ⟨#[]⟩] 23)).alloc (.cells #[.string s, .bool false] 61) = w1 at *
  go_wp2_with fail
  refine HFH.out.mono ?_
  rintro e w2 ⟨X, r, b, rfl, hr2, hs2, hrd, ⟨N, hN, hNz⟩, hXp, hXk, hrz⟩
  have hv : headV X = .agg #[.string X.path, .int .i64 X.size, .int .u8 X.kind, .int .i64 X.mode, .int .i64 X.time, .string X.link, .string X.user, .string X.group, .int .i64 X.uid, .int .i64 X.gid] := rfl
  rw [hv]
  have hd2 := HD1.out.call hr2 hs2
  have hb3 : Below w2.heap.size w2 (w2.alloc (.cells #[.string X.path, .int .i64 X.size, .int .u8 X.kind, .int .i64 X.mode, .int .i64 X.time, .string X.link, .string X.user, .string X.group, .int .i64 X.uid, .int .i64 X.gid] 65)) := (Below.refl _ _).alloc (Nat.le_refl _) _
  have HD3 := Lib.hid (hd2.below hb3)
  have HK3 := Lib.hid (blk_new w2 65 #[.string X.path, .int .i64 X.size, .int .u8 X.kind, .int .i64 X.mode, .int .i64 X.time, .string X.link, .string X.user, .string X.group, .int .i64 X.uid, .int .i64 X.gid])
  have HA2 : Hid (w.heap.size + 1 < w2.heap.size) := Lib.hid (blk_lt hr2)
  have HRD := Lib.hid hrd
  have HN := Lib.hid hN
  clear hv hd2 hb3 hr2 hs2 hrd HFH HD1 hN
  go_upto_region 3 with fail
  generalize w2.alloc (.cells #[.string X.path, .int .i64 X.size, .int .u8 X.kind, .int .i64 X.mode, .int .i64 X.time, .string X.link, .string X.user, .string X.group, .int .i64 X.uid, .int .i64 X.gid] 65) = w3 at *
  generalize w2.heap.size = a2 at *
  have y1 : w3.cell? ⟨a2, 1, none⟩ = some (.int .i64 N) := by rw [← HN.out]; exact blk_cell HK3.out 1
  have CD := Lib.hid (cdata_all w3 (w.heap.size + 1) r b N HD3.out.rd hNz (by have := HLL.out; omega))
  go_wp2_with fail
  refine CD.out.mono ?_
  rintro e w4 ⟨T, r2, sh, rfl, hr4, hs4, hTz, hr2z, hsh⟩
  have hk4 := hs4.blk HK3.out (by have := HA2.out; simp; omega) List.not_mem_nil
  have HD4 := Lib.hid (HD3.out.call hr4 hs4)
  have HK4 := Lib.hid hk4
  have HSH := Lib.hid hsh
  have HRZ := Lib.hid hr2z
  have y0 : w4.cell? ⟨a2, 0, none⟩ = some (.string X.path) := blk_cell hk4 0
  have CC := Lib.hid fun wx : World => cclean_any wx X.path (by omega)
  obtain ⟨cl, hcl⟩ : ∃ c, c = cleanL X.path.data.toList := ⟨_, rfl⟩
  obtain ⟨pc, ce⟩ := cl
  rw [← hcl] at CC
  have HCL := Lib.hid hcl
  clear hr4 hs4 hk4 hsh hr2z y1 HD3 HK3 CD hcl
  go_wp2_with fail
  refine (CC.out _).mono ?_
  rintro e w5 ⟨rfl, hb5⟩
  have HD5 := Lib.hid (HD4.out.below hb5)
  have hk5 := (step_of_below hb5).blk HK4.out List.not_mem_nil List.not_mem_nil
  have y2 : w5.cell? ⟨a2, 2, none⟩ = some (.int .u8 X.kind) := blk_cell hk5 2
  have q1 := HD5.out.rd.c1
  clear hb5 hk5 HK4 HD4 y0 CC
  have HNN : Hid (X.size.toNat = N) := Lib.hid (by rw [HN.out]; rfl)
  have HSD : Hid (r.length < upTo X.size.toNat ∨ sh = false) := Lib.hid (by
    rw [HNN.out]
    have h := HSH.out
    by_cases el : r.length < upTo N
    · exact .inl el
    · rw [if_neg el] at h
      exact .inr h.1)
  have HBADF : Hid ((b || sh) = true ∨ X.kind ≠ 48 ∨ ce ≠ 0 → PO (.returned (.tuple #[.agg #[.string ⟨#[]⟩, .string ⟨#[]⟩], .int .i64 0, .int .i64 180])) w5) := Lib.hid fun h => by
    have h2 := readA_none (HRD.out.trans (finS_none (by rw [← HCL.out]; exact h) HSD.out))
    exact HP.out [] [] 0 180 w5 h2 HD5.out.low
  obtain ⟨bb, hbb⟩ : ∃ x, x = (b || sh) := ⟨_, rfl⟩
  rw [← hbb] at HBADF q1
  have HBB := Lib.hid hbb
  clear hbb
  cases bb
  · by_cases ek : X.kind = 48
    · have dk : ((X.kind : Int) != 48) = false := by rw [ek]; rfl
      by_cases ec : ce = 0
      · have dc : ((ce : Int) != 0) = false := by rw [ec]; rfl
        have hb0 : b = false ∧ sh = false := by
          have := HBB.out
          cases b <;> cases sh <;> first | exact ⟨rfl, rfl⟩ | exact absurd this (by decide)
        have hsh := HSH.out
        rw [hb0.2] at hsh
        have hel : ¬ r.length < upTo N := fun el => by
          rw [if_pos el] at hsh
          cases hsh
        rw [if_neg hel] at hsh
        have hra := HRD.out
        rw [hb0.1, finS_some ek (by rw [HNN.out]; exact hel) (by rw [← HCL.out]; exact ec), HNN.out, ← hsh.2.1, ← hsh.2.2, ← HCL.out] at hra
        have h2 := readA_some hra
        obtain ⟨K, hK⟩ : ∃ k, k = s.data.toList.length - r2.length := ⟨_, rfl⟩
        rw [← hK] at h2
        have hK2 : (s.size : Int) - ((strF r2).size : Int) = (K : Int) := by
          have h3 : (strF r2).size = r2.length := rfl
          have h4 := HLL.out
          have h5 := HRZ.out
          omega
        have hrz2 : (strF r2).size ≤ 1000000 := by
          have h3 : (strF r2).size = r2.length := rfl
          have h4 := HLL.out
          have h5 := HRZ.out
          omega
        have HGOOD := Lib.hid fun w' => HP.out pc T K 0 w' h2
        have q0 := HD5.out.rd.c0
        have z0 : w5.cell? ⟨w.heap.size, 0, none⟩ = some (.string ⟨#[]⟩) := blk_cell HD5.out.zr 0
        have z1 : w5.cell? ⟨w.heap.size, 1, none⟩ = some (.string ⟨#[]⟩) := blk_cell HD5.out.zr 1
        have v0 : w5.frozen? ⟨w.heap.size, 0, none⟩ = false := blk_frozen HD5.out.zr 0
        have v1 : w5.frozen? ⟨w.heap.size, 1, none⟩ = false := blk_frozen HD5.out.zr 1
        rw [show strP pc = strF pc from rfl]
        clear hb0 hsh hel hra h2 hK ek ec HBADF HBB
        generalize strF pc = PC at *
        generalize strF T = TT at *
        generalize strF r2 = R2 at *
        go_upto_region 7 with fail
        go_region
        have hfin : Blk ((w5.setCell ⟨w.heap.size, 0, none⟩ (.string PC)).setCell ⟨w.heap.size, 1, none⟩ (.string TT)).drew w.heap.size 23 #[.string PC, .string TT] := blk_set (blk_set HD5.out.zr 0 (.string PC)) 1 (.string TT)
        have hlow : Below w.heap.size w ((w5.setCell ⟨w.heap.size, 0, none⟩ (.string PC)).setCell ⟨w.heap.size, 1, none⟩ (.string TT)) := (HD5.out.low.setCell (p := ⟨w.heap.size, 0, none⟩) (Nat.le_refl _) _).setCell (p := ⟨w.heap.size, 1, none⟩) (Nat.le_refl _) _
        have HFIN := Lib.hid (And.intro hfin hlow.drew)
        clear hfin hlow q0 z0 z1 v0 v1 q1 y2
        go_wp2_with fail
        exact bodyPost_ret (cret_read _ w.heap.size PC TT K 0 HFIN.out.1 _ rfl rfl rfl) rfl (HGOOD.out _ HFIN.out.2)
      · have dc : ((ce : Int) != 0) = true := bne_iff_ne.2 (by omega)
        have HBAD := Lib.hid (HBADF.out (.inr (.inr ec)))
        clear ec ek
        go_upto_region 6 with fail
        apply wp_region_lit
        refine wpList_build rfl 23 #[] rfl (by kernel_rfl) ?_
        refine wpList_store_row rfl 23 (.tmp 2) (.tmp 33) rfl w.heap.size #[.string ⟨#[]⟩, .string ⟨#[]⟩] rfl (by kernel_rfl) 23 #[.string ⟨#[]⟩, .string ⟨#[]⟩] HD5.out.zr (by kernel_rfl) rfl (by kernel_rfl) ?_
        rw [setRow_self _ _ _ _ _ HD5.out.zr]
        go_wp2_with fail
        exact bodyPost_ret (cret_read _ w.heap.size ⟨#[]⟩ ⟨#[]⟩ 0 180 HD5.out.zr _ rfl rfl rfl) rfl HBAD.out
    · have dk : ((X.kind : Int) != 48) = true := bne_iff_ne.2 (by omega)
      have HBAD := Lib.hid (HBADF.out (.inr (.inl ek)))
      clear ek
      go_upto_region 6 with fail
      apply wp_region_lit
      refine wpList_build rfl 23 #[] rfl (by kernel_rfl) ?_
      refine wpList_store_row rfl 23 (.tmp 2) (.tmp 33) rfl w.heap.size #[.string ⟨#[]⟩, .string ⟨#[]⟩] rfl (by kernel_rfl) 23 #[.string ⟨#[]⟩, .string ⟨#[]⟩] HD5.out.zr (by kernel_rfl) rfl (by kernel_rfl) ?_
      rw [setRow_self _ _ _ _ _ HD5.out.zr]
      go_wp2_with fail
      exact bodyPost_ret (cret_read _ w.heap.size ⟨#[]⟩ ⟨#[]⟩ 0 180 HD5.out.zr _ rfl rfl rfl) rfl HBAD.out
  · have HBAD := Lib.hid (HBADF.out (.inl rfl))
    go_upto_region 6 with fail
    apply wp_region_lit
    refine wpList_build rfl 23 #[] rfl (by kernel_rfl) ?_
    refine wpList_store_row rfl 23 (.tmp 2) (.tmp 33) rfl w.heap.size #[.string ⟨#[]⟩, .string ⟨#[]⟩] rfl (by kernel_rfl) 23 #[.string ⟨#[]⟩, .string ⟨#[]⟩] HD5.out.zr (by kernel_rfl) rfl (by kernel_rfl) ?_
    rw [setRow_self _ _ _ _ _ HD5.out.zr]
    go_wp2_with fail
    exact bodyPost_ret (cret_read _ w.heap.size ⟨#[]⟩ ⟨#[]⟩ 0 180 HD5.out.zr _ rfl rfl rfl) rfl HBAD.out
end Go.Proofs.YtdjmfkodjjjhfaaGreatDoor
