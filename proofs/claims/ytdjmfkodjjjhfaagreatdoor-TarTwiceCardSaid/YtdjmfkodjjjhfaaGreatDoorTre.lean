/- Tar: the reference's Read. Written ahead of stage 18. -/
import Derived.Test.YtdjmfkodjjjhfaaGreatDoorTrd
import Derived.Deep.DeepCutAuto
namespace Go.Proofs.YtdjmfkodjjjhfaaGreatDoor
open Go.RowKit

def sizE (V : Option ByteArray) (d : Nat) : Option Nat := match V with
  | none => some d
  | some v => if (decimalA v.data.toList).2 = 0 then some (decimalA v.data.toList).1 else none
def endE (b : Option (List UInt8 × List UInt8)) (pc : List UInt8) (ec : Nat) : Option (List UInt8 × List UInt8 × List UInt8) := match b with
  | none => none
  | some (d, more) => if ec ≠ 0 then none else some (pc, d, more)
def sizeB18 : ByteArray := ⟨#[115, 105, 122, 101]⟩
set_option maxRecDepth 100000 in
theorem ret_read (wx : World) (B : Nat) (p d : ByteArray) (n k : Int) (hk : Blk wx B 23 #[.string p, .string d]) (tmps : Array Value) (h2 : tmps.getD 2 undef = .pointer (some ⟨B, 0, none⟩)) (h3 : tmps.getD 3 undef = .int .i64 n) (h4 : tmps.getD 4 undef = .int .i64 k) :
    (results Tryz.f15 tmps).run Tryz.prog wx = .ok (.tuple #[.agg #[.string p, .string d], .int .i64 n, .int .i64 k]) wx := by
  have c0 : wx.cell? ⟨B, 0, none⟩ = some (.string p) := blk_cell hk 0
  have c1 : wx.cell? ⟨B, 1, none⟩ = some (.string d) := blk_cell hk 1
  have hr : Tryz.f15.results = #[.cell 2 23, .tmp 3, .tmp 4] := rfl
  rw [Array.getD_eq_getD_getElem?] at h2 h3 h4
  simp only [results, hr]
  simp [Sem.run_bind, Result.andThen, asAddr, loadVar, go_sem, h2, h3, h4, c0, c1]
set_option maxHeartbeats 6400000 in
set_option maxRecDepth 100000 in
theorem rread_any (w : World) (s : ByteArray) (hs : s.size ≤ 100000) : Calls Tryz.prog 15 #[.string s] w fun e w' => e = .returned (.tuple #[.agg #[.string (strF (readA s.data.toList).1.1), .string (strF (readA s.data.toList).1.2)], .int .i64 (readA s.data.toList).2.1, .int .i64 (readA s.data.toList).2.2]) ∧ Below w.heap.size w w' := by
  have HNO : Hid (∀ w' : World, Below w.heap.size w w' → readT s.data.toList = none → (fun e w' => e = Ending.returned (.tuple #[.agg #[.string (strF (readA s.data.toList).1.1), .string (strF (readA s.data.toList).1.2)], .int .i64 (readA s.data.toList).2.1, .int .i64 (readA s.data.toList).2.2]) ∧ Below w.heap.size w w') (.returned (.tuple #[.agg #[.string ⟨#[]⟩, .string ⟨#[]⟩], .int .i64 0, .int .i64 180])) w') := Lib.hid fun w' hb h => by
    have : readA s.data.toList = (([], []), 0, 180) := by unfold readA; rw [h]
    rw [this]
    exact ⟨rfl, hb⟩
  have HYES : Hid (∀ (w' : World) (p d more : List UInt8), Below w.heap.size w w' → readT s.data.toList = some (p, d, more) → (fun e w' => e = Ending.returned (.tuple #[.agg #[.string (strF (readA s.data.toList).1.1), .string (strF (readA s.data.toList).1.2)], .int .i64 (readA s.data.toList).2.1, .int .i64 (readA s.data.toList).2.2]) ∧ Below w.heap.size w w') (.returned (.tuple #[.agg #[.string (strF p), .string (strF d)], .int .i64 (s.data.toList.length - more.length : Nat), .int .i64 0])) w') := Lib.hid fun w' p d more hb h => by
    have : readA s.data.toList = ((p, d), s.data.toList.length - more.length, 0) := by unfold readA; rw [h]
    rw [this]
    exact ⟨rfl, hb⟩
  generalize (fun e w' => e = Ending.returned (.tuple #[.agg #[.string (strF (readA s.data.toList).1.1), .string (strF (readA s.data.toList).1.2)], .int .i64 (readA s.data.toList).2.1, .int .i64 (readA s.data.toList).2.2]) ∧ Below w.heap.size w w') = PO at *
  have HHD := Lib.hid fun (wx : World) (t : ByteArray) (h : t.size ≤ 140737488355328) => rhead_any wx t h
  have HBE := Lib.hid fun (wx : World) (t : ByteArray) (n : Nat) (h : t.size ≤ 140737488355328) (hn : n ≤ 9007199254740992) => rbehind_any wx t n h hn
  have HDP := Lib.hid fun (wx : World) (t : ByteArray) (h : t.size ≤ 200000) => rpdec_any wx t h
  have HLA := Lib.hid fun (wx : World) (A : Option Addr) (n c : Nat) (L : List PairB) (k : ByteArray) (hI : PIn wx A n L) (hn : n ≤ maxLen) => rlast_any wx A n c L k hI hn
  have HDE := Lib.hid fun (wx : World) (t : ByteArray) (h : t.size ≤ 9223372036854775807) => rdecimal_any wx t h
  have HCL := Lib.hid fun (wx : World) (t : ByteArray) (h : t.size ≤ 4000000) => rclean_any wx t h
  have hll : s.data.toList.length = s.size := rfl
  have HRD : Hid (readT s.data.toList = match headT s.data.toList with
      | none => none
      | some h => if h.kind = 120 then
          match behindT s.data.toList h.size.toNat with
          | none => none
          | some (r, more) => match pairsOf r with
            | none => none
            | some l => fileT l more
        else fileT [] s.data.toList) := Lib.hid rfl
  obtain ⟨hx, hhx⟩ : ∃ x, x = headA2 s.data.toList := ⟨_, rfl⟩
  obtain ⟨X, ok⟩ := hx
  have hT := headA2_T s.data.toList
  rw [← hhx] at hT
  rw [hT] at HRD
  have C0 := Lib.hid (fun wx : World => HHD.out wx s (by omega))
  rw [← hhx] at C0
  dsimp only at C0 HRD
  have hv : headV X = .agg #[.string X.path, .int .i64 X.size, .int .u8 X.kind, .int .i64 X.mode, .int .i64 X.time, .string X.link, .string X.user, .string X.group, .int .i64 X.uid, .int .i64 X.gid] := rfl
  rw [hv] at C0
  have HHX := Lib.hid hhx
  have HZ := Lib.hid (blk_new w 23 #[.string ⟨#[]⟩, .string ⟨#[]⟩])
  have HB : Hid (Below w.heap.size w (w.alloc (.cells #[.string ⟨#[]⟩, .string ⟨#[]⟩] 23))) := Lib.hid ((Below.refl _ _).alloc (Nat.le_refl _) _)
  clear hT hhx hv hll
  go_enter Tryz.func15, Tryz.ntmps15
  go_wp2_with fail
  refine (C0.out _).mono ?_
  rintro e w2 ⟨rfl, hb2⟩
  have hz2 := (step_of_below hb2).blk HZ.out List.not_mem_nil List.not_mem_nil
  have hb02 := HB.out.trans (hb2.mono HB.out.size)
  have hb3 : Below w2.heap.size w2 (w2.alloc (.cells #[.string X.path, .int .i64 X.size, .int .u8 X.kind, .int .i64 X.mode, .int .i64 X.time, .string X.link, .string X.user, .string X.group, .int .i64 X.uid, .int .i64 X.gid] 65)) := (Below.refl _ _).alloc (Nat.le_refl _) _
  have D1 : Hid (RdT w (w2.alloc (.cells #[.string X.path, .int .i64 X.size, .int .u8 X.kind, .int .i64 X.mode, .int .i64 X.time, .string X.link, .string X.user, .string X.group, .int .i64 X.uid, .int .i64 X.gid] 65)) w2.heap.size X) := Lib.hid ⟨blk_new w2 _ _, (step_of_below hb3).blk hz2 List.not_mem_nil List.not_mem_nil, hb02.trans (hb3.mono hb02.size), blk_lt hz2⟩
  clear hb2 hz2 hb02 hb3 HZ HB C0
  go_upto_region 2 with fail
  generalize w2.alloc (.cells #[.string X.path, .int .i64 X.size, .int .u8 X.kind, .int .i64 X.mode, .int .i64 X.time, .string X.link, .string X.user, .string X.group, .int .i64 X.uid, .int .i64 X.gid] 65) = w3 at *
  generalize w2.heap.size = a1 at *
  cases ok
  · rw [if_neg (by decide)] at HRD
    have HF := Lib.hid (HNO.out w3 D1.out.below (by rw [HRD.out]))
    have HZZ := Lib.hid D1.out.zero
    go_upto_region 3 with fail
    apply wp_region_lit
    refine wpList_build rfl 23 #[] rfl (by kernel_rfl) ?_
    refine wpList_store_row rfl 23 (.tmp 2) (.tmp 30) rfl w.heap.size #[.string ⟨#[]⟩, .string ⟨#[]⟩] rfl (by kernel_rfl) 23 #[.string ⟨#[]⟩, .string ⟨#[]⟩] HZZ.out (by kernel_rfl) rfl (by kernel_rfl) ?_
    rw [setRow_self _ _ _ _ _ HZZ.out]
    go_wp2_with fail
    exact bodyPost_ret (ret_read _ w.heap.size ⟨#[]⟩ ⟨#[]⟩ 0 180 HZZ.out _ rfl rfl rfl) rfl HF.out
  rw [if_pos rfl] at HRD
  have hfx := headA2_facts HHX.out.symm
  have HFX := Lib.hid hfx
  clear hfx
  have x2 : w3.cell? ⟨a1, 2, none⟩ = some (.int .u8 X.kind) := blk_cell D1.out.head 2
  have x1 : w3.cell? ⟨a1, 1, none⟩ = some (.int .i64 X.size) := blk_cell D1.out.head 1
  go_upto_if 34 with fail
  go_cut [6, 7, 8] (fun s6 s7 s8 wx => ∃ (Y : HeadP) (ok : Bool) (R : ByteArray) (L : List PairB) (A : Option Addr) (n c : Nat), s6 = .bool ok ∧ s7 = .string R ∧ s8 = .slice A n c ∧ R.size ≤ 100000 ∧ n ≤ maxLen ∧
    Hid (Prs wx a1 A n c L ∧ RdT w wx a1 Y ∧ (headA2 R.data.toList = (Y, ok) ∧ R.size ≤ s.size) ∧ readT s.data.toList = fileT (L.map toL) R.data.toList ∧ (∀ p, p ∈ L → p.1.size + p.2.size ≤ 999990)))
  case first =>
    by_cases ek : X.kind = 120
    · have dk : ((X.kind : Int) == 120) = true := by rw [ek]; rfl
      have hrd := HRD.out.trans (if_pos ek)
      obtain ⟨⟨N, hN, hNz⟩, _, _⟩ := HFX.out
      have hb := behA_T s.data.toList N
      rw [hN, Int.toNat_natCast, hb] at hrd
      rw [hN] at x1
      have C1 := Lib.hid (HBE.out w3 s N (by omega) hNz)
      have hbl : (behA s.data.toList N).1.length ≤ s.size ∧ (behA s.data.toList N).2.1.length ≤ s.size := by
        have hl : s.data.toList.length = s.size := rfl
        unfold behA
        split
        · exact ⟨Nat.zero_le _, Nat.zero_le _⟩
        · constructor
          · show ((s.data.toList.drop 512).take N).length ≤ _
            rw [List.length_take, List.length_drop]
            omega
          · show (s.data.toList.drop (512 + upTo N)).length ≤ _
            rw [List.length_drop]
            omega
      obtain ⟨bb, hbb⟩ : ∃ b, b = behA s.data.toList N := ⟨_, rfl⟩
      obtain ⟨r, more, is⟩ := bb
      rw [← hbb] at C1 hrd hbl
      dsimp only at C1 hrd hbl
      have HRD2 := Lib.hid hrd
      have hrz : (strF r).size ≤ 200000 := by show r.length ≤ _; omega
      have hmz : (strF more).size ≤ 100000 := by show more.length ≤ _; omega
      have HRL : Hid (r.length ≤ 100000) := Lib.hid (by omega)
      have HMS : Hid ((strF more).size ≤ s.size) := Lib.hid hbl.2
      clear hrd hb hbb hbl ek hN hNz
      go_wp2_with fail
      refine C1.out.mono ?_
      rintro e w4 ⟨rfl, hb4⟩
      have D4 := Lib.hid (D1.out.on hb4)
      clear hb4 D1 C1 x1 x2
      go_wp2_with fail
      refine (HDP.out w4 (strF r) hrz).mono ?_
      rintro e w5 hpp
      rcases hpp with ⟨A, n, c, L, rfl, hk, hf, hn, ho, hb5⟩ | ⟨rfl, hno, hb5⟩
      · have D5 := Lib.hid (D4.out.on hb5)
        cases is
        · have HR3 : Hid (readT s.data.toList = none) := Lib.hid (by rw [HRD2.out, if_neg (by decide)])
          clear hk hf hn ho hb5
          have HF := Lib.hid (HNO.out w5 D5.out.below (by rw [HR3.out]))
          have HZZ := Lib.hid D5.out.zero
          go_upto_region 10 with fail
          apply wp_region_lit
          refine wpList_build rfl 23 #[] rfl (by kernel_rfl) ?_
          refine wpList_store_row rfl 23 (.tmp 2) (.tmp 54) rfl w.heap.size #[.string ⟨#[]⟩, .string ⟨#[]⟩] rfl (by kernel_rfl) 23 #[.string ⟨#[]⟩, .string ⟨#[]⟩] HZZ.out (by kernel_rfl) rfl (by kernel_rfl) ?_
          rw [setRow_self _ _ _ _ _ HZZ.out]
          go_wp2_with fail
          exact bodyPost_ret (ret_read _ w.heap.size ⟨#[]⟩ ⟨#[]⟩ 0 180 HZZ.out _ rfl rfl rfl) rfl HF.out
        · have hpo : pairsOf r = some (L.map toL) := by
            rw [← show flatP (L.map toL) = r from hf]
            exact pairsOf_flat _ hk (by rw [show flatP (L.map toL) = r from hf]; have := HRL.out; omega)
          have HR3 : Hid (readT s.data.toList = fileT (L.map toL) more) := Lib.hid (by
            rw [HRD2.out, if_pos rfl]
            dsimp only
            rw [hpo])
          have HSH : Hid (∀ p, p ∈ L → p.1.size + p.2.size ≤ 999990) := Lib.hid fun p hp => by
            have h1 := short_of_flat (L.map toL) (by rw [show flatP (L.map toL) = r from hf]; have := HRL.out; omega)
            exact h1 (toL p) (List.mem_map.2 ⟨p, hp, rfl⟩)
          have HPR : Hid (Prs w5 a1 A n c L) := Lib.hid ⟨w4.heap.size, blk_lt D4.out.head, ho⟩
          have hnz := hn
          obtain ⟨hy, hhy⟩ : ∃ x, x = headA2 more := ⟨_, rfl⟩
          obtain ⟨Y, okY⟩ := hy
          have C2 := Lib.hid (fun wx : World => HHD.out wx (strF more) (by omega))
          rw [strF_list, ← hhy] at C2
          have HHY := Lib.hid hhy
          dsimp only at C2
          have hv : headV Y = .agg (headCs Y) := rfl
          rw [hv] at C2
          clear hk hf hn ho hb5 hpo hhy hv
          go_wp2_with fail
          refine (C2.out _).mono ?_
          rintro e w6 ⟨rfl, hb6⟩
          have D6 := Lib.hid (D5.out.on hb6)
          have P6 := Lib.hid (HPR.out.below hb6)
          clear hb6 C2
          go_wp2_with (refine wpList_store_row rfl 65 (.tmp 5) (.tmp 60) rfl a1 (headCs Y) rfl (by kernel_rfl) 65 (headCs X) D6.out.head (by kernel_rfl) rfl (by kernel_rfl) ?_)
          go_meet
          case rel => exact ⟨Y, okY, strF more, L, A, n, c, rfl, rfl, rfl, hmz, hnz, Lib.hid ⟨P6.out.step (step_row w6 a1 (headCs Y)), D6.out.row Y, ⟨HHY.out.symm, HMS.out⟩, HR3.out, HSH.out⟩⟩
      · have D5 := Lib.hid (D4.out.on hb5)
        have hpn : pairsOf r = none := by
          unfold pairsOf
          rw [dif_neg]
          rintro ⟨_, l, h1, h2⟩
          exact hno l h1 h2
        have HR3 : Hid (readT s.data.toList = none) := Lib.hid (by
          rw [HRD2.out]
          cases is
          · rfl
          · rw [if_pos rfl]
            dsimp only
            rw [hpn])
        clear hno hb5 hpn
        cases is
        · skip
          have HF := Lib.hid (HNO.out w5 D5.out.below (by rw [HR3.out]))
          have HZZ := Lib.hid D5.out.zero
          go_upto_region 10 with fail
          apply wp_region_lit
          refine wpList_build rfl 23 #[] rfl (by kernel_rfl) ?_
          refine wpList_store_row rfl 23 (.tmp 2) (.tmp 54) rfl w.heap.size #[.string ⟨#[]⟩, .string ⟨#[]⟩] rfl (by kernel_rfl) 23 #[.string ⟨#[]⟩, .string ⟨#[]⟩] HZZ.out (by kernel_rfl) rfl (by kernel_rfl) ?_
          rw [setRow_self _ _ _ _ _ HZZ.out]
          go_wp2_with fail
          exact bodyPost_ret (ret_read _ w.heap.size ⟨#[]⟩ ⟨#[]⟩ 0 180 HZZ.out _ rfl rfl rfl) rfl HF.out
        · skip
          have HF := Lib.hid (HNO.out w5 D5.out.below (by rw [HR3.out]))
          have HZZ := Lib.hid D5.out.zero
          go_upto_region 10 with fail
          apply wp_region_lit
          refine wpList_build rfl 23 #[] rfl (by kernel_rfl) ?_
          refine wpList_store_row rfl 23 (.tmp 2) (.tmp 54) rfl w.heap.size #[.string ⟨#[]⟩, .string ⟨#[]⟩] rfl (by kernel_rfl) 23 #[.string ⟨#[]⟩, .string ⟨#[]⟩] HZZ.out (by kernel_rfl) rfl (by kernel_rfl) ?_
          rw [setRow_self _ _ _ _ _ HZZ.out]
          go_wp2_with fail
          exact bodyPost_ret (ret_read _ w.heap.size ⟨#[]⟩ ⟨#[]⟩ 0 180 HZZ.out _ rfl rfl rfl) rfl HF.out
    · have dk : ((X.kind : Int) == 120) = false := beq_false_of_ne (by omega)
      have HR2 : Hid (readT s.data.toList = fileT ([].map toL) s.data.toList) := Lib.hid (HRD.out.trans (if_neg ek))
      clear ek
      go_wp2_with fail
      go_meet
      case rel => exact ⟨X, true, s, [], none, 0, 0, rfl, rfl, rfl, hs, by unfold maxLen; omega, Lib.hid ⟨Prs.nil (blk_lt D1.out.head), D1.out, ⟨HHX.out.symm, Nat.le_refl _⟩, HR2.out, fun p hp => by cases hp⟩⟩
  case rest =>
    obtain ⟨Y, ok, R, L, A, n, c, rfl, rfl, rfl, hRz, hnz, hJ⟩ := hcut
    obtain ⟨hP, hD, ⟨hH, hRs⟩, hR, hS⟩ := hJ.out
    have HRS := Lib.hid hRs
    have hT := headA2_T R.data.toList
    rw [hH] at hT
    dsimp only at hT
    have hFT : fileT (L.map toL) R.data.toList = match headT R.data.toList with
      | none => none
      | some h => if h.kind ≠ 48 then none else
        match sizeOf2 (L.map toL) h with
        | none => none
        | some n => match behindT R.data.toList n with
          | none => none
          | some (d, more) => if (cleanL ((lastA pathK (L.map toL) none).getD h.path.data.toList)).2 ≠ 0 then none else some ((cleanL ((lastA pathK (L.map toL) none).getD h.path.data.toList)).1, d, more) := rfl
    rw [hT] at hFT
    have HFT := Lib.hid (hR.trans hFT)
    have D0 := Lib.hid hD
    have P0 := Lib.hid hP
    have HHY := Lib.hid hH
    have HSH := Lib.hid hS
    have y2 : wc.cell? ⟨a1, 2, none⟩ = some (.int .u8 Y.kind) := blk_cell hD.head 2
    clear hP hD hH hR hS hT hFT hJ D1 x1 x2 hRs
    cases ok
    · have HR3 : Hid (readT s.data.toList = none) := Lib.hid (by rw [HFT.out, if_neg (by decide)])
      have HF := Lib.hid (HNO.out wc D0.out.below (by rw [HR3.out]))
      have HZZ := Lib.hid D0.out.zero
      go_upto_region 15 with fail
      apply wp_region_lit
      refine wpList_build rfl 23 #[] rfl (by kernel_rfl) ?_
      refine wpList_store_row rfl 23 (.tmp 2) (.tmp 69) rfl w.heap.size #[.string ⟨#[]⟩, .string ⟨#[]⟩] rfl (by kernel_rfl) 23 #[.string ⟨#[]⟩, .string ⟨#[]⟩] HZZ.out (by kernel_rfl) rfl (by kernel_rfl) ?_
      rw [setRow_self _ _ _ _ _ HZZ.out]
      go_wp2_with fail
      exact bodyPost_ret (ret_read _ w.heap.size ⟨#[]⟩ ⟨#[]⟩ 0 180 HZZ.out _ rfl rfl rfl) rfl HF.out
    have HFT1 := Lib.hid (HFT.out.trans (by rw [if_pos rfl]))
    by_cases ek : Y.kind = 48
    · have dk : ((Y.kind : Int) != 48) = false := by rw [ek]; rfl
      have HFT2 := Lib.hid (HFT1.out.trans (if_neg (fun h => h ek)))
      obtain ⟨⟨N0, hN0, hN0z⟩, hYp, _⟩ := headA2_facts HHY.out
      have C1 := Lib.hid (HLA.out wc A n c L pathB18 P0.out.pin hnz)
      obtain ⟨V1, hV1⟩ : ∃ V, V = lastA pathB18 L none := ⟨_, rfl⟩
      rw [← hV1] at C1
      have HV1 := Lib.hid hV1
      obtain ⟨PV, hPV⟩ : ∃ v, v = V1.getD Y.path := ⟨_, rfl⟩
      have HPV := Lib.hid hPV
      have HPZ : Hid (PV.size ≤ 4000000) := Lib.hid (by
        rw [hPV]
        cases hq : V1 with
        | none => show Y.path.size ≤ _; omega
        | some v =>
          rw [hq] at hV1
          rcases lastA_mem L none v hV1.symm with h | ⟨p, hp, e⟩
          · cases h
          · have := HSH.out p hp
            show v.size ≤ _
            rw [← e]
            omega)
      have HPL : Hid ((lastA pathK (L.map toL) none).getD Y.path.data.toList = PV.data.toList) := Lib.hid (by
        have h := last_toL pathB18 L none
        rw [← hV1] at h
        rw [show pathK = pathB18.data.toList from rfl, show (none : Option (List UInt8)) = Option.map (fun b : ByteArray => b.data.toList) none from rfl, ← h, hPV]
        cases V1 <;> rfl)
      have HN0 := Lib.hid hN0
      clear hV1 hPV ek hYp hN0
      go_wp2_with fail
      refine C1.out.mono ?_
      rintro e w7 ⟨rfl, hb7⟩
      have D7 := Lib.hid (D0.out.on hb7)
      have P7 := Lib.hid (P0.out.below hb7)
      have x0 : w7.cell? ⟨a1, 0, none⟩ = some (.string Y.path) := blk_cell D7.out.head 0
      have f0 : w7.frozen? ⟨a1, 0, none⟩ = false := blk_frozen D7.out.head 0
      clear hb7 y2 C1 D0 P0
      go_upto_if 75 with fail
      go_cut [] (fun wx => Hid (RdT w wx a1 { Y with path := PV } ∧ Prs wx a1 A n c L))
      case first =>
        cases V1 with
        | none =>
          go_wp2_with fail
          go_meet
          case rel => exact Lib.hid ⟨by rw [HPV.out]; exact D7.out, P7.out⟩
        | some v =>
          go_wp2_with fail
          go_meet
          case rel => exact Lib.hid ⟨by rw [HPV.out]; exact D7.out.path v, P7.out.step ((Step.refl a1 [a1] [] w7).set (p := ⟨a1, 0, none⟩) (Nat.le_refl _) (by simp) _)⟩
      case rest =>
        rename World => w8
        obtain ⟨D8, P8⟩ := hcut.out
        have C2 := Lib.hid (HLA.out w8 A n c L sizeB18 P8.pin hnz)
        obtain ⟨V2, hV2⟩ : ∃ V, V = lastA sizeB18 L none := ⟨_, rfl⟩
        rw [← hV2] at C2
        have HVZ : Hid (∀ v, V2 = some v → v.size ≤ 4000000) := Lib.hid fun v hq => by
          rw [hq] at hV2
          rcases lastA_mem L none v hV2.symm with h | ⟨p, hp, e⟩
          · cases h
          · have := HSH.out p hp
            rw [← e]
            omega
        have HSO : Hid (sizeOf2 (L.map toL) Y = sizE V2 Y.size.toNat) := Lib.hid (by
          have h := last_toL sizeB18 L none
          rw [← hV2] at h
          unfold sizeOf2
          rw [show sizeK = sizeB18.data.toList from rfl, show (none : Option (List UInt8)) = Option.map (fun b : ByteArray => b.data.toList) none from rfl, ← h]
          cases V2 <;> rfl)
        have HD8 := Lib.hid D8
        clear hV2 D8 P8 x0 f0 D7 P7 HPV HV1 HSH
        go_wp2_with fail
        refine C2.out.mono ?_
        rintro e w9 ⟨rfl, hb9⟩
        have D9 := Lib.hid (HD8.out.on hb9)
        have x1 : w9.cell? ⟨a1, 1, none⟩ = some (.int .i64 Y.size) := blk_cell D9.out.head 1
        have f1 : w9.frozen? ⟨a1, 1, none⟩ = false := blk_frozen D9.out.head 1
        clear hb9 C2 HD8
        go_upto_if 83 with fail
        go_cut [] (fun wx => ∃ N : Nat, N ≤ 9007199254740992 ∧ Hid (RdT w wx a1 { Y with path := PV, size := (N : Int) } ∧ sizeOf2 (L.map toL) Y = some N))
        case first =>
          cases V2 with
          | none =>
            go_wp2_with fail
            go_meet
            case rel => exact ⟨N0, hN0z, Lib.hid ⟨by have h := D9.out; rw [← HN0.out]; exact h, by rw [HSO.out]; unfold sizE; dsimp only; rw [HN0.out, Int.toNat_natCast]⟩⟩
          | some v =>
            have hvz := HVZ.out v rfl
            have C3 := Lib.hid (HDE.out w9 v (by omega))
            have HDZ := Lib.hid (decimalA_le v.data.toList)
            have hso := HSO.out
            unfold sizE at hso
            dsimp only at hso
            obtain ⟨n1, hn1⟩ : ∃ x, x = (decimalA v.data.toList).1 := ⟨_, rfl⟩
            obtain ⟨e1, he1⟩ : ∃ x, x = (decimalA v.data.toList).2 := ⟨_, rfl⟩
            rw [← hn1, ← he1] at C3 hso
            rw [← hn1] at HDZ
            clear hn1 he1 HVZ HSO
            by_cases ee : e1 = 0
            · have de : ((e1 : Int) != 0) = false := by rw [ee]; rfl
              have HS1 := Lib.hid (hso.trans (if_pos ee))
              clear ee hso
              go_wp2_with fail
              refine C3.out.mono ?_
              rintro e w9' ⟨rfl, rfl⟩
              go_wp2_with fail
              go_meet
              case rel => exact ⟨n1, HDZ.out, Lib.hid ⟨D9.out.size (n1 : Int), HS1.out⟩⟩
            · have de : ((e1 : Int) != 0) = true := bne_iff_ne.2 (by omega)
              have HR3 : Hid (readT s.data.toList = none) := Lib.hid (by rw [HFT2.out, hso.trans (if_neg ee)])
              clear ee hso
              go_wp2_with fail
              refine C3.out.mono ?_
              rintro e w9' ⟨rfl, rfl⟩
              have HF := Lib.hid (HNO.out w9' D9.out.below (by rw [HR3.out]))
              have HZZ := Lib.hid D9.out.zero
              go_upto_region 23 with fail
              apply wp_region_lit
              refine wpList_build rfl 23 #[] rfl (by kernel_rfl) ?_
              refine wpList_store_row rfl 23 (.tmp 2) (.tmp 91) rfl w.heap.size #[.string ⟨#[]⟩, .string ⟨#[]⟩] rfl (by kernel_rfl) 23 #[.string ⟨#[]⟩, .string ⟨#[]⟩] HZZ.out (by kernel_rfl) rfl (by kernel_rfl) ?_
              rw [setRow_self _ _ _ _ _ HZZ.out]
              go_wp2_with fail
              exact bodyPost_ret (ret_read _ w.heap.size ⟨#[]⟩ ⟨#[]⟩ 0 180 HZZ.out _ rfl rfl rfl) rfl HF.out
        case rest =>
          rename World => w10
          obtain ⟨N, hNz, hcut⟩ := hcut
          obtain ⟨D10, hso⟩ := hcut.out
          have HFT3 := Lib.hid (HFT2.out.trans (by rw [hso]))
          have C4 := Lib.hid (HBE.out w10 R N (by omega) hNz)
          have x1 : w10.cell? ⟨a1, 1, none⟩ = some (.int .i64 (N : Int)) := blk_cell D10.head 1
          have hb := behA_T R.data.toList N
          have hbl : (behA R.data.toList N).2.1.length ≤ R.size := by
            have hl : R.data.toList.length = R.size := rfl
            unfold behA
            split
            · exact Nat.zero_le _
            · show (R.data.toList.drop (512 + upTo N)).length ≤ _
              rw [List.length_drop]
              omega
          obtain ⟨bb, hbb⟩ : ∃ b, b = behA R.data.toList N := ⟨_, rfl⟩
          obtain ⟨dd, more, is⟩ := bb
          rw [← hbb] at C4 hb hbl
          dsimp only at C4 hb hbl
          have HBT := Lib.hid hb
          have HML : Hid (more.length ≤ s.size) := Lib.hid (Nat.le_trans hbl HRS.out)
          have C5 := Lib.hid fun wx : World => HCL.out wx PV HPZ.out
          obtain ⟨pc, hpc⟩ : ∃ x, x = (cleanL PV.data.toList).1 := ⟨_, rfl⟩
          obtain ⟨ec, hec⟩ : ∃ x, x = (cleanL PV.data.toList).2 := ⟨_, rfl⟩
          rw [← hpc, ← hec] at C5
          have HFT4 : Hid (readT s.data.toList = endE (behindT R.data.toList N) pc ec) := Lib.hid (by
            rw [HFT3.out]
            dsimp only
            rw [HPL.out, ← hpc, ← hec]
            rfl)
          have HD10 := Lib.hid D10
          clear hb hbb hpc hec D10 hso hcut f1 D9
          go_wp2_with fail
          refine C4.out.mono ?_
          rintro e w11 ⟨rfl, hb11⟩
          have D11 := Lib.hid (HD10.out.on hb11)
          have x0 : w11.cell? ⟨a1, 0, none⟩ = some (.string PV) := blk_cell D11.out.head 0
          clear hb11 C4 x1 HD10
          go_wp2_with fail
          refine (C5.out _).mono ?_
          rintro e w12 ⟨rfl, hb12⟩
          have D12 := Lib.hid (D11.out.on hb12)
          clear hb12 C5 x0 D11
          cases is
          · have HR3 : Hid (readT s.data.toList = none) := Lib.hid (by rw [HFT4.out, HBT.out]; rfl)
            have HF := Lib.hid (HNO.out w12 D12.out.below (by rw [HR3.out]))
            have HZZ := Lib.hid D12.out.zero
            go_upto_region 28 with fail
            apply wp_region_lit
            refine wpList_build rfl 23 #[] rfl (by kernel_rfl) ?_
            refine wpList_store_row rfl 23 (.tmp 2) (.tmp 114) rfl w.heap.size #[.string ⟨#[]⟩, .string ⟨#[]⟩] rfl (by kernel_rfl) 23 #[.string ⟨#[]⟩, .string ⟨#[]⟩] HZZ.out (by kernel_rfl) rfl (by kernel_rfl) ?_
            rw [setRow_self _ _ _ _ _ HZZ.out]
            go_wp2_with fail
            exact bodyPost_ret (ret_read _ w.heap.size ⟨#[]⟩ ⟨#[]⟩ 0 180 HZZ.out _ rfl rfl rfl) rfl HF.out
          have HFT5 : Hid (readT s.data.toList = if ec ≠ 0 then none else some (pc, dd, more)) := Lib.hid (by rw [HFT4.out, HBT.out, if_pos rfl]; rfl)
          by_cases ee : ec = 0
          · have de : ((ec : Int) != 0) = false := by rw [ee]; rfl
            have HR3 : Hid (readT s.data.toList = some (pc, dd, more)) := Lib.hid (HFT5.out.trans (if_neg (fun h => h ee)))
            have HF := Lib.hid fun w' hb => HYES.out w' pc dd more hb HR3.out
            obtain ⟨M, hM⟩ : ∃ m, m = strF more := ⟨_, rfl⟩
            have hMz : M.size = more.length := by rw [hM]; rfl
            obtain ⟨K, hK⟩ : ∃ k, k = s.data.toList.length - more.length := ⟨_, rfl⟩
            have hK2 : (s.size : Int) - (M.size : Int) = (K : Int) := by
              have hl : s.data.toList.length = s.size := rfl
              have h2 := HML.out
              omega
            obtain ⟨PC, hPC⟩ : ∃ x, x = strF pc := ⟨_, rfl⟩
            obtain ⟨DD, hDD⟩ : ∃ x, x = strF dd := ⟨_, rfl⟩
            rw [← hK, ← hPC, ← hDD] at HF
            have hPC2 : strP pc = PC := hPC.symm
            rw [← hM, ← hDD, hPC2]
            have hMb : M.size ≤ 100000 := by rw [hMz]; have := HML.out; omega
            clear hM hMz hK hPC hDD ee hPC2
            go_wp2_with (refine wpList_store_row rfl 23 (.tmp 2) (.tmp 117) rfl w.heap.size #[.string PC, .string DD] rfl (by kernel_rfl) 23 #[.string ⟨#[]⟩, .string ⟨#[]⟩] D12.out.zero (by kernel_rfl) rfl (by kernel_rfl) ?_)
            have hfin : Blk (w12.setRow w.heap.size #[.string PC, .string DD]) w.heap.size 23 #[.string PC, .string DD] := setRow_heap w12 w.heap.size #[.string ⟨#[]⟩, .string ⟨#[]⟩] #[.string PC, .string DD] 23 (0, 0) D12.out.zero
            exact bodyPost_ret (ret_read _ w.heap.size PC DD K 0 hfin _ rfl rfl rfl) rfl (HF.out _ (below_row D12.out.below (Nat.le_refl _) _))
          · have de : ((ec : Int) != 0) = true := bne_iff_ne.2 (by omega)
            have HR3 : Hid (readT s.data.toList = none) := Lib.hid (HFT5.out.trans (if_pos ee))
            have HF := Lib.hid (HNO.out w12 D12.out.below (by rw [HR3.out]))
            have HZZ := Lib.hid D12.out.zero
            go_upto_region 28 with fail
            apply wp_region_lit
            refine wpList_build rfl 23 #[] rfl (by kernel_rfl) ?_
            refine wpList_store_row rfl 23 (.tmp 2) (.tmp 114) rfl w.heap.size #[.string ⟨#[]⟩, .string ⟨#[]⟩] rfl (by kernel_rfl) 23 #[.string ⟨#[]⟩, .string ⟨#[]⟩] HZZ.out (by kernel_rfl) rfl (by kernel_rfl) ?_
            rw [setRow_self _ _ _ _ _ HZZ.out]
            go_wp2_with fail
            exact bodyPost_ret (ret_read _ w.heap.size ⟨#[]⟩ ⟨#[]⟩ 0 180 HZZ.out _ rfl rfl rfl) rfl HF.out
    · have dk : ((Y.kind : Int) != 48) = true := bne_iff_ne.2 (by omega)
      have HR3 : Hid (readT s.data.toList = none) := Lib.hid (HFT1.out.trans (if_pos ek))
      clear ek
      have HF := Lib.hid (HNO.out wc D0.out.below (by rw [HR3.out]))
      have HZZ := Lib.hid D0.out.zero
      go_upto_region 15 with fail
      apply wp_region_lit
      refine wpList_build rfl 23 #[] rfl (by kernel_rfl) ?_
      refine wpList_store_row rfl 23 (.tmp 2) (.tmp 69) rfl w.heap.size #[.string ⟨#[]⟩, .string ⟨#[]⟩] rfl (by kernel_rfl) 23 #[.string ⟨#[]⟩, .string ⟨#[]⟩] HZZ.out (by kernel_rfl) rfl (by kernel_rfl) ?_
      rw [setRow_self _ _ _ _ _ HZZ.out]
      go_wp2_with fail
      exact bodyPost_ret (ret_read _ w.heap.size ⟨#[]⟩ ⟨#[]⟩ 0 180 HZZ.out _ rfl rfl rfl) rfl HF.out
end Go.Proofs.YtdjmfkodjjjhfaaGreatDoor
