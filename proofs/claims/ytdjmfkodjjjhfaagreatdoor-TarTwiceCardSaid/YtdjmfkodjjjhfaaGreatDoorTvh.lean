/- Tar's reader: keep, data. Conditions: texts of at most 2^47 bytes. -/
import Derived.Test.YtdjmfkodjjjhfaaGreatDoorPud
import Derived.BigQuiet
import Derived.Test.YtdjmfkodjjjhfaaGreatDoorTrd
import Derived.Laws.Rows
namespace Go.Proofs.YtdjmfkodjjjhfaaGreatDoor
open Go.RowKit

/-- A reader: what is left to read, and whether something was wrong. -/
abbrev Rd (w : World) (g : Nat) (s : ByteArray) (b : Bool) : Prop := Blk w g 61 #[.string s, .bool b]
theorem Rd.c0 {w : World} {g : Nat} {s : ByteArray} {b : Bool} (h : Rd w g s b) : w.cell? ⟨g, 0, none⟩ = some (.string s) := blk_cell h 0
theorem Rd.c1 {w : World} {g : Nat} {s : ByteArray} {b : Bool} (h : Rd w g s b) : w.cell? ⟨g, 1, none⟩ = some (.bool b) := blk_cell h 1
theorem Rd.wrong {w : World} {g : Nat} {s : ByteArray} {b : Bool} (h : Rd w g s b) (b' : Bool) : Rd (w.setCell ⟨g, 1, none⟩ (.bool b')) g s b' := blk_set h 1 (.bool b')
theorem Rd.rest {w : World} {g : Nat} {s : ByteArray} {b : Bool} (h : Rd w g s b) (s' : ByteArray) : Rd (w.setCell ⟨g, 0, none⟩ (.string s')) g s' b := blk_set h 0 (.string s')
set_option maxRecDepth 100000 in
theorem step_set (w : World) (g i : Nat) (v : Value) : Step g [g] [] w (w.setCell ⟨g, i, none⟩ v) := (Step.refl g [g] [] w).set (p := ⟨g, i, none⟩) (Nat.le_refl _) (by simp) _

set_option maxRecDepth 100000 in
theorem ckeep_any (w : World) (g : Nat) (s : ByteArray) (b : Bool) (k : Nat) (h : Rd w g s b) :
    Calls Tryz.prog 63 #[.pointer (some ⟨g, 0, none⟩), .int .i64 k] w fun e w' => e = .returned (.tuple #[]) ∧ Rd w' g s (b || decide (k ≠ 0)) ∧ Step g [g] [] w w' := by
  have c1 := h.c1
  have f1 : w.frozen? ⟨g, 1, none⟩ = false := blk_frozen h 1
  have H := Lib.hid h
  have HS := Lib.hid fun v => step_set w g 1 v
  clear h
  cases b
  · by_cases e : k = 0
    · have t0 : ((k : Int) != 0) = false := by rw [e]; rfl
      have d0 : decide (k ≠ 0) = false := by rw [e]; rfl
      rw [d0, Bool.or_false]
      clear e d0
      go_enter Tryz.func63, Tryz.ntmps63
      go_wp2_with fail
      first | go_end0 | go_ret2
      exact ⟨rfl, H.out.wrong false, HS.out _⟩
    · have t0 : ((k : Int) != 0) = true := bne_iff_ne.2 (by omega)
      have d0 : decide (k ≠ 0) = true := decide_eq_true e
      rw [d0, Bool.or_true]
      clear e d0
      go_enter Tryz.func63, Tryz.ntmps63
      go_wp2_with fail
      first | go_end0 | go_ret2
      exact ⟨rfl, H.out.wrong true, HS.out _⟩
  · rw [Bool.true_or]
    go_enter Tryz.func63, Tryz.ntmps63
    go_wp2_with fail
    first | go_end0 | go_ret2
    exact ⟨rfl, H.out.wrong true, HS.out _⟩

set_option maxHeartbeats 3200000 in
set_option maxRecDepth 100000 in
theorem cdata_any (w : World) (g : Nat) (s : ByteArray) (b : Bool) (n : Nat) (h : Rd w g s b) (hn : n ≤ 9007199254740992) (_ : s.size ≤ 140737488355328) :
    Calls Tryz.prog 35 #[.pointer (some ⟨g, 0, none⟩), .int .i64 n] w fun e w' => Step g [g] [] w w' ∧
      if s.size < upTo n then e = .returned (.string ⟨#[]⟩) ∧ Rd w' g s true else e = .returned (.string (s.extract 0 n)) ∧ Rd w' g (s.extract (upTo n) s.size) b := by
  have c0 := h.c0
  have f0 : w.frozen? ⟨g, 0, none⟩ = false := blk_frozen h 0
  have CF := Lib.hid fun wx : World => cfilled_any wx n hn
  have hnu : n ≤ upTo n := by unfold upTo; omega
  have hu : upTo n ≤ 9007199254741503 := by unfold upTo; omega
  obtain ⟨u, hue⟩ : ∃ u, u = upTo n := ⟨_, rfl⟩
  rw [← hue] at CF hnu hu ⊢
  clear hue
  by_cases e : s.size < u
  · simp only [if_pos e]
    have d0 : decide ((s.size : Int) < (u : Int)) = true := decide_eq_true (by omega)
    have CK : Hid (∀ wx : World, Rd wx g s b → Calls Tryz.prog 63 #[.pointer (some ⟨g, 0, none⟩), .int .i64 180] wx fun e w' => e = .returned (.tuple #[]) ∧ Rd w' g s true ∧ Step g [g] [] wx w') := Lib.hid fun wx hx => by
      have h := ckeep_any wx g s b 180 hx
      rw [show (b || decide (180 ≠ 0)) = true from Bool.or_true b] at h
      exact h
    have H : Hid (∀ q, Rd (w.drewN q) g s b) := Lib.hid fun q => h
    clear h
    go_enter Tryz.func35, Tryz.ntmps35
    go_upto_region 1 with fail
    go_quiet (first | (go_at_call 53; exact Calls.quiet_of_same (CF.out _)))
    go_wp2_with fail
    refine (CK.out _ (H.out _)).mono ?_
    rintro e w2 ⟨rfl, hr2, hs2⟩
    have HR := Lib.hid hr2
    have HS := Lib.hid ((Step.drewN (Step.refl g [g] [] w) _).trans hs2)
    clear hr2 hs2
    go_wp2_with fail
    go_ret
    exact ⟨HS.out, rfl, HR.out⟩
  · simp only [if_neg e]
    have d0 : decide ((s.size : Int) < (u : Int)) = false := decide_eq_false (by omega)
    have z1 : (n : Int) ≤ (s.size : Int) := by omega
    have z2 : (u : Int) ≤ (s.size : Int) := by omega
    have z3 : (0 : Int) ≤ (n : Int) := by omega
    have z4 : (0 : Int) ≤ (u : Int) := by omega
    have H1 := Lib.hid h
    clear h
    go_enter Tryz.func35, Tryz.ntmps35
    go_upto_region 1 with fail
    go_quiet (first | (go_at_call 53; exact Calls.quiet_of_same (CF.out _)))
    go_wp2_with fail
    go_region_with (first | (go_at_call 53; refine (CF.out _).mono ?_; rintro e w ⟨rfl, rfl⟩))
    all_goals
      go_wp2_with fail
      go_ret
      exact ⟨((Step.refl g [g] [] w).drewN _).set (p := ⟨g, 0, none⟩) (Nat.le_refl _) (by simp) _, rfl, Rd.rest (show Rd (w.drewN _) g s b from H1.out) _⟩
end Go.Proofs.YtdjmfkodjjjhfaaGreatDoor
/- Tar's reader: header. Conditions: texts of at most 2^47 bytes. -/
namespace Go.Proofs.YtdjmfkodjjjhfaaGreatDoor
open Go.RowKit

set_option maxRecDepth 100000 in
theorem retH (wx : World) (f : Func) (hf : f.results = #[.cell 2 65]) (B : Nat) (h : HeadP) (hk : Blk wx B 65 (headCs h)) (tmps : Array Value) (h2 : tmps.getD 2 undef = .pointer (some ⟨B, 0, none⟩)) :
    (results f tmps).run Tryz.prog wx = .ok (headV h) wx := results_cell_row hf tmps wx B 65 (headCs h) (0, 0) _ h2 hk Tryz.underlying65 rfl (by kernel_rfl)
theorem rd_past {w : World} {g : Nat} {s : ByteArray} {b : Bool} (h : Rd w g s b) (o : Obj) : Rd (w.alloc o) g s b := (Below.heap_alloc w o g (blk_lt h)).trans h

set_option maxHeartbeats 3200000 in
set_option maxRecDepth 100000 in
theorem cheader_over (DEC : ∀ (wx : World) (t : ByteArray), t.size ≤ 140737488355328 → Calls Tryz.prog 99 #[.string t] wx fun e w' => e = .returned (.tuple #[headV (decA t.data.toList).1, .int .i64 (decA t.data.toList).2]) ∧ Below wx.heap.size wx w')
    (w : World) (g : Nat) (s : ByteArray) (b : Bool) (h : Rd w g s b) (hs : s.size ≤ 140737488355328) :
    Calls Tryz.prog 61 #[.pointer (some ⟨g, 0, none⟩)] w fun e w' => e = .returned (headV (decA (s.data.toList.take 512)).1) ∧
      Rd w' g (strF (s.data.toList.drop 512)) (b || decide ((decA (s.data.toList.take 512)).2 ≠ 0)) ∧ Step g [g] [] w w' := by
  have HG := Lib.hid (blk_lt h)
  have HZ := Lib.hid (blk_new w 65 #[.string ⟨#[]⟩, .int .i64 0, .int .u8 0, .int .i64 0, .int .i64 0, .string ⟨#[]⟩, .string ⟨#[]⟩, .string ⟨#[]⟩, .int .i64 0, .int .i64 0])
  have hr1 := rd_past h (.cells #[.string ⟨#[]⟩, .int .i64 0, .int .u8 0, .int .i64 0, .int .i64 0, .string ⟨#[]⟩, .string ⟨#[]⟩, .string ⟨#[]⟩, .int .i64 0, .int .i64 0] 65)
  have hs1 : Step g [g] [] w (w.alloc (.cells #[.string ⟨#[]⟩, .int .i64 0, .int .u8 0, .int .i64 0, .int .i64 0, .string ⟨#[]⟩, .string ⟨#[]⟩, .string ⟨#[]⟩, .int .i64 0, .int .i64 0] 65)) := (Step.refl g [g] [] w).alloc (Nat.le_of_lt HG.out) _
  obtain ⟨m, hm⟩ : ∃ m, m = min 512 s.size := ⟨_, rfl⟩
  obtain ⟨F, hF⟩ : ∃ F, F = s.extract 0 m := ⟨_, rfl⟩
  have hFl : F.data.toList = s.data.toList.take 512 := by
    rw [hF, fext_list, List.drop_zero]
    have : s.data.toList.length = s.size := rfl
    rcases Nat.lt_or_ge s.size 512 with q | q
    · rw [List.take_of_length_le (by omega), List.take_of_length_le (by omega)]
    · rw [hm, Nat.min_eq_left q]
  have hFz : F.size = m := by rw [hF, ByteArray.size_extract]; omega
  have CD := Lib.hid fun wx : World => DEC wx F (by omega)
  rw [hFl] at CD
  have HS := Lib.hid hs1
  have HR := Lib.hid hr1
  have HFX := Lib.hid hF.symm
  have hFM : s.extract 0 (if (s.size : Int) < 512 then (s.size : Int) else 512).toNat = F := by
    rw [hF, hm]
    congr 1
    split <;> omega
  have HFM := Lib.hid hFM
  have HRST : Hid (s.extract m s.size = strF (s.data.toList.drop 512)) := Lib.hid (by
    apply ByteArray.ext
    apply Array.toList_inj.1
    rw [fext_list, List.take_of_length_le (show s.data.toList.length ≤ s.size from Nat.le_refl _)]
    show s.data.toList.drop m = s.data.toList.drop 512
    have : s.data.toList.length = s.size := rfl
    rcases Nat.lt_or_ge s.size 512 with q | q
    · rw [List.drop_of_length_le (by omega), List.drop_of_length_le (by omega)]
    · rw [hm, Nat.min_eq_left q])
  obtain ⟨X, hX⟩ : ∃ X, X = (decA (s.data.toList.take 512)).1 := ⟨_, rfl⟩
  obtain ⟨k, hk⟩ : ∃ k, k = (decA (s.data.toList.take 512)).2 := ⟨_, rfl⟩
  rw [← hX, ← hk] at CD ⊢
  have CK := Lib.hid fun (wx : World) (hx : Rd wx g s b) => ckeep_any wx g s b k hx
  obtain ⟨b2, hb2⟩ : ∃ b2, b2 = (b || decide (k ≠ 0)) := ⟨_, rfl⟩
  rw [← hb2] at CK ⊢
  generalize strF (s.data.toList.drop 512) = RS at *
  have hv : headV X = .agg #[.string X.path, .int .i64 X.size, .int .u8 X.kind, .int .i64 X.mode, .int .i64 X.time, .string X.link, .string X.user, .string X.group, .int .i64 X.uid, .int .i64 X.gid] := rfl
  rw [hv] at CD
  clear hs1 DEC hF hFl h hr1 hFM hX hk hb2 hv
  go_enter Tryz.func61, Tryz.ntmps61
  go_upto_region 1 with fail
  generalize w.alloc (.cells #[.string ⟨#[]⟩, .int .i64 0, .int .u8 0, .int .i64 0, .int .i64 0, .string ⟨#[]⟩, .string ⟨#[]⟩, .string ⟨#[]⟩, .int .i64 0, .int .i64 0] 65) = w1 at *
  have c0 := HR.out.c0
  have z1 : (0 : Int) ≤ (m : Int) := by omega
  have z2 : (m : Int) ≤ (s.size : Int) := by omega
  clear hm
  go_region
  rw [HFM.out]
  have HZd : Hid (Blk w1.drew w.heap.size 65 #[.string ⟨#[]⟩, .int .i64 0, .int .u8 0, .int .i64 0, .int .i64 0, .string ⟨#[]⟩, .string ⟨#[]⟩, .string ⟨#[]⟩, .int .i64 0, .int .i64 0]) := HZ
  have HRd : Hid (Rd w1.drew g s b) := HR
  have HSd := Lib.hid HS.out.drew
  generalize w1.drew = wd at *
  generalize Value.int IntKind.i64 (if (s.size : Int) < 512 then (s.size : Int) else 512) = VM at *
  clear HZ HR HS c0 HFM
  go_wp2_with fail
  refine (CD.out _).mono ?_
  rintro e w2 ⟨rfl, hb2⟩
  have hz2 := (step_of_below hb2).blk HZd.out List.not_mem_nil List.not_mem_nil
  have hr2 : Rd w2 g s b := (step_of_below hb2).blk HRd.out List.not_mem_nil List.not_mem_nil
  have hz3 := blk_past hz2 (.cells #[.string X.path, .int .i64 X.size, .int .u8 X.kind, .int .i64 X.mode, .int .i64 X.time, .string X.link, .string X.user, .string X.group, .int .i64 X.uid, .int .i64 X.gid] 65)
  have hr3 := rd_past hr2 (.cells #[.string X.path, .int .i64 X.size, .int .u8 X.kind, .int .i64 X.mode, .int .i64 X.time, .string X.link, .string X.user, .string X.group, .int .i64 X.uid, .int .i64 X.gid] 65)
  have HK3 := Lib.hid (blk_new w2 65 #[.string X.path, .int .i64 X.size, .int .u8 X.kind, .int .i64 X.mode, .int .i64 X.time, .string X.link, .string X.user, .string X.group, .int .i64 X.uid, .int .i64 X.gid])
  have hlt := blk_lt HRd.out
  have hgz := blk_lt HZd.out
  have hs3 : Step g [g] [] w (w2.alloc (.cells #[.string X.path, .int .i64 X.size, .int .u8 X.kind, .int .i64 X.mode, .int .i64 X.time, .string X.link, .string X.user, .string X.group, .int .i64 X.uid, .int .i64 X.gid] 65)) :=
    (HSd.out.trans ((step_of_below hb2).mono (Nat.le_of_lt hlt) (by simp) (by simp))).alloc (by have := hb2.size; omega) _
  have HZ3 := Lib.hid hz3
  have HR3 := Lib.hid hr3
  have HS3 := Lib.hid hs3
  have HLT : Hid (w.heap.size < w2.heap.size ∧ g < w.heap.size) := Lib.hid ⟨by have := hb2.size; omega, HG.out⟩
  clear hz2 hr2 hz3 hr3 hs3 hb2 HZd HRd HSd hlt hgz
  go_upto_region 3 with fail
  generalize w2.alloc (.cells #[.string X.path, .int .i64 X.size, .int .u8 X.kind, .int .i64 X.mode, .int .i64 X.time, .string X.link, .string X.user, .string X.group, .int .i64 X.uid, .int .i64 X.gid] 65) = w3 at *
  obtain ⟨a2, ha2⟩ : ∃ a, a = w2.heap.size := ⟨_, rfl⟩
  rw [← ha2] at HK3 HLT ⊢
  obtain ⟨a1, ha1⟩ : ∃ a, a = w.heap.size := ⟨_, rfl⟩
  rw [← ha1] at HZ3 HLT ⊢
  have HA1 := Lib.hid ha1
  clear ha1 ha2 w2
  go_wp2_with fail
  refine (CK.out _ HR3.out).mono ?_
  rintro e w4 ⟨rfl, hr4, hs4⟩
  have HZ4 := Lib.hid (hs4.blk HZ3.out (by have := HLT.out; simp; omega) List.not_mem_nil)
  have HK4 := Lib.hid (hs4.blk HK3.out (by have := HLT.out; simp; omega) List.not_mem_nil)
  have HR4 := Lib.hid hr4
  have HS4 := Lib.hid (HS3.out.trans hs4)
  clear hr4 hs4 HZ3 HK3 HR3 HS3
  have c0 := HR4.out.c0
  have f0 : w4.frozen? ⟨g, 0, none⟩ = false := blk_frozen HR4.out 0
  go_upto_region 5 with fail
  rw [HRST.out]
  have HZ5 := Lib.hid (blk_far HZ4.out (p := ⟨g, 0, none⟩) (by show a1 ≠ g; have := HLT.out; omega) (.string RS))
  have HK5 := Lib.hid (blk_far HK4.out (p := ⟨g, 0, none⟩) (by show a2 ≠ g; have := HLT.out; omega) (.string RS))
  have HR5 := Lib.hid (HR4.out.rest RS)
  have HS5 := Lib.hid (HS4.out.trans (step_set w4 g 0 (.string RS)))
  clear HZ4 HK4 HR4 HS4 c0 f0
  generalize w4.setCell ⟨g, 0, none⟩ (.string RS) = w5 at *
  apply wp_region_lit
  refine wpList_load_row rfl 65 (.tmp 4) rfl a2 rfl 65 #[.string X.path, .int .i64 X.size, .int .u8 X.kind, .int .i64 X.mode, .int .i64 X.time, .string X.link, .string X.user, .string X.group, .int .i64 X.uid, .int .i64 X.gid] (0, 0) _ HK5.out Tryz.underlying65 rfl (by kernel_rfl) ?_
  refine wpList_store_row rfl 65 (.tmp 2) (.tmp 35) rfl a1 #[.string X.path, .int .i64 X.size, .int .u8 X.kind, .int .i64 X.mode, .int .i64 X.time, .string X.link, .string X.user, .string X.group, .int .i64 X.uid, .int .i64 X.gid] rfl (by kernel_rfl) 65 _ HZ5.out (by kernel_rfl) rfl (by kernel_rfl) ?_
  have hfin : Blk (w5.setRow a1 #[.string X.path, .int .i64 X.size, .int .u8 X.kind, .int .i64 X.mode, .int .i64 X.time, .string X.link, .string X.user, .string X.group, .int .i64 X.uid, .int .i64 X.gid]) a1 65 (headCs X) := setRow_heap w5 a1 _ (headCs X) 65 (0, 0) HZ5.out
  have HFIN := Lib.hid hfin
  clear hfin
  have HSF : Hid (Step g [g] [] w (w5.setRow a1 #[.string X.path, .int .i64 X.size, .int .u8 X.kind, .int .i64 X.mode, .int .i64 X.time, .string X.link, .string X.user, .string X.group, .int .i64 X.uid, .int .i64 X.gid])) := Lib.hid (HS5.out.after (step_row w5 a1 _) (Nat.le_of_lt HLT.out.2) (by have := HA1.out; simp; omega) (by simp))
  have HRF : Hid (Rd (w5.setRow a1 #[.string X.path, .int .i64 X.size, .int .u8 X.kind, .int .i64 X.mode, .int .i64 X.time, .string X.link, .string X.user, .string X.group, .int .i64 X.uid, .int .i64 X.gid]) g RS b2) := Lib.hid ((setRow_other w5 a1 g _ (by have := HLT.out; omega)).trans HR5.out)
  go_wp2_with fail
  exact bodyPost_ret (retH _ _ rfl a1 X HFIN.out _ rfl) rfl ⟨rfl, HRF.out, HSF.out⟩
end Go.Proofs.YtdjmfkodjjjhfaaGreatDoor
/- Tar's reader, plain: what a header and its data leave; Read's answer out of the reader's state. -/
namespace Go.Proofs.YtdjmfkodjjjhfaaGreatDoor
open Go.RowKit

/-- A header, and whether it was none. -/
def hdP (s : List UInt8) : HeadP := (decA (s.take 512)).1
def hdE (s : List UInt8) : Bool := decide ((decA (s.take 512)).2 ≠ 0)
theorem decA_short {t : List UInt8} (h : t.length ≠ 512) : decA t = (zeroHead, 160) := by
  unfold decA
  rw [if_neg (fun q => h q.1)]
theorem headT_is (s : List UInt8) : headT s = if hdE s = true then none else some (hdP s) := by
  unfold headT hdE hdP
  by_cases h : s.length < 512
  · rw [if_pos h, decA_short (by rw [List.length_take]; omega)]
    rfl
  · rw [if_neg h]
    by_cases e : (decA (s.take 512)).2 = 0
    · rw [if_pos e, if_neg (by rw [decide_eq_true_eq]; exact fun q => q e)]
    · rw [if_neg e, if_pos (by rw [decide_eq_true_eq]; exact e)]
theorem hdE_len {s : List UInt8} (h : hdE s = false) : 512 ≤ s.length := by
  unfold hdE at h
  refine Nat.le_of_not_lt fun hn => ?_
  rw [decA_short (by rw [List.length_take]; omega)] at h
  cases h
theorem hdP_facts (s : List UInt8) : (∃ n : Nat, (hdP s).size = n ∧ n ≤ 9007199254740992) ∧ (hdP s).path.size ≤ 256 ∧ (hdP s).kind < 256 := by
  have hz : (∃ n : Nat, (zeroHead).size = n ∧ n ≤ 9007199254740992) ∧ (zeroHead).path.size ≤ 256 ∧ (zeroHead).kind < 256 := ⟨⟨0, rfl, by omega⟩, by decide, by decide⟩
  cases e : hdE s with
  | true =>
    have h : (decA (s.take 512)).2 ≠ 0 := of_decide_eq_true e
    have h2 : hdP s = zeroHead := by
      unfold hdP
      unfold decA at h ⊢
      split
      · next hk => rw [if_pos hk] at h; exact absurd rfl h
      · rfl
    rw [h2]
    exact hz
  | false =>
    have h : headA2 s = (hdP s, true) := by
      unfold headA2 hdP
      rw [if_neg (by have := hdE_len e; omega)]
      have h3 : (decA (s.take 512)).2 = 0 := Classical.not_not.1 (of_decide_eq_false e)
      rw [h3]
      rfl
    exact headA2_facts h
theorem behind_is {s : List UInt8} (n : Nat) (h : 512 ≤ s.length) : behindT s n = if (s.drop 512).length < upTo n then none else some ((s.drop 512).take n, (s.drop 512).drop (upTo n)) := by
  unfold behindT
  rw [List.length_drop, List.drop_drop]
  by_cases e : s.length < 512 + upTo n
  · rw [if_pos e, if_pos (by omega)]
  · rw [if_neg e, if_neg (by omega)]
/-- What is told at last of a head, what is left, and whether something was wrong. -/
def finS (h : HeadP) (r : List UInt8) (b : Bool) : Option (List UInt8 × List UInt8 × List UInt8) :=
  if b = true ∨ h.kind ≠ 48 ∨ r.length < upTo h.size.toNat ∨ (cleanL h.path.data.toList).2 ≠ 0 then none else some ((cleanL h.path.data.toList).1, r.take h.size.toNat, r.drop (upTo h.size.toNat))
theorem finS_wrong (h : HeadP) (r : List UInt8) : finS h r true = none := by unfold finS; rw [if_pos (.inl rfl)]
set_option maxRecDepth 100000 in
theorem file_is (l : List PairL) (s : List UInt8) (h2 : HeadP) (hk : h2.kind = (hdP s).kind) (b : Bool)
    (hp : h2.path.data.toList = (lastA pathK l none).getD (hdP s).path.data.toList) (hs : match lastA sizeK l none with | none => h2.size.toNat = (hdP s).size.toNat ∧ b = false | some v => h2.size.toNat = (decimalA v).1 ∧ b = decide ((decimalA v).2 ≠ 0)) :
    fileT l s = finS h2 (s.drop 512) (hdE s || b) := by
  unfold fileT
  rw [headT_is]
  cases e : hdE s with
  | true => rw [if_pos rfl, Bool.true_or, finS_wrong]
  | false =>
    have h512 := hdE_len e
    rw [if_neg Bool.false_ne_true, Bool.false_or]
    dsimp only
    by_cases ek : (hdP s).kind = 48
    · rw [if_neg (fun q => q ek)]
      have hsz : sizeOf2 l (hdP s) = if b = true then none else some h2.size.toNat := by
        unfold sizeOf2
        cases hl : lastA sizeK l none with
        | none =>
          rw [hl] at hs
          rw [hs.2, if_neg Bool.false_ne_true, hs.1]
        | some v =>
          rw [hl] at hs
          dsimp only at hs ⊢
          rw [hs.2, hs.1]
          by_cases ed : (decimalA v).2 = 0
          · rw [if_pos ed, if_neg (by rw [decide_eq_true_eq]; exact fun q => q ed)]
          · rw [if_neg ed, if_pos (by rw [decide_eq_true_eq]; exact ed)]
      rw [hsz]
      cases b with
      | true => rw [if_pos rfl, finS_wrong]
      | false =>
        rw [if_neg Bool.false_ne_true]
        dsimp only
        rw [behind_is _ h512, ← hp]
        unfold finS
        by_cases el : (s.drop 512).length < upTo h2.size.toNat
        · rw [if_pos el, if_pos (.inr (.inr (.inl el)))]
        · rw [if_neg el]
          dsimp only
          by_cases ec : (cleanL h2.path.data.toList).2 = 0
          · rw [if_neg (fun q => q ec), if_neg ?_]
            rintro (q | q | q | q)
            · cases q
            · exact q (hk.trans ek)
            · exact el q
            · exact q ec
          · rw [if_pos ec, if_pos (.inr (.inr (.inr ec)))]
    · rw [if_pos ek, finS, if_pos (.inr (.inl (fun q => ek (hk ▸ q))))]
set_option maxRecDepth 100000 in
theorem read_plain {s : List UInt8} (hk : (hdP s).kind ≠ 120) : readT s = finS (hdP s) (s.drop 512) (hdE s) := by
  have h := file_is [] s (hdP s) rfl false rfl ⟨rfl, rfl⟩
  rw [Bool.or_false] at h
  rw [← h]
  unfold readT
  rw [headT_is]
  cases e : hdE s with
  | true =>
    rw [if_pos rfl, fileT, headT_is, e, if_pos rfl]
  | false =>
    rw [if_neg Bool.false_ne_true]
    dsimp only
    rw [if_neg hk]
theorem read_wrong {s : List UInt8} (h : hdE s = true) : readT s = none := by
  unfold readT
  rw [headT_is, if_pos h]
set_option maxRecDepth 100000 in
theorem read_short {s : List UInt8} (hk : (hdP s).kind = 120) (h : (s.drop 512).length < upTo (hdP s).size.toNat) : readT s = none := by
  unfold readT
  rw [headT_is]
  cases e : hdE s with
  | true => rw [if_pos rfl]
  | false =>
    rw [if_neg Bool.false_ne_true]
    dsimp only
    rw [if_pos hk, behind_is _ (hdE_len e), if_pos h]
set_option maxRecDepth 100000 in
theorem read_pairs {s : List UInt8} (hk : (hdP s).kind = 120) (he : hdE s = false) (h : ¬ (s.drop 512).length < upTo (hdP s).size.toNat) : readT s = match pairsOf ((s.drop 512).take (hdP s).size.toNat) with
    | none => none
    | some l => fileT l ((s.drop 512).drop (upTo (hdP s).size.toNat)) := by
  unfold readT
  rw [headT_is, he, if_neg Bool.false_ne_true]
  dsimp only
  rw [if_pos hk, behind_is _ (hdE_len he), if_neg h]
  rfl
theorem pairsOf_not {t : List UInt8} (h : ∀ l, keysK l → flatP l = t → 262144 < t.length) : pairsOf t = none := by
  unfold pairsOf
  rw [dif_neg]
  rintro ⟨h1, l, h2, h3⟩
  have := h l h2 h3
  omega
end Go.Proofs.YtdjmfkodjjjhfaaGreatDoor
/- Tar's reader: what stands between fileHeader's steps; plain: what they tell. Conditions: texts of at most 2^47 bytes. -/
namespace Go.Proofs.YtdjmfkodjjjhfaaGreatDoor
open Go.RowKit

theorem hdE_zero {s : List UInt8} (h : hdE s = true) : hdP s = zeroHead := by
  have h2 : (decA (s.take 512)).2 ≠ 0 := of_decide_eq_true h
  unfold hdP
  unfold decA at h2 ⊢
  split
  · next hk => rw [if_pos hk] at h2; exact absurd rfl h2
  · rfl
/-- Between two steps: the reader at g, the header at a1, the answer's variable at a0. -/
structure FHd (w wk : World) (g a0 a1 : Nat) (r : List UInt8) (b : Bool) (X : HeadP) : Prop where
  rd : Rd wk g (strF r) b
  hd : Blk wk a1 65 (headCs X)
  zr : Blk wk a0 65 zeroCs
  st : Step g [g] [] w wk
  o1 : g < a0
  o2 : a0 < a1
  o3 : w.heap.size = a0
section
variable {w wk w' : World} {g a0 a1 : Nat} {r : List UInt8} {b : Bool} {X : HeadP} (D : FHd w wk g a0 a1 r b X)
include D
set_option maxRecDepth 100000 in
theorem FHd.low (h : Below wk.heap.size wk w') : FHd w w' g a0 a1 r b X :=
  ⟨(step_of_below h).blk D.rd List.not_mem_nil List.not_mem_nil, (step_of_below h).blk D.hd List.not_mem_nil List.not_mem_nil, (step_of_below h).blk D.zr List.not_mem_nil List.not_mem_nil,
    D.st.trans ((step_of_below h).mono (Nat.le_of_lt (blk_lt D.rd)) (by simp) (by simp)), D.o1, D.o2, D.o3⟩
set_option maxRecDepth 100000 in
theorem FHd.call {r' : List UInt8} {b' : Bool} (hr : Rd w' g (strF r') b') (h : Step g [g] [] wk w') : FHd w w' g a0 a1 r' b' X :=
  ⟨hr, h.blk D.hd (by have := D.o1; have := D.o2; simp; omega) List.not_mem_nil, h.blk D.zr (by have := D.o1; simp; omega) List.not_mem_nil, D.st.trans h, D.o1, D.o2, D.o3⟩
set_option maxRecDepth 100000 in
theorem FHd.row (Y : HeadP) : FHd w (wk.setRow a1 (headCs Y)) g a0 a1 r b Y :=
  ⟨(setRow_other wk a1 g _ (by have := D.o1; have := D.o2; omega)).trans D.rd, setRow_heap wk a1 (headCs X) (headCs Y) 65 (0, 0) D.hd, (setRow_other wk a1 a0 _ (by have := D.o2; omega)).trans D.zr,
    D.st.after (step_row wk a1 _) (by have := D.o1; have := D.o2; omega) (by have := D.o3; have := D.o2; simp; omega) (by simp), D.o1, D.o2, D.o3⟩
set_option maxRecDepth 100000 in
theorem FHd.cell (i : Nat) (v : Value) (Y : HeadP) (hY : (headCs X).setIfInBounds i v = headCs Y) : FHd w (wk.setCell ⟨a1, i, none⟩ v) g a0 a1 r b Y :=
  ⟨blk_far D.rd (p := ⟨a1, i, none⟩) (by show g ≠ a1; have := D.o1; have := D.o2; omega) v, by rw [← hY]; exact blk_set D.hd i v, blk_far D.zr (p := ⟨a1, i, none⟩) (by show a0 ≠ a1; have := D.o2; omega) v,
    D.st.after ((Step.refl a1 [a1] [] wk).set (p := ⟨a1, i, none⟩) (Nat.le_refl _) (by simp) _) (by have := D.o1; have := D.o2; omega) (by have := D.o3; have := D.o2; simp; omega) (by simp), D.o1, D.o2, D.o3⟩
set_option maxRecDepth 100000 in
theorem FHd.fin : Rd (wk.setRow a0 (headCs X)) g (strF r) b ∧ Step g [g] [] w (wk.setRow a0 (headCs X)) ∧ Blk (wk.setRow a0 (headCs X)) a0 65 (headCs X) :=
  ⟨(setRow_other wk a0 g _ (by have := D.o1; omega)).trans D.rd, D.st.after (step_row wk a0 _) (by have := D.o1; omega) (by have := D.o3; simp; omega) (by simp), setRow_heap wk a0 zeroCs (headCs X) 65 (0, 0) D.zr⟩
end

set_option maxRecDepth 100000 in
/-- Read's answer, out of what fileHeader's steps told of pairs. -/
theorem fh_final (s T r2 : List UInt8) (Lm : List PairL) (kE : Nat) (short bS : Bool) (h2 : HeadP) (hk : (hdP s).kind = 120)
    (hsh : if (s.drop 512).length < upTo (hdP s).size.toNat then short = true else short = false ∧ T = (s.drop 512).take (hdP s).size.toNat ∧ r2 = (s.drop 512).drop (upTo (hdP s).size.toNat))
    (hpr : (kE = 0 ∧ T.length ≤ 262144 ∧ keysK Lm ∧ flatP Lm = T) ∨ (kE ≠ 0 ∧ ∀ l, keysK l → flatP l = T → 262144 < T.length))
    (hk2 : h2.kind = (hdP r2).kind) (hp : h2.path.data.toList = (lastA pathK Lm none).getD (hdP r2).path.data.toList)
    (hs : match lastA sizeK Lm none with | none => h2.size.toNat = (hdP r2).size.toNat ∧ bS = false | some v => h2.size.toNat = (decimalA v).1 ∧ bS = decide ((decimalA v).2 ≠ 0)) :
    readT s = finS h2 (r2.drop 512) (short || decide (kE ≠ 0) || hdE r2 || bS) := by
  have he : hdE s = false := by
    cases e : hdE s with
    | false => rfl
    | true =>
      rw [hdE_zero e] at hk
      cases hk
  by_cases el : (s.drop 512).length < upTo (hdP s).size.toNat
  · rw [if_pos el] at hsh
    rw [read_short hk el, hsh]
    simp only [Bool.true_or, finS_wrong]
  · rw [if_neg el] at hsh
    obtain ⟨rfl, hT, hr2⟩ := hsh
    rw [read_pairs hk he el, ← hT, ← hr2]
    rcases hpr with ⟨rfl, h1, h3, h4⟩ | ⟨h1, h3⟩
    · rw [← h4, pairsOf_flat Lm h3 (by rw [h4]; exact h1)]
      have h := file_is Lm r2 h2 hk2 bS hp hs
      rw [show (false || decide (0 ≠ 0)) = false from rfl, Bool.false_or]
      exact h
    · rw [pairsOf_not h3, decide_eq_true h1]
      simp only [Bool.or_true, Bool.true_or, finS_wrong]
end Go.Proofs.YtdjmfkodjjjhfaaGreatDoor
