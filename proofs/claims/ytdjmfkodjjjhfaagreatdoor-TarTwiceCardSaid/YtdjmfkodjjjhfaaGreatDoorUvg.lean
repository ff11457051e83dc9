/- Ustar's code: Encode. Conditions: the tables are there. -/
import Derived.Test.YtdjmfkodjjjhfaaGreatDoorFwh
import Derived.Test.YtdjmfkodjjjhfaaGreatDoorUsg
import Derived.Test.YtdjmfkodjjjhfaaGreatDoorPug
import Derived.Deep.RegionHeld3
namespace Go.Proofs.YtdjmfkodjjjhfaaGreatDoor
open Go.RowKit

theorem blk_drew {w : World} {g : Nat} {t : TypeId} {cs : Array Value} (h : Blk w g t cs) : Blk w.drew g t cs := h
theorem lay_fields (w : World) (L : List LaidP) (cs : Array Value) (t : TypeId) (n : Nat) (hn : L.length = n) (hb : n ≤ 1000) (hz : (layS L).length ≤ 100000)
    (hc : ∀ i, i < n → cs[i * 2]? = some (.string (strF (L.getD i noL).1)) ∧ cs[i * 2 + 1]? = some (.int .i64 (L.getD i noL).2)) :
    Calls Tryz.prog 85 #[.slice (some ⟨w.heap.size, 0, none⟩) n n] (w.alloc (.cells cs t)) fun e w' => e = .returned (.tuple #[.string (strF (layA L).1), .bool (layA L).2]) ∧ Below w.heap.size w w' := by
  have hk := blk_new w t cs
  refine (clay_any (w.alloc (.cells cs t)) (some ⟨w.heap.size, 0, none⟩) n n L ⟨hn, fun _ => ⟨w.heap.size, 0, rfl, fun i hi => ?_⟩⟩ hb hz).mono ?_
  · obtain ⟨h1, h2⟩ := hc i hi
    rw [Nat.zero_add]
    exact ⟨(blk_cell hk (i * 2)).trans h1, (blk_cell hk (i * 2 + 1)).trans h2⟩
  · rintro e w' ⟨rfl, hb⟩
    have h0 : Below w.heap.size w (w.alloc (.cells cs t)) := (Below.refl _ _).alloc (Nat.le_refl _) _
    exact ⟨rfl, h0.trans (hb.mono h0.size)⟩
set_option maxHeartbeats 12800000 in
set_option maxRecDepth 100000 in
theorem cenc_any (w : World) (hT : Tabs w) (h : HeadP) (hb : HeadT h) : Calls Tryz.prog 52 #[headV h] w fun e w' => e = .returned (.tuple #[.string (strP (encA h).1), .int .i64 (encA h).2]) ∧ Below w.heap.size w w' := by
  have HP : Hid (∀ (l : List UInt8) (k : Nat) (w' : World), encA h = (l, k) → Below w.heap.size w w' → (fun e w' => e = Ending.returned (.tuple #[.string (strP (encA h).1), .int .i64 (encA h).2]) ∧ Below w.heap.size w w') (.returned (.tuple #[.string (strP l), .int .i64 k])) w') := Lib.hid fun l k w' e hb => ⟨by rw [e], hb⟩
  generalize (fun e w' => e = Ending.returned (.tuple #[.string (strP (encA h).1), .int .i64 (encA h).2]) ∧ Below w.heap.size w w') = PO at *
  have hz0 : h.path.size ≤ 140737488355328 := hb.texts 0 (by omega)
  have hz1 : h.link.size ≤ 140737488355328 := hb.texts 1 (by omega)
  have hz2 : h.user.size ≤ 140737488355328 := hb.texts 2 (by omega)
  have hz3 : h.group.size ≤ 140737488355328 := hb.texts 3 (by omega)
  obtain ⟨hm1, hm2⟩ : -9223372036854775808 ≤ h.mode ∧ h.mode ≤ 9223372036854775807 := hb.ints 0 (by omega)
  obtain ⟨hu1, hu2⟩ : -9223372036854775808 ≤ h.uid ∧ h.uid ≤ 9223372036854775807 := hb.ints 1 (by omega)
  obtain ⟨hg1, hg2⟩ : -9223372036854775808 ≤ h.gid ∧ h.gid ≤ 9223372036854775807 := hb.ints 2 (by omega)
  obtain ⟨hs1, hs2⟩ := hb.size
  obtain ⟨ht1, ht2⟩ := hb.time
  have hkd := hb.base.kind
  have CSP := Lib.hid fun wx : World => csplit_any wx h.path hz0
  obtain ⟨spl, hspl⟩ : ∃ s, s = splitL h.path.data.toList := ⟨_, rfl⟩
  obtain ⟨pre, name, ok⟩ := spl
  rw [← hspl] at CSP
  have HENC : Hid (encA h = if ok = false ∨ h.path.data.toList = [] then ([], 140) else if ¬ mayA h then ([], 160) else (headL h pre name, 0)) := Lib.hid (by unfold encA; rw [← hspl])
  have hv : headV h = .agg #[.string h.path, .int .i64 h.size, .int .u8 h.kind, .int .i64 h.mode, .int .i64 h.time, .string h.link, .string h.user, .string h.group, .int .i64 h.uid, .int .i64 h.gid] := rfl
  rw [hv]
  have HK1 := Lib.hid (blk_new w 65 #[.string h.path, .int .i64 h.size, .int .u8 h.kind, .int .i64 h.mode, .int .i64 h.time, .string h.link, .string h.user, .string h.group, .int .i64 h.uid, .int .i64 h.gid])
  have HB1 := Lib.hid (show Below w.heap.size w (w.alloc (.cells #[.string h.path, .int .i64 h.size, .int .u8 h.kind, .int .i64 h.mode, .int .i64 h.time, .string h.link, .string h.user, .string h.group, .int .i64 h.uid, .int .i64 h.gid] 65)) from (Below.refl _ _).alloc (Nat.le_refl _) _)
  have c0 : (w.alloc (.cells #[.string h.path, .int .i64 h.size, .int .u8 h.kind, .int .i64 h.mode, .int .i64 h.time, .string h.link, .string h.user, .string h.group, .int .i64 h.uid, .int .i64 h.gid] 65)).cell? ⟨w.heap.size, 0, none⟩ = some (.string h.path) := blk_cell HK1.out 0
  have HSPL := Lib.hid hspl
  have HM := Lib.hid fun (wx : World) (t : ByteArray) (e : Nat) => cmade_any wx t e
  have HA1 : Hid (∀ wx : World, Below w.heap.size w wx → Calls Tryz.prog 88 #[.int .i64 h.mode, .int .i64 8] wx fun e w' => e = .returned (.tuple #[.string (strF (octalA h.mode 8).1), .int .i64 ((octalA h.mode 8).2)]) ∧ Below wx.heap.size wx w') := Lib.hid fun wx hbx => coctal_any wx (hT.below hbx) h.mode 8 hm1 hm2 (by omega) (by omega)
  have HA2 : Hid (∀ wx : World, Below w.heap.size w wx → Calls Tryz.prog 88 #[.int .i64 h.uid, .int .i64 8] wx fun e w' => e = .returned (.tuple #[.string (strF (octalA h.uid 8).1), .int .i64 ((octalA h.uid 8).2)]) ∧ Below wx.heap.size wx w') := Lib.hid fun wx hbx => coctal_any wx (hT.below hbx) h.uid 8 hu1 hu2 (by omega) (by omega)
  have HA3 : Hid (∀ wx : World, Below w.heap.size w wx → Calls Tryz.prog 88 #[.int .i64 h.gid, .int .i64 8] wx fun e w' => e = .returned (.tuple #[.string (strF (octalA h.gid 8).1), .int .i64 ((octalA h.gid 8).2)]) ∧ Below wx.heap.size wx w') := Lib.hid fun wx hbx => coctal_any wx (hT.below hbx) h.gid 8 hg1 hg2 (by omega) (by omega)
  have HA4 : Hid (∀ wx : World, Below w.heap.size w wx → Calls Tryz.prog 88 #[.int .i64 h.size, .int .i64 12] wx fun e w' => e = .returned (.tuple #[.string (strF (octalA h.size 12).1), .int .i64 ((octalA h.size 12).2)]) ∧ Below wx.heap.size wx w') := Lib.hid fun wx hbx => coctal_any wx (hT.below hbx) h.size 12 hs1 hs2 (by omega) (by omega)
  have HA5 : Hid (∀ wx : World, Below w.heap.size w wx → Calls Tryz.prog 88 #[.int .i64 h.time, .int .i64 12] wx fun e w' => e = .returned (.tuple #[.string (strF (octalA h.time 12).1), .int .i64 ((octalA h.time 12).2)]) ∧ Below wx.heap.size wx w') := Lib.hid fun wx hbx => coctal_any wx (hT.below hbx) h.time 12 ht1 ht2 (by omega) (by omega)
  have HB0 : Hid (∀ wx : World, Below w.heap.size w wx → Calls Tryz.prog 89 #[.int .u8 h.kind] wx fun e w' => e = .returned (laidV (strF (kindA h.kind).1) ((kindA h.kind).2)) ∧ Below wx.heap.size wx w') := Lib.hid fun wx hbx => ckind_any wx h.kind hkd
  have HB1 : Hid (∀ wx : World, Below w.heap.size w wx → Calls Tryz.prog 87 #[.string h.link, .int .i64 100] wx fun e w' => e = .returned (.tuple #[.string (strF (textA h.link.data.toList 100).1), .int .i64 ((textA h.link.data.toList 100).2)]) ∧ Below wx.heap.size wx w') := Lib.hid fun wx hbx => ctext_any wx h.link 100 hz1 (by omega) (by omega)
  have HB3 : Hid (∀ wx : World, Below w.heap.size w wx → Calls Tryz.prog 90 #[.string h.user] wx fun e w' => e = .returned (laidV (strF (ownA h.user.data.toList).1) ((ownA h.user.data.toList).2)) ∧ Below wx.heap.size wx w') := Lib.hid fun wx hbx => cowner_any wx h.user hz2
  have HB4 : Hid (∀ wx : World, Below w.heap.size w wx → Calls Tryz.prog 90 #[.string h.group] wx fun e w' => e = .returned (laidV (strF (ownA h.group.data.toList).1) ((ownA h.group.data.toList).2)) ∧ Below wx.heap.size wx w') := Lib.hid fun wx hbx => cowner_any wx h.group hz3
  have HB5 : Hid (∀ wx : World, Below w.heap.size w wx → Calls Tryz.prog 88 #[.int .i64 0, .int .i64 8] wx fun e w' => e = .returned (.tuple #[.string (strF (octalA 0 8).1), .int .i64 ((octalA 0 8).2)]) ∧ Below wx.heap.size wx w') := Lib.hid fun wx hbx => coctal_any wx (hT.below hbx) 0 8 (by omega) (by omega) (by omega) (by omega)
  have HB8 : Hid (∀ wx : World, Below w.heap.size w wx → Calls Tryz.prog 87 #[.string ⟨#[]⟩, .int .i64 12] wx fun e w' => e = .returned (.tuple #[.string (strF (textA [] 12).1), .int .i64 ((textA [] 12).2)]) ∧ Below wx.heap.size wx w') := Lib.hid fun wx hbx => ctext_any wx ⟨#[]⟩ 12 (by decide) (by omega) (by omega)
  have HTB : Hid (∀ wx : World, Below w.heap.size w wx → Tabs wx) := Lib.hid fun wx hbx => hT.below hbx
  have hsb : ok = true → joinP pre name = h.path.data.toList ∧ pre.length ≤ 155 ∧ name.length ≤ 100 ∧ (∀ c ∈ pre, c ∈ h.path.data.toList) ∧ (∀ c ∈ name, c ∈ h.path.data.toList) := fun e => split_back _ _ _ (by rw [← hspl, e])
  have HSB := Lib.hid hsb
  have HHP := Lib.hid (rfl : h.path.data.toList = h.path.data.toList)
  have hpe : h.path.toList.isEmpty = decide (h.path.data.toList = []) := by
    rw [ByteArray.toList_eq]
    cases h.path.data.toList with
    | nil => rfl
    | cons x l => rfl
  have HPE := Lib.hid hpe
  clear hz0 hz1 hz2 hz3 hm1 hm2 hu1 hu2 hg1 hg2 hs1 hs2 ht1 ht2 hkd hb hspl hv hT hsb hpe HHP
  go_enter Tryz.func52, Tryz.ntmps52
  go_upto_region 1 with fail
  generalize w.alloc (.cells #[.string h.path, .int .i64 h.size, .int .u8 h.kind, .int .i64 h.mode, .int .i64 h.time, .string h.link, .string h.user, .string h.group, .int .i64 h.uid, .int .i64 h.gid] 65) = w1 at *
  go_wp2_with fail
  refine (CSP.out _).mono ?_
  rintro e w2 ⟨rfl, hb2⟩
  have hk2 := (step_of_below hb2).blk HK1.out List.not_mem_nil List.not_mem_nil
  have HKC := Lib.hid hk2
  have HBC := Lib.hid (HB1.out.trans (hb2.mono HB1.out.size))
  have q0 : w2.cell? ⟨w.heap.size, 0, none⟩ = some (.string h.path) := blk_cell hk2 0
  clear c0 hb2 hk2 HK1 HB1 CSP
  cases ok
  · have HG := Lib.hid (HP.out [] 140 w2 (by rw [HENC.out, if_pos (.inl rfl)]) HBC.out)
    go_wp2_with fail
    exact HG.out
  by_cases ep : h.path.data.toList = []
  · have d0 : h.path.toList.isEmpty = true := by rw [HPE.out]; exact decide_eq_true ep
    have HG := Lib.hid (HP.out [] 140 w2 (by rw [HENC.out, if_pos (.inr ep)]) HBC.out)
    clear ep
    go_wp2_with fail
    exact HG.out
  have d0 : h.path.toList.isEmpty = false := by rw [HPE.out]; exact decide_eq_false ep
  obtain ⟨_, hpl, hnl, _, _⟩ := HSB.out rfl
  have HENC2 : Hid (encA h = if ¬ mayA h then ([], 160) else (headL h pre name, 0)) := Lib.hid (HENC.out.trans (by rw [if_neg (fun e => e.elim (fun e => Bool.noConfusion e) ep)]))
  have HOK : Hid ((layOk (aheadP h name) ∧ layOk (behindP h pre)) ↔ mayA h) := Lib.hid (enc_ok h pre name HSPL.out.symm)
  have HA0 : Hid (∀ wx : World, Below w.heap.size w wx → Calls Tryz.prog 87 #[.string (strP name), .int .i64 100] wx fun e w' => e = .returned (.tuple #[.string (strF (textA name 100).1), .int .i64 ((textA name 100).2)]) ∧ Below wx.heap.size wx w') := Lib.hid fun wx hbx => ctext_any wx (strP name) 100 (by show name.length ≤ _; omega) (by omega) (by omega)
  have HB7 : Hid (∀ wx : World, Below w.heap.size w wx → Calls Tryz.prog 87 #[.string (strP pre), .int .i64 155] wx fun e w' => e = .returned (.tuple #[.string (strF (textA pre 155).1), .int .i64 ((textA pre 155).2)]) ∧ Below wx.heap.size wx w') := Lib.hid fun wx hbx => ctext_any wx (strP pre) 155 (by show pre.length ≤ _; omega) (by omega) (by omega)
  have HLA : Hid (∀ wx : World, Calls Tryz.prog 85 #[.slice (some ⟨wx.heap.size, 0, none⟩) 6 6] (wx.alloc (.cells #[.string (strF (textA name 100).1), .int .i64 ((textA name 100).2), .string (strF (octalA h.mode 8).1), .int .i64 ((octalA h.mode 8).2), .string (strF (octalA h.uid 8).1), .int .i64 ((octalA h.uid 8).2), .string (strF (octalA h.gid 8).1), .int .i64 ((octalA h.gid 8).2), .string (strF (octalA h.size 12).1), .int .i64 ((octalA h.size 12).2), .string (strF (octalA h.time 12).1), .int .i64 ((octalA h.time 12).2)] 130)) fun e w' => e = .returned (.tuple #[.string (strF (layA (aheadP h name)).1), .bool (layA (aheadP h name)).2]) ∧ Below wx.heap.size wx w') := Lib.hid fun wx => lay_fields wx (aheadP h name) _ _ 6 rfl (by omega) (by have := aheadP_le h name; omega) (fun i hi => by
    have : i = 0 ∨ i = 1 ∨ i = 2 ∨ i = 3 ∨ i = 4 ∨ i = 5 := by omega
    rcases this with rfl | rfl | rfl | rfl | rfl | rfl <;> exact ⟨rfl, rfl⟩)
  have HLB : Hid (∀ wx : World, Calls Tryz.prog 85 #[.slice (some ⟨wx.heap.size, 0, none⟩) 9 9] (wx.alloc (.cells #[.string (strF (kindA h.kind).1), .int .i64 ((kindA h.kind).2), .string (strF (textA h.link.data.toList 100).1), .int .i64 ((textA h.link.data.toList 100).2), .string (⟨#[117, 115, 116, 97, 114, 0, 48, 48]⟩), .int .i64 (0), .string (strF (ownA h.user.data.toList).1), .int .i64 ((ownA h.user.data.toList).2), .string (strF (ownA h.group.data.toList).1), .int .i64 ((ownA h.group.data.toList).2), .string (strF (octalA 0 8).1), .int .i64 ((octalA 0 8).2), .string (strF (octalA 0 8).1), .int .i64 ((octalA 0 8).2), .string (strF (textA pre 155).1), .int .i64 ((textA pre 155).2), .string (strF (textA [] 12).1), .int .i64 ((textA [] 12).2)] 130)) fun e w' => e = .returned (.tuple #[.string (strF (layA (behindP h pre)).1), .bool (layA (behindP h pre)).2]) ∧ Below wx.heap.size wx w') := Lib.hid fun wx => lay_fields wx (behindP h pre) _ _ 9 rfl (by omega) (by have := behindP_le h pre; omega) (fun i hi => by
    have : i = 0 ∨ i = 1 ∨ i = 2 ∨ i = 3 ∨ i = 4 ∨ i = 5 ∨ i = 6 ∨ i = 7 ∨ i = 8 := by omega
    rcases this with rfl | rfl | rfl | rfl | rfl | rfl | rfl | rfl | rfl <;> exact ⟨rfl, rfl⟩)
  have HYA : Hid (layOk (aheadP h name) → strF (layA (aheadP h name)).1 = strF (layS (aheadP h name)) ∧ (layA (aheadP h name)).2 = true) := Lib.hid fun e => by unfold layA; rw [if_pos e]; exact ⟨rfl, rfl⟩
  have HNA : Hid (¬ layOk (aheadP h name) → (layA (aheadP h name)).2 = false) := Lib.hid fun e => by unfold layA; rw [if_neg e]
  have HYB : Hid (layOk (behindP h pre) → strF (layA (behindP h pre)).1 = strF (layS (behindP h pre)) ∧ (layA (behindP h pre)).2 = true) := Lib.hid fun e => by unfold layA; rw [if_pos e]; exact ⟨rfl, rfl⟩
  have HNB : Hid (¬ layOk (behindP h pre) → (layA (behindP h pre)).2 = false) := Lib.hid fun e => by unfold layA; rw [if_neg e]
  generalize strF (layA (aheadP h name)).1 = SA at *
  generalize (layA (aheadP h name)).2 = okA at *
  generalize strF (layA (behindP h pre)).1 = SB at *
  generalize (layA (behindP h pre)).2 = okB at *
  have HPARTS : Hid (layOk (behindP h pre) → layS (aheadP h name) = aheadL h name ∧ layS (behindP h pre) = behindL h pre) := Lib.hid (enc_parts h pre name)
  have HSZ : Hid ((layS (aheadP h name)).length ≤ 1000 ∧ (layS (behindP h pre)).length ≤ 1000) := Lib.hid ⟨aheadP_le h name, behindP_le h pre⟩
  have HWH : Hid (strF (aheadL h name) ++ strF (sumT (aheadL h name) (behindL h pre)) ++ strF (behindL h pre) = strF (headL h pre name)) := Lib.hid (enc_whole h pre name)
  have HSF : Hid (∀ wx : World, Below w.heap.size w wx → (aheadL h name).length ≤ 1000 → (behindL h pre).length ≤ 1000 → Calls Tryz.prog 91 #[.string (strF (aheadL h name)), .string (strF (behindL h pre))] wx fun e w' => e = .returned (.string (strF (sumT (aheadL h name) (behindL h pre)))) ∧ Below wx.heap.size wx w') := Lib.hid fun wx hbx h1 h2 => csumf_any wx (HTB.out wx hbx) _ _ h1 h2
  have HST : Hid ((sumT (aheadL h name) (behindL h pre)).length ≤ 8) := Lib.hid (by unfold sumT; rw [List.length_append]; exact Nat.succ_le_succ (oW_seven _))
  clear hpl hnl ep HSB HPE HENC HSPL HTB
  generalize strF (textA name 100).1 = XA0 at *
  generalize (textA name 100).2 = EA0 at *
  generalize strF (octalA h.mode 8).1 = XA1 at *
  generalize (octalA h.mode 8).2 = EA1 at *
  generalize strF (octalA h.uid 8).1 = XA2 at *
  generalize (octalA h.uid 8).2 = EA2 at *
  generalize strF (octalA h.gid 8).1 = XA3 at *
  generalize (octalA h.gid 8).2 = EA3 at *
  generalize strF (octalA h.size 12).1 = XA4 at *
  generalize (octalA h.size 12).2 = EA4 at *
  generalize strF (octalA h.time 12).1 = XA5 at *
  generalize (octalA h.time 12).2 = EA5 at *
  generalize strF (kindA h.kind).1 = XB0 at *
  generalize (kindA h.kind).2 = EB0 at *
  generalize strF (textA h.link.data.toList 100).1 = XB1 at *
  generalize (textA h.link.data.toList 100).2 = EB1 at *
  generalize strF (ownA h.user.data.toList).1 = XB3 at *
  generalize (ownA h.user.data.toList).2 = EB3 at *
  generalize strF (ownA h.group.data.toList).1 = XB4 at *
  generalize (ownA h.group.data.toList).2 = EB4 at *
  generalize strF (octalA 0 8).1 = XB5 at *
  generalize (octalA 0 8).2 = EB5 at *
  generalize strF (textA pre 155).1 = XB7 at *
  generalize (textA pre 155).2 = EB7 at *
  generalize strF (textA [] 12).1 = XB8 at *
  generalize (textA [] 12).2 = EB8 at *
  generalize strP name = NM at *
  generalize strP pre = PR at *
  go_upto_region 4 with fail
  have HKP : Hid (∀ wx : World, Blk wx w.heap.size 65 #[.string h.path, .int .i64 h.size, .int .u8 h.kind, .int .i64 h.mode, .int .i64 h.time, .string h.link, .string h.user, .string h.group, .int .i64 h.uid, .int .i64 h.gid] → wx.cell? ⟨w.heap.size, 1, none⟩ = some (.int .i64 h.size) ∧ wx.cell? ⟨w.heap.size, 3, none⟩ = some (.int .i64 h.mode) ∧ wx.cell? ⟨w.heap.size, 4, none⟩ = some (.int .i64 h.time) ∧ wx.cell? ⟨w.heap.size, 8, none⟩ = some (.int .i64 h.uid) ∧ wx.cell? ⟨w.heap.size, 9, none⟩ = some (.int .i64 h.gid)) := Lib.hid fun wx hk => ⟨blk_cell hk 1, blk_cell hk 3, blk_cell hk 4, blk_cell hk 8, blk_cell hk 9⟩
  have HKA : Hid (∀ (wx : World) (x : Obj), Blk wx w.heap.size 65 #[.string h.path, .int .i64 h.size, .int .u8 h.kind, .int .i64 h.mode, .int .i64 h.time, .string h.link, .string h.user, .string h.group, .int .i64 h.uid, .int .i64 h.gid] → Blk (wx.alloc x) w.heap.size 65 #[.string h.path, .int .i64 h.size, .int .u8 h.kind, .int .i64 h.mode, .int .i64 h.time, .string h.link, .string h.user, .string h.group, .int .i64 h.uid, .int .i64 h.gid]) := Lib.hid fun wx x hk => (step_of_below ((Below.refl wx.heap.size wx).alloc (Nat.le_refl _) x)).blk hk List.not_mem_nil List.not_mem_nil
  have HBC2 := Lib.hid HBC.out.drew
  have HKC2 : Hid (Blk w2.drew w.heap.size 65 #[.string h.path, .int .i64 h.size, .int .u8 h.kind, .int .i64 h.mode, .int .i64 h.time, .string h.link, .string h.user, .string h.group, .int .i64 h.uid, .int .i64 h.gid]) := HKC
  clear HBC HKC
  have HBC := HBC2
  have HKC := HKC2
  clear HBC2 HKC2 q0 d0
  go_region_held3 (fun w' => w'.cell? ⟨w.heap.size, 1, none⟩ = some (.int .i64 h.size) ∧ w'.cell? ⟨w.heap.size, 3, none⟩ = some (.int .i64 h.mode) ∧ w'.cell? ⟨w.heap.size, 4, none⟩ = some (.int .i64 h.time) ∧ w'.cell? ⟨w.heap.size, 8, none⟩ = some (.int .i64 h.uid) ∧ w'.cell? ⟨w.heap.size, 9, none⟩ = some (.int .i64 h.gid))
    (first | exact HKP.out _ HKC.out | exact HKP.out _ (HKA.out _ _ HKC.out))
    (first
      | (go_at_call 86; refine (HM.out _ _ _).mono ?_; rintro e wn ⟨rfl, hb9⟩
         have HK9 := Lib.hid ((step_of_below hb9).blk HKC.out List.not_mem_nil List.not_mem_nil)
         have HB9 := Lib.hid (HBC.out.trans (hb9.mono HBC.out.size))
         clear hb9 HKC HBC
         have HKC := HK9
         have HBC := HB9
         clear HK9 HB9)
      | (go_at_call_of 87 (Value.string NM); refine (HA0.out _ HBC.out).mono ?_; rintro e wn ⟨rfl, hb9⟩
         have HK9 := Lib.hid ((step_of_below hb9).blk HKC.out List.not_mem_nil List.not_mem_nil)
         have HB9 := Lib.hid (HBC.out.trans (hb9.mono HBC.out.size))
         clear hb9 HKC HBC
         have HKC := HK9
         have HBC := HB9
         clear HK9 HB9)
      | (go_at_call_of 88 (Value.int .i64 h.mode); refine (HA1.out _ HBC.out).mono ?_; rintro e wn ⟨rfl, hb9⟩
         have HK9 := Lib.hid ((step_of_below hb9).blk HKC.out List.not_mem_nil List.not_mem_nil)
         have HB9 := Lib.hid (HBC.out.trans (hb9.mono HBC.out.size))
         clear hb9 HKC HBC
         have HKC := HK9
         have HBC := HB9
         clear HK9 HB9)
      | (go_at_call_of 88 (Value.int .i64 h.uid); refine (HA2.out _ HBC.out).mono ?_; rintro e wn ⟨rfl, hb9⟩
         have HK9 := Lib.hid ((step_of_below hb9).blk HKC.out List.not_mem_nil List.not_mem_nil)
         have HB9 := Lib.hid (HBC.out.trans (hb9.mono HBC.out.size))
         clear hb9 HKC HBC
         have HKC := HK9
         have HBC := HB9
         clear HK9 HB9)
      | (go_at_call_of 88 (Value.int .i64 h.gid); refine (HA3.out _ HBC.out).mono ?_; rintro e wn ⟨rfl, hb9⟩
         have HK9 := Lib.hid ((step_of_below hb9).blk HKC.out List.not_mem_nil List.not_mem_nil)
         have HB9 := Lib.hid (HBC.out.trans (hb9.mono HBC.out.size))
         clear hb9 HKC HBC
         have HKC := HK9
         have HBC := HB9
         clear HK9 HB9)
      | (go_at_call_of 88 (Value.int .i64 h.size); refine (HA4.out _ HBC.out).mono ?_; rintro e wn ⟨rfl, hb9⟩
         have HK9 := Lib.hid ((step_of_below hb9).blk HKC.out List.not_mem_nil List.not_mem_nil)
         have HB9 := Lib.hid (HBC.out.trans (hb9.mono HBC.out.size))
         clear hb9 HKC HBC
         have HKC := HK9
         have HBC := HB9
         clear HK9 HB9)
      | (go_at_call_of 88 (Value.int .i64 h.time); refine (HA5.out _ HBC.out).mono ?_; rintro e wn ⟨rfl, hb9⟩
         have HK9 := Lib.hid ((step_of_below hb9).blk HKC.out List.not_mem_nil List.not_mem_nil)
         have HB9 := Lib.hid (HBC.out.trans (hb9.mono HBC.out.size))
         clear hb9 HKC HBC
         have HKC := HK9
         have HBC := HB9
         clear HK9 HB9)
      | (go_at_call 85; refine (HLA.out _).mono ?_; rintro e wn ⟨rfl, hb9⟩
         have HK9 := Lib.hid ((step_of_below hb9).blk HKC.out List.not_mem_nil List.not_mem_nil)
         have HB9 := Lib.hid (HBC.out.trans (hb9.mono HBC.out.size))
         clear hb9 HKC HBC
         have HKC := HK9
         have HBC := HB9
         clear HK9 HB9))
  clear HKP HKA HLA HA0 HA1 HA2 HA3 HA4 HA5
  go_upto_region 5 with fail
  have HKP : Hid (∀ wx : World, Blk wx w.heap.size 65 #[.string h.path, .int .i64 h.size, .int .u8 h.kind, .int .i64 h.mode, .int .i64 h.time, .string h.link, .string h.user, .string h.group, .int .i64 h.uid, .int .i64 h.gid] → wx.cell? ⟨w.heap.size, 2, none⟩ = some (.int .u8 h.kind) ∧ wx.cell? ⟨w.heap.size, 5, none⟩ = some (.string h.link) ∧ wx.cell? ⟨w.heap.size, 6, none⟩ = some (.string h.user) ∧ wx.cell? ⟨w.heap.size, 7, none⟩ = some (.string h.group)) := Lib.hid fun wx hk => ⟨blk_cell hk 2, blk_cell hk 5, blk_cell hk 6, blk_cell hk 7⟩
  have HKA : Hid (∀ (wx : World) (x : Obj), Blk wx w.heap.size 65 #[.string h.path, .int .i64 h.size, .int .u8 h.kind, .int .i64 h.mode, .int .i64 h.time, .string h.link, .string h.user, .string h.group, .int .i64 h.uid, .int .i64 h.gid] → Blk (wx.alloc x) w.heap.size 65 #[.string h.path, .int .i64 h.size, .int .u8 h.kind, .int .i64 h.mode, .int .i64 h.time, .string h.link, .string h.user, .string h.group, .int .i64 h.uid, .int .i64 h.gid]) := Lib.hid fun wx x hk => (step_of_below ((Below.refl wx.heap.size wx).alloc (Nat.le_refl _) x)).blk hk List.not_mem_nil List.not_mem_nil
  have HBC2 := Lib.hid HBC.out.drew
  have HKC2 : Hid (Blk _ w.heap.size 65 #[.string h.path, .int .i64 h.size, .int .u8 h.kind, .int .i64 h.mode, .int .i64 h.time, .string h.link, .string h.user, .string h.group, .int .i64 h.uid, .int .i64 h.gid]) := Lib.hid (blk_drew HKC.out)
  clear HBC HKC
  have HBC := HBC2
  have HKC := HKC2
  clear HBC2 HKC2
  go_region_held3 (fun w' => w'.cell? ⟨w.heap.size, 2, none⟩ = some (.int .u8 h.kind) ∧ w'.cell? ⟨w.heap.size, 5, none⟩ = some (.string h.link) ∧ w'.cell? ⟨w.heap.size, 6, none⟩ = some (.string h.user) ∧ w'.cell? ⟨w.heap.size, 7, none⟩ = some (.string h.group))
    (first | exact HKP.out _ HKC.out | exact HKP.out _ (HKA.out _ _ HKC.out))
    (first
      | (go_at_call 86; refine (HM.out _ _ _).mono ?_; rintro e wn ⟨rfl, hb9⟩
         have HK9 := Lib.hid ((step_of_below hb9).blk HKC.out List.not_mem_nil List.not_mem_nil)
         have HB9 := Lib.hid (HBC.out.trans (hb9.mono HBC.out.size))
         clear hb9 HKC HBC
         have HKC := HK9
         have HBC := HB9
         clear HK9 HB9)
      | (go_at_call_of 89 (Value.int .u8 h.kind); refine (HB0.out _ HBC.out).mono ?_; rintro e wn ⟨rfl, hb9⟩
         have HK9 := Lib.hid ((step_of_below hb9).blk HKC.out List.not_mem_nil List.not_mem_nil)
         have HB9 := Lib.hid (HBC.out.trans (hb9.mono HBC.out.size))
         clear hb9 HKC HBC
         have HKC := HK9
         have HBC := HB9
         clear HK9 HB9)
      | (go_at_call_of 87 (Value.string h.link); refine (HB1.out _ HBC.out).mono ?_; rintro e wn ⟨rfl, hb9⟩
         have HK9 := Lib.hid ((step_of_below hb9).blk HKC.out List.not_mem_nil List.not_mem_nil)
         have HB9 := Lib.hid (HBC.out.trans (hb9.mono HBC.out.size))
         clear hb9 HKC HBC
         have HKC := HK9
         have HBC := HB9
         clear HK9 HB9)
      | (go_at_call_of 90 (Value.string h.user); refine (HB3.out _ HBC.out).mono ?_; rintro e wn ⟨rfl, hb9⟩
         have HK9 := Lib.hid ((step_of_below hb9).blk HKC.out List.not_mem_nil List.not_mem_nil)
         have HB9 := Lib.hid (HBC.out.trans (hb9.mono HBC.out.size))
         clear hb9 HKC HBC
         have HKC := HK9
         have HBC := HB9
         clear HK9 HB9)
      | (go_at_call_of 90 (Value.string h.group); refine (HB4.out _ HBC.out).mono ?_; rintro e wn ⟨rfl, hb9⟩
         have HK9 := Lib.hid ((step_of_below hb9).blk HKC.out List.not_mem_nil List.not_mem_nil)
         have HB9 := Lib.hid (HBC.out.trans (hb9.mono HBC.out.size))
         clear hb9 HKC HBC
         have HKC := HK9
         have HBC := HB9
         clear HK9 HB9)
      | (go_at_call_of 88 (Value.int .i64 0); refine (HB5.out _ HBC.out).mono ?_; rintro e wn ⟨rfl, hb9⟩
         have HK9 := Lib.hid ((step_of_below hb9).blk HKC.out List.not_mem_nil List.not_mem_nil)
         have HB9 := Lib.hid (HBC.out.trans (hb9.mono HBC.out.size))
         clear hb9 HKC HBC
         have HKC := HK9
         have HBC := HB9
         clear HK9 HB9)
      | (go_at_call_of 87 (Value.string PR); refine (HB7.out _ HBC.out).mono ?_; rintro e wn ⟨rfl, hb9⟩
         have HK9 := Lib.hid ((step_of_below hb9).blk HKC.out List.not_mem_nil List.not_mem_nil)
         have HB9 := Lib.hid (HBC.out.trans (hb9.mono HBC.out.size))
         clear hb9 HKC HBC
         have HKC := HK9
         have HBC := HB9
         clear HK9 HB9)
      | (go_at_call_of 87 (Value.string ⟨#[]⟩); refine (HB8.out _ HBC.out).mono ?_; rintro e wn ⟨rfl, hb9⟩
         have HK9 := Lib.hid ((step_of_below hb9).blk HKC.out List.not_mem_nil List.not_mem_nil)
         have HB9 := Lib.hid (HBC.out.trans (hb9.mono HBC.out.size))
         clear hb9 HKC HBC
         have HKC := HK9
         have HBC := HB9
         clear HK9 HB9)
      | (go_at_call 85; refine (HLB.out _).mono ?_; rintro e wn ⟨rfl, hb9⟩
         have HK9 := Lib.hid ((step_of_below hb9).blk HKC.out List.not_mem_nil List.not_mem_nil)
         have HB9 := Lib.hid (HBC.out.trans (hb9.mono HBC.out.size))
         clear hb9 HKC HBC
         have HKC := HK9
         have HBC := HB9
         clear HK9 HB9))
  clear HKP HKA HKC HLB HB0 HB1 HB3 HB4 HB5 HB7 HB8 HM
  by_cases hm : mayA h
  · obtain ⟨ho1, ho2⟩ := HOK.out.2 hm
    obtain ⟨hp1, hp2⟩ := HPARTS.out ho2
    obtain ⟨z1, z2⟩ := HSZ.out
    obtain ⟨y1, rfl⟩ := HYA.out ho1
    obtain ⟨y2, rfl⟩ := HYB.out ho2
    rw [hp1] at y1 z1
    rw [hp2] at y2 z2
    subst y1 y2
    have HSF2 : Hid (∀ wx : World, Below w.heap.size w wx → Calls Tryz.prog 91 #[.string (strF (aheadL h name)), .string (strF (behindL h pre))] wx fun e w' => e = .returned (.string (strF (sumT (aheadL h name) (behindL h pre)))) ∧ Below wx.heap.size wx w') := Lib.hid fun wx hbx => HSF.out wx hbx z1 z2
    have HEND : Hid (encA h = (headL h pre name, 0)) := Lib.hid (HENC2.out.trans (by rw [if_neg (fun e => e hm)]))
    have hza : (strF (aheadL h name)).size ≤ 1000 := z1
    have hzb : (strF (behindL h pre)).size ≤ 1000 := z2
    have hzs : (strF (sumT (aheadL h name) (behindL h pre))).size ≤ 8 := HST.out
    have hzm : (strF (aheadL h name) ++ strF (sumT (aheadL h name) (behindL h pre))).size ≤ 1008 := by rw [ByteArray.size_append]; omega
    have HBC9 := HBC
    clear ho1 ho2 hp1 hp2 z1 z2 hm HSF HYA HYB HNA HNB HOK HPARTS HSZ HST HENC2 HBC
    generalize strF (aheadL h name) = TA at *
    generalize strF (behindL h pre) = TB at *
    generalize strF (sumT (aheadL h name) (behindL h pre)) = TS at *
    go_wp2_with fail
    refine (HSF2.out _ HBC9.out).mono ?_
    rintro e w9 ⟨rfl, hb9⟩
    have HG := Lib.hid (HP.out _ 0 w9 HEND.out (HBC9.out.trans (hb9.mono HBC9.out.size)))
    clear hb9
    go_wp2_with fail
    rw [HWH.out]
    exact HG.out
  · have HG : Hid (∀ w', Below w.heap.size w w' → PO (.returned (.tuple #[.string (strP []), .int .i64 (160 : Nat)])) w') := Lib.hid fun w' hb => HP.out [] 160 w' (HENC2.out.trans (by rw [if_pos hm])) hb
    have hno : okA = false ∨ okB = false := by
      by_cases h1 : layOk (aheadP h name)
      · exact .inr (HNB.out fun h2 => hm (HOK.out.1 ⟨h1, h2⟩))
      · exact .inl (HNA.out h1)
    clear hm HSF HYA HYB HNA HNB HOK HPARTS HSZ HST HENC2 HWH
    cases okA
    · clear hno
      go_wp2_with fail
      exact HG.out _ HBC.out
    · obtain rfl : okB = false := hno.resolve_left (fun h => Bool.noConfusion h)
      clear hno
      go_wp2_with fail
      exact HG.out _ HBC.out
end Go.Proofs.YtdjmfkodjjjhfaaGreatDoor
