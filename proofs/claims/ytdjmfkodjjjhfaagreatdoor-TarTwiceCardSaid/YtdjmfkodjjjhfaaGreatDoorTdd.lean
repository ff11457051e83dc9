/- Tar: what is asked of the code's functions (TarDone); the answers that the document fixes. Written ahead of stage 18. -/
import Derived.Test.YtdjmfkodjjjhfaaGreatDoorTrh
import Derived.Test.YtdjmfkodjjjhfaaGreatDoorFwd
import Derived.Deep.AppendLies
import Derived.Laws.OwnMore
namespace Go.Proofs.YtdjmfkodjjjhfaaGreatDoor
open Go.RowKit

/-- What is asked of the code's functions. -/
structure TarDone : Prop where
  entry : ∀ (w : World), Tabs w → ∀ (p d : ByteArray), p.size ≤ 140737488355328 → d.size ≤ 140737488355328 → (d.size ≤ 40000 ∨ 262144 < d.size) → Calls Tryz.prog 12 #[.agg #[.string p, .string d]] w fun e w' => e = .returned (.tuple #[.string (strF (entryA p.data.toList d.data.toList).1), .int .i64 (entryA p.data.toList d.data.toList).2]) ∧ Below w.heap.size w w'
  read : ∀ (w : World), Tabs w → ∀ (s : ByteArray), s.size ≤ 100000 → Calls Tryz.prog 14 #[.string s] w fun e w' => e = .returned (.tuple #[.agg #[.string (strF (readA s.data.toList).1.1), .string (strF (readA s.data.toList).1.2)], .int .i64 (readA s.data.toList).2.1, .int .i64 (readA s.data.toList).2.2]) ∧ Below w.heap.size w w'
  pack : ∀ (w : World), Tabs w → ∀ (A : Option Addr) (n c : Nat) (L : List PairB), PIn w A n L → lightT (L.map toL) 0 = true → Calls Tryz.prog 17 #[.slice A n c] w fun e w' => e = .returned (.tuple #[.string (strF (packA (L.map toL)).1), .int .i64 (packA (L.map toL)).2]) ∧ Below w.heap.size w w'
  unpack : ∀ (w : World), Tabs w → ∀ (s : ByteArray), s.size ≤ 140737488355328 → (s.size ≤ 262144 ∨ 524288 < s.size) → Calls Tryz.prog 19 #[.string s] w (UnpPost w s)
  last : ∀ (w : World) (A : Option Addr) (n c : Nat) (L : List PairB), PIn w A n L → n ≤ 1000 → (∀ p, p ∈ L → p.1.size ≤ 40000 ∧ p.2.size ≤ 40000) → Calls Tryz.prog 22 #[.slice A n c] w fun e w' => ∃ A' n' c' M, e = .returned (.slice A' n' c') ∧ M.map toL = lastsT (L.map toL) ∧ PIn w' A' n' M ∧ n' ≤ maxLen ∧ Below w.heap.size w w'
  check : ∀ (w : World) (p : ByteArray), p.size ≤ 40000 → Calls Tryz.prog 24 #[.string p] w fun e w' => e = .returned (.int .i64 (checkL p.data.toList)) ∧ Below w.heap.size w w'
  cmp : ∀ (w : World) (a b : ByteArray), a.size ≤ 40000 → b.size ≤ 40000 → Calls Tryz.prog 25 #[.string a, .string b] w fun e w' => e = .returned (.int .i64 (cmpL a.data.toList b.data.toList)) ∧ Below w.heap.size w w'

def helloL : List UInt8 := [104, 101, 108, 108, 111]
theorem check_a : checkL [97] = 0 := by decide +kernel
theorem ent_a : entryA [97] helloL = (entT [97] helloL, 0) ∧ (entT [97] helloL).length = 1024 := by
  constructor
  · unfold entryA
    rw [if_neg (fun h => h check_a), if_neg (by decide)]
  · have hs : (splitL [97]).2.2 = true := by decide
    have he := enc_hd [97] 48 helloL.length hs (by decide) (.inl rfl) (by decide) (by decide) (by decide)
    have h3 := (part_read he []).2.2
    rw [entT, if_pos hs, h3]
    rfl
def oneF : List FileL := [([97], helloL)]
theorem one_ok : ∀ x, x ∈ oneF → checkL x.1 = 0 ∧ x.2.length ≤ 262144 := fun x hx => by
  rw [List.mem_singleton.1 hx]
  exact ⟨check_a, by decide⟩
theorem pack_a : packA oneF = (flatT oneF ++ List.replicate 1024 0, 0) ∧ (flatT oneF ++ List.replicate 1024 (0 : UInt8)).length = 2048 := by
  constructor
  · unfold packA
    rw [(packE_ok oneF).2 one_ok, if_neg (fun h => h rfl)]
  · rw [List.length_append, List.length_replicate, show flatT oneF = entT [97] helloL from List.append_nil _, ent_a.2]
theorem unpack_a : unpackA (flatT oneF ++ List.replicate 1024 0) = (oneF, 0) := by
  have h := unpack_pack [] oneF ((flatT oneF ++ List.replicate 1024 (0 : UInt8)).length + 1) one_ok (by rw [pack_a.2]; decide)
  rw [List.append_nil] at h
  unfold unpackA
  rw [if_neg (by rw [pack_a.2]; decide), h]
theorem unpack_none : unpackA [] = ([], 180) := by
  unfold unpackA
  rw [if_neg (by decide), unpackT, if_pos (by decide)]
theorem toL_injE : ∀ (l m : List PairB), l.map toL = m.map toL → l = m
  | [], [], _ => rfl
  | [], _ :: _, h => by cases h
  | _ :: _, [], h => by cases h
  | p :: l, q :: m, h => by
    rw [List.map_cons, List.map_cons] at h
    obtain ⟨h1, h2⟩ := List.cons.inj h
    have e1 : p.1.data.toList = q.1.data.toList := congrArg Prod.fst h1
    have e2 : p.2.data.toList = q.2.data.toList := congrArg Prod.snd h1
    rw [toL_injE l m h2, show p = q from Prod.ext (ByteArray.ext (Array.toList_inj.1 e1)) (ByteArray.ext (Array.toList_inj.1 e2))]
theorem mapL_one {M : List PairB} {n : Nat} {w : World} {A : Option Addr} (h : M.map toL = oneF) (hI : PIn w A n M) : n = 1 ∧ ∃ b off, A = some ⟨b, off, none⟩ ∧ w.cell? ⟨b, off, none⟩ = some (.string ⟨#[97]⟩) ∧ w.cell? ⟨b, off + 1, none⟩ = some (.string ⟨#[104, 101, 108, 108, 111]⟩) := by
  have hM : M = [(⟨#[97]⟩, ⟨#[104, 101, 108, 108, 111]⟩)] := by
    cases M with
    | nil => cases h
    | cons x M =>
      obtain ⟨h1, h2⟩ := List.cons.inj h
      have h3 : M = [] := List.map_eq_nil_iff.1 h2
      have e1 : x.1 = ⟨#[97]⟩ := ByteArray.ext (Array.toList_inj.1 (congrArg Prod.fst h1))
      have e2 : x.2 = ⟨#[104, 101, 108, 108, 111]⟩ := ByteArray.ext (Array.toList_inj.1 (congrArg Prod.snd h1))
      rw [h3, show x = (⟨#[97]⟩, ⟨#[104, 101, 108, 108, 111]⟩) from Prod.ext e1 e2]
  subst hM
  have hn : n = 1 := hI.1.symm
  subst hn
  obtain ⟨b, off, hA, hc⟩ := hI.2 (by omega)
  obtain ⟨c0, c1⟩ := hc 0 (by omega)
  exact ⟨rfl, b, off, hA, c0, c1⟩
theorem pin_one (w : World) (K V : ByteArray) (t : TypeId) : PIn (w.alloc (.cells #[.string K, .string V] t)) (some ⟨w.heap.size, 0, none⟩) 1 [(K, V)] := ⟨rfl, fun _ => ⟨w.heap.size, 0, rfl, fun i hi => by
  obtain rfl : i = 0 := by omega
  have hk := blk_new w t #[.string K, .string V]
  exact ⟨blk_cell hk 0, blk_cell hk 1⟩⟩⟩
section
variable (R : TarDone)
include R
set_option maxHeartbeats 3200000 in
set_option maxRecDepth 100000 in
theorem awake_tar (w : World) (hT : Tabs w) : Calls Tryz.prog 11 #[] w fun e w' => e = .returned (.bool true) ∧ Below w.heap.size w w' := by
  have HTB : Hid (∀ wx : World, Below w.heap.size w wx → Tabs wx) := Lib.hid fun wx hb => hT.below hb
  have C1 : Hid (∀ wx : World, Tabs wx → Calls Tryz.prog 12 #[.agg #[.string ⟨#[97]⟩, .string ⟨#[104, 101, 108, 108, 111]⟩]] wx fun e w' => e = .returned (.tuple #[.string (strF (entT [97] helloL)), .int .i64 0]) ∧ Below wx.heap.size wx w') := Lib.hid fun wx ht => by
    have h := R.entry wx ht ⟨#[97]⟩ ⟨#[104, 101, 108, 108, 111]⟩ (by decide) (by decide) (.inl (by decide))
    rw [show entryA (⟨#[97]⟩ : ByteArray).data.toList (⟨#[104, 101, 108, 108, 111]⟩ : ByteArray).data.toList = (entT [97] helloL, 0) from ent_a.1] at h
    exact h
  have C2 : Hid (∀ wx : World, Tabs wx → Calls Tryz.prog 17 #[.slice (some ⟨wx.heap.size, 0, none⟩) 1 1] (wx.alloc (.cells #[.string ⟨#[97]⟩, .string ⟨#[104, 101, 108, 108, 111]⟩] 23)) fun e w' => e = .returned (.tuple #[.string (strF (flatT oneF ++ List.replicate 1024 0)), .int .i64 0]) ∧ Below wx.heap.size wx w') := Lib.hid fun wx ht => by
    have h0 : Below wx.heap.size wx (wx.alloc (.cells #[.string ⟨#[97]⟩, .string ⟨#[104, 101, 108, 108, 111]⟩] 23)) := (Below.refl _ _).alloc (Nat.le_refl _) _
    have h := R.pack _ (ht.below h0) _ 1 1 [(⟨#[97]⟩, ⟨#[104, 101, 108, 108, 111]⟩)] (pin_one wx ⟨#[97]⟩ ⟨#[104, 101, 108, 108, 111]⟩ 23) (by decide)
    rw [show packA ([(⟨#[97]⟩, ⟨#[104, 101, 108, 108, 111]⟩)].map toL) = (flatT oneF ++ List.replicate 1024 0, 0) from pack_a.1] at h
    refine h.mono ?_
    rintro e w' ⟨rfl, hb⟩
    exact ⟨rfl, h0.trans (hb.mono h0.size)⟩
  have C3 := Lib.hid fun (wx : World) (ht : Tabs wx) => R.unpack wx ht (strF (flatT oneF ++ List.replicate 1024 0)) (by show (flatT oneF ++ List.replicate 1024 (0 : UInt8)).length ≤ _; rw [pack_a.2]; decide) (.inl (by show (flatT oneF ++ List.replicate 1024 (0 : UInt8)).length ≤ _; rw [pack_a.2]; decide))
  have C4 := Lib.hid fun (wx : World) (ht : Tabs wx) => R.unpack wx ht ⟨#[]⟩ (by decide) (.inl (by decide))
  have z1 : (strF (entT [97] helloL)).size = 1024 := ent_a.2
  have z2 : (strF (flatT oneF ++ List.replicate 1024 (0 : UInt8))).size = 2048 := pack_a.2
  have HU : Hid (unpackA (strF (flatT oneF ++ List.replicate 1024 (0 : UInt8))).data.toList = (oneF, 0)) := Lib.hid unpack_a
  have HN : Hid (unpackA (⟨#[]⟩ : ByteArray).data.toList = ([], 180)) := Lib.hid unpack_none
  have guardb := guardE
  have HB0 := Lib.hid (Below.refl w.heap.size w)
  generalize strF (entT [97] helloL) = S at *
  generalize strF (flatT oneF ++ List.replicate 1024 (0 : UInt8)) = T at *
  clear R hT
  go_enter Tryz.func11, Tryz.ntmps11
  go_wp2_with fail
  refine (C1.out _ (HTB.out _ HB0.out)).mono ?_
  rintro e w1 ⟨rfl, hb1⟩
  have HB1 := Lib.hid hb1
  clear hb1 HB0
  go_wp2_with fail
  refine (C2.out _ (HTB.out _ HB1.out)).mono ?_
  rintro e w2 ⟨rfl, hb2⟩
  have HB2 := Lib.hid (HB1.out.trans (hb2.mono HB1.out.size))
  clear hb2 HB1
  go_wp2_with fail
  refine (C3.out _ (HTB.out _ HB2.out)).mono ?_
  rintro e w3 ⟨A, n, c, M, k, rfl, hu, hn, hI, hb3⟩
  rw [HU.out] at hu
  obtain rfl : 0 = k := congrArg Prod.snd hu
  have HI := Lib.hid hI
  have HM := Lib.hid (congrArg Prod.fst hu).symm
  have HB3 := Lib.hid (HB2.out.trans (hb3.mono HB2.out.size))
  clear hu hI hb3 HB2 hn
  go_wp2_with fail
  refine (C4.out _ (HTB.out _ HB3.out)).mono ?_
  rintro e w4 ⟨A2, n2, c2, M2, k2, rfl, hu, hn, hI, hb4⟩
  rw [HN.out] at hu
  obtain rfl : 180 = k2 := congrArg Prod.snd hu
  have HB4 := Lib.hid (HB3.out.trans (hb4.mono HB3.out.size))
  obtain ⟨rfl, b, off, rfl, y0, y1⟩ := mapL_one HM.out (HI.out.below hb4)
  clear hu hI hb4 HB3 hn HI
  go_wp2_with fail
  go_ret
  exact ⟨rfl, HB4.out⟩
end
end Go.Proofs.YtdjmfkodjjjhfaaGreatDoor
/- Tar: the laws Entries, Reads, Packs, Unpacks walked over what is asked of the code. Written ahead of stage 18. -/
namespace Go.Proofs.YtdjmfkodjjjhfaaGreatDoor
open Go.RowKit

section
variable (R : TarDone)
include R
set_option maxHeartbeats 3200000 in
set_option maxRecDepth 100000 in
theorem entries_law (w : World) (hT : Tabs w) (p d : ByteArray) (hp : p.size ≤ 4000000) (hd : d.size ≤ 140737488355328) : Calls Tryz.prog 3 #[.agg #[.string p, .string d]] w fun e w' => e = .returned (.bool true) ∧ Below w.heap.size w w' := by
  have HTB : Hid (∀ wx : World, Below w.heap.size w wx → Tabs wx) := Lib.hid fun wx hb => hT.below hb
  have HAW := Lib.hid (awake_tar R)
  have HENT := Lib.hid fun (wx : World) (ht : Tabs wx) (h : d.size ≤ 40000 ∨ 262144 < d.size) => R.entry wx ht p d (by omega) hd h
  have HREF := Lib.hid fun wx : World => rentry_any wx p d hp hd
  have HK1 := Lib.hid (blk_new w 23 #[.string p, .string d])
  have HB1 := Lib.hid (show Below w.heap.size w (w.alloc (.cells #[.string p, .string d] 23)) from (Below.refl _ _).alloc (Nat.le_refl _) _)
  obtain ⟨ans, hans⟩ : ∃ x, x = entryA p.data.toList d.data.toList := ⟨_, rfl⟩
  obtain ⟨X, k⟩ := ans
  rw [← hans] at HENT HREF
  dsimp only at HENT HREF
  generalize strF X = T at *
  have e2 : ((k : Int) == (k : Int)) = true := beq_self_eq_true _
  have c1 : (w.alloc (.cells #[.string p, .string d] 23)).cell? ⟨w.heap.size, 1, none⟩ = some (.string d) := blk_cell HK1.out 1
  clear R hT hans
  by_cases h1 : 40000 < d.size
  · have d1 : decide ((40000 : Int) < (d.size : Int)) = true := decide_eq_true (by omega)
    by_cases h2 : d.size ≤ 262144
    · have d2 : decide ((d.size : Int) ≤ 262144) = true := decide_eq_true (by omega)
      clear h1 h2
      go_enter Tryz.func3, Tryz.ntmps3
      go_wp2_with fail
      refine (HAW.out _ (HTB.out _ HB1.out)).mono ?_
      rintro e w2 ⟨rfl, hb2⟩
      have HB2 := Lib.hid (HB1.out.trans (hb2.mono HB1.out.size))
      clear hb2
      go_wp2_with fail
      go_ret
      exact ⟨rfl, HB2.out⟩
    · have d2 : decide ((d.size : Int) ≤ 262144) = false := decide_eq_false (by omega)
      have HENT2 := Lib.hid fun (wx : World) (ht : Tabs wx) => HENT.out wx ht (.inr (by omega))
      clear h1 h2 HENT
      go_enter Tryz.func3, Tryz.ntmps3
      have c0 : (w.alloc (.cells #[.string p, .string d] 23)).cell? ⟨w.heap.size, 0, none⟩ = some (.string p) := blk_cell HK1.out 0
      go_wp2_with fail
      refine (HENT2.out _ (HTB.out _ HB1.out)).mono ?_
      rintro e w2 ⟨rfl, hb2⟩
      have hk2 := (step_of_below hb2).blk HK1.out List.not_mem_nil List.not_mem_nil
      have HB2 := Lib.hid (HB1.out.trans (hb2.mono HB1.out.size))
      have q0 : w2.cell? ⟨w.heap.size, 0, none⟩ = some (.string p) := blk_cell hk2 0
      have q1 : w2.cell? ⟨w.heap.size, 1, none⟩ = some (.string d) := blk_cell hk2 1
      clear hb2 hk2 HK1 HB1 c1 c0
      go_wp2_with fail
      refine (HREF.out _).mono ?_
      rintro e w3 ⟨rfl, hb3⟩
      have HB3 := Lib.hid (HB2.out.trans (hb3.mono HB2.out.size))
      clear hb3
      go_wp2_with fail
      refine (HAW.out _ (HTB.out _ HB3.out)).mono ?_
      rintro e w4 ⟨rfl, hb4⟩
      have HB4 := Lib.hid (HB3.out.trans (hb4.mono HB3.out.size))
      clear hb4
      go_wp2_with fail
      go_ret
      exact ⟨rfl, HB4.out⟩
  · have d1 : decide ((40000 : Int) < (d.size : Int)) = false := decide_eq_false (by omega)
    have HENT2 := Lib.hid fun (wx : World) (ht : Tabs wx) => HENT.out wx ht (.inl (by omega))
    clear h1 HENT
    go_enter Tryz.func3, Tryz.ntmps3
    have c0 : (w.alloc (.cells #[.string p, .string d] 23)).cell? ⟨w.heap.size, 0, none⟩ = some (.string p) := blk_cell HK1.out 0
    go_wp2_with fail
    refine (HENT2.out _ (HTB.out _ HB1.out)).mono ?_
    rintro e w2 ⟨rfl, hb2⟩
    have hk2 := (step_of_below hb2).blk HK1.out List.not_mem_nil List.not_mem_nil
    have HB2 := Lib.hid (HB1.out.trans (hb2.mono HB1.out.size))
    have q0 : w2.cell? ⟨w.heap.size, 0, none⟩ = some (.string p) := blk_cell hk2 0
    have q1 : w2.cell? ⟨w.heap.size, 1, none⟩ = some (.string d) := blk_cell hk2 1
    clear hb2 hk2 HK1 HB1 c1 c0
    go_wp2_with fail
    refine (HREF.out _).mono ?_
    rintro e w3 ⟨rfl, hb3⟩
    have HB3 := Lib.hid (HB2.out.trans (hb3.mono HB2.out.size))
    clear hb3
    go_wp2_with fail
    refine (HAW.out _ (HTB.out _ HB3.out)).mono ?_
    rintro e w4 ⟨rfl, hb4⟩
    have HB4 := Lib.hid (HB3.out.trans (hb4.mono HB3.out.size))
    clear hb4
    go_wp2_with fail
    go_ret
    exact ⟨rfl, HB4.out⟩
set_option maxHeartbeats 3200000 in
set_option maxRecDepth 100000 in
theorem reads_law (w : World) (hT : Tabs w) (s : ByteArray) (_ : s.size ≤ 140737488355328) : Calls Tryz.prog 4 #[.string s] w fun e w' => e = .returned (.bool true) ∧ Below w.heap.size w w' := by
  have HTB : Hid (∀ wx : World, Below w.heap.size w wx → Tabs wx) := Lib.hid fun wx hb => hT.below hb
  have HAW := Lib.hid (awake_tar R)
  have HRE := Lib.hid fun (wx : World) (ht : Tabs wx) (h : s.size ≤ 100000) => R.read wx ht s h
  clear R hT
  by_cases h1 : 40000 < s.size
  · have d1 : decide ((40000 : Int) < (s.size : Int)) = true := decide_eq_true (by omega)
    clear h1
    go_enter Tryz.func4, Tryz.ntmps4
    go_wp2_with fail
    refine (HAW.out _ (HTB.out _ (Below.refl _ _))).mono ?_
    rintro e w2 ⟨rfl, hb2⟩
    have HB2 := Lib.hid hb2
    clear hb2
    go_wp2_with fail
    go_ret
    exact ⟨rfl, HB2.out⟩
  · have d1 : decide ((40000 : Int) < (s.size : Int)) = false := decide_eq_false (by omega)
    have C1 := Lib.hid fun (wx : World) (ht : Tabs wx) => HRE.out wx ht (by omega)
    have C2 := Lib.hid fun wx : World => rread_any wx s (by omega)
    obtain ⟨ra, hra⟩ : ∃ x, x = readA s.data.toList := ⟨_, rfl⟩
    obtain ⟨⟨p, d⟩, n, k⟩ := ra
    rw [← hra] at C1 C2
    dsimp only at C1 C2
    generalize strF p = P at *
    generalize strF d = D at *
    have e1 : ((n : Int) == (n : Int)) = true := beq_self_eq_true _
    have e2 : ((k : Int) == (k : Int)) = true := beq_self_eq_true _
    have guardb := guardE
    clear h1 hra HRE
    go_enter Tryz.func4, Tryz.ntmps4
    go_wp2_with fail
    refine (C1.out _ (HTB.out _ (Below.refl _ _))).mono ?_
    rintro e w2 ⟨rfl, hb2⟩
    have HK2 := Lib.hid (blk_new w2 23 #[.string P, .string D])
    have HB2 : Hid (Below w.heap.size w (w2.alloc (.cells #[.string P, .string D] 23))) := Lib.hid (hb2.alloc hb2.size _)
    have hlt := Lib.hid hb2.size
    clear hb2
    go_wp2_with fail
    refine (C2.out _).mono ?_
    rintro e w3 ⟨rfl, hb3⟩
    have hk3 := (step_of_below hb3).blk HK2.out List.not_mem_nil List.not_mem_nil
    have hb34 : Below w3.heap.size w3 (w3.alloc (.cells #[.string P, .string D] 23)) := (Below.refl _ _).alloc (Nat.le_refl _) _
    have hk4 := (step_of_below hb34).blk hk3 List.not_mem_nil List.not_mem_nil
    have hk5 := blk_new w3 23 #[.string P, .string D]
    have HB4 := Lib.hid ((HB2.out.trans (hb3.mono HB2.out.size)).trans (hb34.mono (HB2.out.trans (hb3.mono HB2.out.size)).size))
    clear hb3 hk3 hb34
    go_upto_region 5 with fail
    generalize w3.alloc (.cells #[.string P, .string D] 23) = w4 at *
    generalize w2.heap.size = a1 at *
    generalize w3.heap.size = a2 at *
    have q0 : w4.cell? ⟨a1, 0, none⟩ = some (.string P) := blk_cell hk4 0
    have q1 : w4.cell? ⟨a1, 1, none⟩ = some (.string D) := blk_cell hk4 1
    have q2 : w4.cell? ⟨a2, 0, none⟩ = some (.string P) := blk_cell hk5 0
    have q3 : w4.cell? ⟨a2, 1, none⟩ = some (.string D) := blk_cell hk5 1
    clear hk4 hk5 hlt
    go_wp2_with fail
    refine (HAW.out _ (HTB.out _ HB4.out)).mono ?_
    rintro e w5 ⟨rfl, hb5⟩
    have HB5 := Lib.hid (HB4.out.trans (hb5.mono HB4.out.size))
    clear hb5
    go_wp2_with fail
    go_ret
    exact ⟨rfl, HB5.out⟩
set_option maxHeartbeats 3200000 in
set_option maxRecDepth 100000 in
theorem packs_law (w : World) (hT : Tabs w) (A : Option Addr) (n c : Nat) (L : List PairB) (hI : PIn w A n L) (hn : n ≤ maxLen) (hS : ∀ p, p ∈ L → p.1.size ≤ 140737488355328 ∧ p.2.size ≤ 140737488355328) : Calls Tryz.prog 5 #[.slice A n c] w fun e w' => e = .returned (.bool true) ∧ Below w.heap.size w w' := by
  have HTB : Hid (∀ wx : World, Below w.heap.size w wx → Tabs wx) := Lib.hid fun wx hb => hT.below hb
  have HAW := Lib.hid (awake_tar R)
  have HLI := Lib.hid (lightE_any w A n c L hI hn fun p hp => ⟨by have := (hS p hp).1; omega, by have := (hS p hp).2; omega⟩)
  have HI := Lib.hid hI
  have HPK := Lib.hid fun (wx : World) (ht : Tabs wx) (hi : PIn wx A n L) (hl : lightT (L.map toL) 0 = true) => R.pack wx ht A n c L hi hl
  have HRF := Lib.hid fun (wx : World) (hi : PIn wx A n L) (hl : lightT (L.map toL) 0 = true) => rpack_any wx A n c L hi hl
  have HLE := Lib.hid (lightE_is L 0)
  clear R hT hI hn hS
  obtain ⟨lb, hlb⟩ : ∃ b, b = lightE L 0 := ⟨_, rfl⟩
  rw [← hlb] at HLI HLE
  clear hlb
  cases lb
  · go_enter Tryz.func5, Tryz.ntmps5
    go_wp2_with fail
    refine HLI.out.mono ?_
    rintro e w1 ⟨rfl, hb1⟩
    have HB1 := Lib.hid hb1
    clear hb1
    go_wp2_with fail
    refine (HAW.out _ (HTB.out _ HB1.out)).mono ?_
    rintro e w2 ⟨rfl, hb2⟩
    have HB2 := Lib.hid (HB1.out.trans (hb2.mono HB1.out.size))
    clear hb2
    go_wp2_with fail
    go_ret
    exact ⟨rfl, HB2.out⟩
  · obtain ⟨ans, hans⟩ : ∃ x, x = packA (L.map toL) := ⟨_, rfl⟩
    obtain ⟨X, k⟩ := ans
    rw [← hans] at HPK HRF
    dsimp only at HPK HRF
    generalize strF X = T at *
    have e2 : ((k : Int) == (k : Int)) = true := beq_self_eq_true _
    clear hans
    go_enter Tryz.func5, Tryz.ntmps5
    go_wp2_with fail
    refine HLI.out.mono ?_
    rintro e w1 ⟨rfl, hb1⟩
    have HB1 := Lib.hid hb1
    clear hb1
    go_wp2_with fail
    refine (HPK.out _ (HTB.out _ HB1.out) (HI.out.below HB1.out) HLE.out.symm).mono ?_
    rintro e w2 ⟨rfl, hb2⟩
    have HB2 := Lib.hid (HB1.out.trans (hb2.mono HB1.out.size))
    clear hb2
    go_wp2_with fail
    refine (HRF.out _ (HI.out.below HB2.out) HLE.out.symm).mono ?_
    rintro e w3 ⟨rfl, hb3⟩
    have HB3 := Lib.hid (HB2.out.trans (hb3.mono HB2.out.size))
    clear hb3
    go_wp2_with fail
    refine (HAW.out _ (HTB.out _ HB3.out)).mono ?_
    rintro e w4 ⟨rfl, hb4⟩
    have HB4 := Lib.hid (HB3.out.trans (hb4.mono HB3.out.size))
    clear hb4
    go_wp2_with fail
    go_ret
    exact ⟨rfl, HB4.out⟩
set_option maxHeartbeats 3200000 in
set_option maxRecDepth 100000 in
theorem unpacks_law (w : World) (hT : Tabs w) (s : ByteArray) (hs : s.size ≤ 140737488355328) : Calls Tryz.prog 6 #[.string s] w fun e w' => e = .returned (.bool true) ∧ Below w.heap.size w w' := by
  have HTB : Hid (∀ wx : World, Below w.heap.size w wx → Tabs wx) := Lib.hid fun wx hb => hT.below hb
  have HAW := Lib.hid (awake_tar R)
  have HU := Lib.hid fun (wx : World) (ht : Tabs wx) (h : s.size ≤ 262144 ∨ 524288 < s.size) => R.unpack wx ht s hs h
  have HR := Lib.hid fun (wx : World) (h : s.size ≤ 90000 ∨ 524288 < s.size) => runpack_any wx s h
  have HSA := Lib.hid fun (wx : World) (A B : Option Addr) (n c m e : Nat) (L M : List PairB) (hI : PIn wx A n L) (hJ : PIn wx B m M) (hn : n ≤ maxLen) (hm : m ≤ maxLen) => rsameE_any wx A B n c m e L M hI hJ hn hm
  clear R hT
  by_cases h1 : 40000 < s.size ∧ s.size ≤ 524288
  · have d1 : decide ((40000 : Int) < (s.size : Int)) = true := decide_eq_true (by omega)
    have d2 : decide ((s.size : Int) ≤ 524288) = true := decide_eq_true (by omega)
    clear h1
    go_enter Tryz.func6, Tryz.ntmps6
    go_wp2_with fail
    refine (HAW.out _ (HTB.out _ (Below.refl _ _))).mono ?_
    rintro e w2 ⟨rfl, hb2⟩
    have HB2 := Lib.hid hb2
    clear hb2
    go_wp2_with fail
    go_ret
    exact ⟨rfl, HB2.out⟩
  · have C1 := Lib.hid fun (wx : World) (ht : Tabs wx) => HU.out wx ht (by omega)
    have C2 := Lib.hid fun wx : World => HR.out wx (by omega)
    by_cases h2 : 40000 < s.size
    · have d1 : decide ((40000 : Int) < (s.size : Int)) = true := decide_eq_true (by omega)
      have d2 : decide ((s.size : Int) ≤ 524288) = false := decide_eq_false (by omega)
      clear h2
      clear h1 HU HR hs
      go_enter Tryz.func6, Tryz.ntmps6
      go_wp2_with fail
      refine (C1.out _ (HTB.out _ (Below.refl _ _))).mono ?_
      rintro e w2 ⟨A, n, c, M, k, rfl, hu, hn, hI, hb2⟩
      have HB2 := Lib.hid hb2
      have HU1 := Lib.hid hu
      have HI1 := Lib.hid hI
      have HN1 := Lib.hid hn
      clear hb2 hu hI hn
      go_wp2_with fail
      refine (C2.out _).mono ?_
      rintro e w3 ⟨A2, n2, c2, M2, k2, rfl, hu2, hn2, hI2, hb3⟩
      have hmm := hu2.symm.trans HU1.out
      obtain rfl : k2 = k := congrArg Prod.snd hmm
      obtain rfl : M2 = M := toL_injE _ _ (congrArg Prod.fst hmm)
      have HB3 := Lib.hid (HB2.out.trans (hb3.mono HB2.out.size))
      have C3 := Lib.hid (HSA.out w3 A A2 n c n2 c2 M2 M2 (HI1.out.below hb3) hI2 HN1.out hn2)
      rw [decide_eq_true rfl] at C3
      have e2 : ((k2 : Int) == (k2 : Int)) = true := beq_self_eq_true _
      clear hu2 hn2 hI2 hb3 hmm HU1 HI1 HN1
      go_wp2_with fail
      refine C3.out.mono ?_
      rintro e w4 ⟨rfl, hb4⟩
      have HB4 := Lib.hid (HB3.out.trans (hb4.mono HB3.out.size))
      clear hb4
      go_wp2_with fail
      refine (HAW.out _ (HTB.out _ HB4.out)).mono ?_
      rintro e w5 ⟨rfl, hb5⟩
      have HB5 := Lib.hid (HB4.out.trans (hb5.mono HB4.out.size))
      clear hb5
      go_wp2_with fail
      go_ret
      exact ⟨rfl, HB5.out⟩
    · have d1 : decide ((40000 : Int) < (s.size : Int)) = false := decide_eq_false (by omega)
      clear h2
      clear h1 HU HR hs
      go_enter Tryz.func6, Tryz.ntmps6
      go_wp2_with fail
      refine (C1.out _ (HTB.out _ (Below.refl _ _))).mono ?_
      rintro e w2 ⟨A, n, c, M, k, rfl, hu, hn, hI, hb2⟩
      have HB2 := Lib.hid hb2
      have HU1 := Lib.hid hu
      have HI1 := Lib.hid hI
      have HN1 := Lib.hid hn
      clear hb2 hu hI hn
      go_wp2_with fail
      refine (C2.out _).mono ?_
      rintro e w3 ⟨A2, n2, c2, M2, k2, rfl, hu2, hn2, hI2, hb3⟩
      have hmm := hu2.symm.trans HU1.out
      obtain rfl : k2 = k := congrArg Prod.snd hmm
      obtain rfl : M2 = M := toL_injE _ _ (congrArg Prod.fst hmm)
      have HB3 := Lib.hid (HB2.out.trans (hb3.mono HB2.out.size))
      have C3 := Lib.hid (HSA.out w3 A A2 n c n2 c2 M2 M2 (HI1.out.below hb3) hI2 HN1.out hn2)
      rw [decide_eq_true rfl] at C3
      have e2 : ((k2 : Int) == (k2 : Int)) = true := beq_self_eq_true _
      clear hu2 hn2 hI2 hb3 hmm HU1 HI1 HN1
      go_wp2_with fail
      refine C3.out.mono ?_
      rintro e w4 ⟨rfl, hb4⟩
      have HB4 := Lib.hid (HB3.out.trans (hb4.mono HB3.out.size))
      clear hb4
      go_wp2_with fail
      refine (HAW.out _ (HTB.out _ HB4.out)).mono ?_
      rintro e w5 ⟨rfl, hb5⟩
      have HB5 := Lib.hid (HB4.out.trans (hb5.mono HB4.out.size))
      clear hb5
      go_wp2_with fail
      go_ret
      exact ⟨rfl, HB5.out⟩
end
end Go.Proofs.YtdjmfkodjjjhfaaGreatDoor
/- Tar: the law Lasts. Written ahead of stage 18. -/
namespace Go.Proofs.YtdjmfkodjjjhfaaGreatDoor
open Go.RowKit

set_option maxRecDepth 100000 in
/-- Files and files behind a new slice. -/
theorem both_inE (w : World) (A1 A2 : Option Addr) (n1 n2 c1 c2 : Nat) (La Lb : List PairB) (h1 : PIn w A1 n1 La) (h2 : PIn w A2 n2 Lb) (hn : n1 + n2 ≤ 1000000) :
    ∃ A6 c6 A7 c7 w7, (∃ w6, (Builtin.append_ #[36, 36] 36 #[.slice (some ⟨w.heap.size, 0, none⟩) 0 0, .slice A1 n1 c1]).run Tryz.prog (w.alloc (.cells #[] 23)) = .ok (.slice A6 n1 c6) w6 ∧
      (Builtin.append_ #[36, 36] 36 #[.slice A6 n1 c6, .slice A2 n2 c2]).run Tryz.prog w6 = .ok (.slice A7 (n1 + n2) c7) w7) ∧ c7 ≤ maxLen ∧ PIn w7 A7 (n1 + n2) (La ++ Lb) ∧ Below w.heap.size w w7 := by
  have hlit : (w.alloc (.cells #[] 23)).ownsRow w.heap.size 23 2 (.slice (some ⟨w.heap.size, 0, none⟩) 0 0) 0 [] := by
    have := World.ownsRow_lit (base := w.heap.size) (e := 23) (size := 2) w #[] 0 (Nat.le_refl _) (by unfold maxLen; omega) (by simp)
    simpa using this
  have hba : Below w.heap.size w (w.alloc (.cells #[] 23)) := (Below.refl _ _).alloc (Nat.le_refl _) _
  obtain ⟨v6, w6, hr6, ho6, hg6⟩ := append_ents (w.alloc (.cells #[] 23)) w.heap.size _ 0 [] hlit A1 n1 c1 La (h1.below hba) (by omega) hba.size
  rw [Nat.zero_add, List.nil_append] at ho6
  have hb6 : Below w.heap.size w w6 := hba.grown hg6 (by simp) fun k hk => by
    have : w.heap.size = k := by simpa [Value.ownBlock] using hk
    omega
  obtain ⟨A6, c6, rfl, _, _, _⟩ := own_slice ho6
  obtain ⟨v7, w7, hr7, ho7, hg7⟩ := append_ents w6 w.heap.size _ n1 _ ho6 A2 n2 c2 Lb (h2.below hb6) (by omega) hb6.size
  rw [← cellsB_append] at ho7
  have hb7 : Below w.heap.size w w7 := hb6.grown hg7 hb6.size fun k hk => (World.ownsRow.lt ho6 k hk).1
  obtain ⟨A7, c7, rfl, _, hcm, _⟩ := own_slice ho7
  exact ⟨A6, c6, A7, c7, w7, ⟨w6, hr6, hr7⟩, hcm, pin_ownE ho7, hb7⟩
set_option maxRecDepth 100000 in
/-- Files behind a new slice. -/
theorem copy_inE (w : World) (A1 : Option Addr) (n1 c1 : Nat) (La : List PairB) (h1 : PIn w A1 n1 La) (hn : n1 ≤ 1000000) :
    ∃ A6 c6 w6, (Builtin.append_ #[36, 36] 36 #[.slice (some ⟨w.heap.size, 0, none⟩) 0 0, .slice A1 n1 c1]).run Tryz.prog (w.alloc (.cells #[] 23)) = .ok (.slice A6 n1 c6) w6 ∧ PIn w6 A6 n1 La ∧ Below w.heap.size w w6 := by
  have hlit : (w.alloc (.cells #[] 23)).ownsRow w.heap.size 23 2 (.slice (some ⟨w.heap.size, 0, none⟩) 0 0) 0 [] := by
    have := World.ownsRow_lit (base := w.heap.size) (e := 23) (size := 2) w #[] 0 (Nat.le_refl _) (by unfold maxLen; omega) (by simp)
    simpa using this
  have hba : Below w.heap.size w (w.alloc (.cells #[] 23)) := (Below.refl _ _).alloc (Nat.le_refl _) _
  obtain ⟨v6, w6, hr6, ho6, hg6⟩ := append_ents (w.alloc (.cells #[] 23)) w.heap.size _ 0 [] hlit A1 n1 c1 La (h1.below hba) (by omega) hba.size
  rw [Nat.zero_add, List.nil_append] at ho6
  have hb6 : Below w.heap.size w w6 := hba.grown hg6 (by simp) fun k hk => by
    have : w.heap.size = k := by simpa [Value.ownBlock] using hk
    omega
  obtain ⟨A6, c6, rfl, _, _, _⟩ := own_slice ho6
  exact ⟨A6, c6, w6, hr6, pin_ownE ho6, hb6⟩
theorem light_facts {L : List PairB} {n : Nat} {w : World} {A : Option Addr} (hI : PIn w A n L) (h : lightT (L.map toL) 0 = true) : n ≤ 40 ∧ ∀ p, p ∈ L → p.1.size ≤ 40000 ∧ p.2.size ≤ 40000 := by
  obtain ⟨h1, h2⟩ := light_sum _ 0 h (by omega)
  rw [List.length_map, hI.1] at h1
  refine ⟨by omega, fun p hp => ?_⟩
  have h3 := h2 (toL p) (List.mem_map.2 ⟨p, hp, rfl⟩)
  have e1 : (toL p).1.length = p.1.size := rfl
  have e2 : (toL p).2.length = p.2.size := rfl
  omega
section
variable (R : TarDone)
include R
set_option maxHeartbeats 3200000 in
set_option maxRecDepth 100000 in
theorem lasts_law (w : World) (hT : Tabs w) (A : Option Addr) (n c : Nat) (L : List PairB) (hI : PIn w A n L) (hn : n ≤ maxLen) (hS : ∀ p, p ∈ L → p.1.size ≤ 140737488355328 ∧ p.2.size ≤ 140737488355328) : Calls Tryz.prog 7 #[.slice A n c] w fun e w' => e = .returned (.bool true) ∧ Below w.heap.size w w' := by
  have HTB : Hid (∀ wx : World, Below w.heap.size w wx → Tabs wx) := Lib.hid fun wx hb => hT.below hb
  have HAW := Lib.hid (awake_tar R)
  have HLI := Lib.hid (lightE_any w A n c L hI hn fun p hp => ⟨by have := (hS p hp).1; omega, by have := (hS p hp).2; omega⟩)
  have HI := Lib.hid hI
  have HLA := Lib.hid R.last
  have HSA := Lib.hid fun (wx : World) (A B : Option Addr) (n c m e : Nat) (L M : List PairB) (hI : PIn wx A n L) (hJ : PIn wx B m M) (hn : n ≤ maxLen) (hm : m ≤ maxLen) => rsameE_any wx A B n c m e L M hI hJ hn hm
  have HLE := Lib.hid (lightE_is L 0)
  have HNM := Lib.hid hn
  clear R hT hI hn hS
  obtain ⟨lb, hlb⟩ : ∃ b, b = lightE L 0 := ⟨_, rfl⟩
  rw [← hlb] at HLI HLE
  clear hlb
  cases lb
  · go_enter Tryz.func7, Tryz.ntmps7
    go_wp2_with fail
    refine HLI.out.mono ?_
    rintro e w1 ⟨rfl, hb1⟩
    have HB1 := Lib.hid hb1
    clear hb1
    go_wp2_with fail
    refine (HAW.out _ (HTB.out _ HB1.out)).mono ?_
    rintro e w2 ⟨rfl, hb2⟩
    have HB2 := Lib.hid (HB1.out.trans (hb2.mono HB1.out.size))
    clear hb2
    go_wp2_with fail
    go_ret
    exact ⟨rfl, HB2.out⟩
  · obtain ⟨hn40, hsz⟩ := light_facts HI.out HLE.out.symm
    have HSZ := Lib.hid hsz
    clear hsz
    go_enter Tryz.func7, Tryz.ntmps7
    go_wp2_with fail
    refine HLI.out.mono ?_
    rintro e w1 ⟨rfl, hb1⟩
    obtain ⟨A6, c6, w6, hr6, hI6, hb6⟩ := copy_inE w1 A n c L (HI.out.below hb1) (by omega)
    have HR := Lib.hid hr6
    have HI6 := Lib.hid hI6
    have HB6 := Lib.hid (hb1.trans (hb6.mono hb1.size))
    have C1 := Lib.hid (HLA.out w6 A6 n c6 L hI6 (by omega) HSZ.out)
    clear hb1 hr6 hI6 hb6
    go_upto_region 3 with fail
    go_wp2_with (at_builtin; refine Lib.wpList_append_run _ rfl (.tmp 8) (.tmp 9) 36 36 rfl (.slice (some ⟨w1.heap.size, 0, none⟩) 0 0) (.slice A n c) rfl rfl (.slice A6 n c6) w6 HR.out ?_)
    refine C1.out.mono ?_
    rintro e w7 ⟨A7, n7, c7, M7, rfl, hM7, hI7, hn7, hb7⟩
    have HM7 := Lib.hid hM7
    have HI7 := Lib.hid hI7
    have HN7 := Lib.hid hn7
    have HI67 := Lib.hid (HI6.out.below hb7)
    have HB7 := Lib.hid (HB6.out.trans (hb7.mono HB6.out.size))
    have C2 := Lib.hid (rlast18_any w7 A n c L (HI.out.below HB7.out) (by omega) fun p hp => by have := (HSZ.out p hp).1; omega)
    clear hM7 hI7 hn7 hb7 C1
    go_wp2_with fail
    refine C2.out.mono ?_
    rintro e w8 ⟨A8, n8, c8, M8, rfl, hM8, hI8, hn8, hb8⟩
    obtain rfl : M8 = M7 := toL_injE _ _ (hM8.trans HM7.out.symm)
    have HB8 := Lib.hid (HB7.out.trans (hb8.mono HB7.out.size))
    have HI68 := Lib.hid (HI67.out.below hb8)
    have C3 := Lib.hid (HSA.out w8 A7 A8 n7 c7 n8 c8 M8 M8 (HI7.out.below hb8) hI8 HN7.out hn8)
    rw [decide_eq_true rfl] at C3
    clear hM8 hI8 hn8 hb8 C2 HI7 HM7 HI67
    go_wp2_with fail
    refine C3.out.mono ?_
    rintro e w9 ⟨rfl, hb9⟩
    have HB9 := Lib.hid (HB8.out.trans (hb9.mono HB8.out.size))
    have C4 := Lib.hid (HSA.out w9 A6 A n c6 n c L L (HI68.out.below hb9) (HI.out.below HB9.out) HNM.out HNM.out)
    rw [decide_eq_true rfl] at C4
    clear hb9 C3
    go_wp2_with fail
    refine C4.out.mono ?_
    rintro e w10 ⟨rfl, hb10⟩
    have HB10 := Lib.hid (HB9.out.trans (hb10.mono HB9.out.size))
    clear hb10
    go_wp2_with fail
    refine (HAW.out _ (HTB.out _ HB10.out)).mono ?_
    rintro e w11 ⟨rfl, hb11⟩
    have HB11 := Lib.hid (HB10.out.trans (hb11.mono HB10.out.size))
    clear hb11
    go_wp2_with fail
    go_ret
    exact ⟨rfl, HB11.out⟩
end
end Go.Proofs.YtdjmfkodjjjhfaaGreatDoor
/- Tar: the law Cuts walked over what is asked of the code. Written ahead of stage 18. -/
namespace Go.Proofs.YtdjmfkodjjjhfaaGreatDoor
open Go.RowKit

section
variable (R : TarDone)
include R
set_option maxHeartbeats 6400000 in
set_option maxRecDepth 100000 in
theorem cuts_law (w : World) (hT : Tabs w) (A : Option Addr) (n c : Nat) (L : List PairB) (hI : PIn w A n L) (hn : n ≤ maxLen) (hS : ∀ p, p ∈ L → p.1.size ≤ 140737488355328 ∧ p.2.size ≤ 140737488355328) (z : Int) : Calls Tryz.prog 9 #[.slice A n c, .int .i64 z] w fun e w' => e = .returned (.bool true) ∧ Below w.heap.size w w' := by
  have HTB : Hid (∀ wx : World, Below w.heap.size w wx → Tabs wx) := Lib.hid fun wx hb => hT.below hb
  have HAW := Lib.hid (awake_tar R)
  have HLI := Lib.hid (lightE_any w A n c L hI hn fun p hp => ⟨by have := (hS p hp).1; omega, by have := (hS p hp).2; omega⟩)
  have HI := Lib.hid hI
  have HPK := Lib.hid fun (wx : World) (ht : Tabs wx) (hi : PIn wx A n L) (hl : lightT (L.map toL) 0 = true) => R.pack wx ht A n c L hi hl
  have HU := Lib.hid fun (wx : World) (ht : Tabs wx) (s : ByteArray) (h : s.size ≤ 262144) => R.unpack wx ht s (by omega) (.inl h)
  have HLE := Lib.hid (lightE_is L 0)
  have HSA := Lib.hid fun (wx : World) (A B : Option Addr) (n c m e : Nat) (L M : List PairB) (hI : PIn wx A n L) (hJ : PIn wx B m M) (hn : n ≤ maxLen) (hm : m ≤ maxLen) => rsameE_any wx A B n c m e L M hI hJ hn hm
  have HN := Lib.hid hn
  clear R hT hI hn hS
  obtain ⟨lb, hlb⟩ : ∃ b, b = lightE L 0 := ⟨_, rfl⟩
  rw [← hlb] at HLI HLE
  clear hlb
  cases lb
  · go_enter Tryz.func9, Tryz.ntmps9
    go_wp2_with fail
    refine HLI.out.mono ?_
    rintro e w1 ⟨rfl, hb1⟩
    have HB1 := Lib.hid hb1
    clear hb1
    go_wp2_with fail
    refine (HAW.out _ (HTB.out _ HB1.out)).mono ?_
    rintro e w2 ⟨rfl, hb2⟩
    have HB2 := Lib.hid (HB1.out.trans (hb2.mono HB1.out.size))
    clear hb2
    go_wp2_with fail
    go_ret
    exact ⟨rfl, HB2.out⟩
  by_cases hk : packE (L.map toL) = 0
  · have hx := (packE_ok _).1 hk
    have hlen := light_flatT _ 0 HLE.out.symm (by omega) hx
    have hll := (light_facts HI.out HLE.out.symm).1
    have hLn : (L.map toL).length = n := by rw [List.length_map]; exact HI.out.1
    have HP0 : Hid (packA (L.map toL) = (flatT (L.map toL) ++ List.replicate 1024 0, 0)) := Lib.hid (by rw [packA, if_neg (fun h => h hk)])
    obtain ⟨S, hSd⟩ : ∃ x, x = strF (flatT (L.map toL) ++ List.replicate 1024 0) := ⟨_, rfl⟩
    have hSl : S.data.toList = flatT (L.map toL) ++ List.replicate 1024 0 := by rw [hSd]; rfl
    have hSz : S.size = (flatT (L.map toL)).length + 1024 := by
      have : S.size = S.data.toList.length := rfl
      rw [this, hSl, List.length_append, List.length_replicate]
    rw [HP0.out] at HPK
    dsimp only at HPK
    rw [← hSd] at HPK
    have d0 : decide ((1024 : Int) ≤ (S.size : Int)) = true := decide_eq_true (by omega)
    have d0' : decide ((S.size : Int) < (1024 : Int)) = false := decide_eq_false (by omega)
    by_cases hz : z < 0 ∨ (S.size : Int) < z
    · obtain ⟨b1, d1, hor1⟩ : ∃ b1, decide (z < (0 : Int)) = b1 ∧ (b1 = true ∨ decide ((S.size : Int) < z) = true) := by
        refine ⟨_, rfl, ?_⟩
        rcases hz with h | h
        · exact .inl (decide_eq_true h)
        · exact .inr (decide_eq_true h)
      clear hx hlen hll hLn HP0 hSd hSl hSz hz
      cases b1
      · have d2 : decide ((S.size : Int) < z) = true := by
          rcases hor1 with h | h
          · cases h
          · exact h
        clear hor1
        go_enter Tryz.func9, Tryz.ntmps9
        go_wp2_with fail
        refine HLI.out.mono ?_
        rintro e w1 ⟨rfl, hb1⟩
        have HB1 := Lib.hid hb1
        clear hb1
        go_wp2_with fail
        refine (HPK.out _ (HTB.out _ HB1.out) (HI.out.below HB1.out) HLE.out.symm).mono ?_
        rintro e w2 ⟨rfl, hb2⟩
        have HB2 := Lib.hid (HB1.out.trans (hb2.mono HB1.out.size))
        clear hb2
        go_wp2_with fail
        refine (HAW.out _ (HTB.out _ HB2.out)).mono ?_
        rintro e w3 ⟨rfl, hb3⟩
        have HB3 := Lib.hid (HB2.out.trans (hb3.mono HB2.out.size))
        clear hb3
        go_wp2_with fail
        go_ret
        exact ⟨rfl, HB3.out⟩
      · clear hor1
        go_enter Tryz.func9, Tryz.ntmps9
        go_wp2_with fail
        refine HLI.out.mono ?_
        rintro e w1 ⟨rfl, hb1⟩
        have HB1 := Lib.hid hb1
        clear hb1
        go_wp2_with fail
        refine (HPK.out _ (HTB.out _ HB1.out) (HI.out.below HB1.out) HLE.out.symm).mono ?_
        rintro e w2 ⟨rfl, hb2⟩
        have HB2 := Lib.hid (HB1.out.trans (hb2.mono HB1.out.size))
        clear hb2
        go_wp2_with fail
        refine (HAW.out _ (HTB.out _ HB2.out)).mono ?_
        rintro e w3 ⟨rfl, hb3⟩
        have HB3 := Lib.hid (HB2.out.trans (hb3.mono HB2.out.size))
        clear hb3
        go_wp2_with fail
        go_ret
        exact ⟨rfl, HB3.out⟩
    · obtain ⟨k, rfl⟩ : ∃ k : Nat, z = (k : Int) := ⟨z.toNat, by omega⟩
      have d1 : decide ((k : Int) < (0 : Int)) = false := decide_eq_false (by omega)
      have d2 : decide ((S.size : Int) < (k : Int)) = false := decide_eq_false (by omega)
      have hks : k ≤ S.size := by omega
      obtain ⟨U, hU⟩ : ∃ x, x = S.extract 0 k := ⟨_, rfl⟩
      have hUl : U.data.toList = (flatT (L.map toL) ++ List.replicate 1024 0).take k := by rw [hU, fext_list, List.drop_zero, hSl]
      have hUz : U.size ≤ 262144 := by rw [hU, ByteArray.size_extract]; omega
      have hUk : U.data.toList.length = k := by
        have : U.data.toList.length = U.size := rfl
        rw [this, hU, ByteArray.size_extract]; omega
      have C3 := Lib.hid fun (wx : World) (ht : Tabs wx) => HU.out wx ht U hUz
      have HUX := Lib.hid hU.symm
      have h0k : (0 : Int) ≤ (k : Int) := by omega
      have hksI : (k : Int) ≤ (S.size : Int) := by omega
      have w512 : IntKind.i64.wrap ((S.size : Int) - 512) = (S.size : Int) - 512 := by rw [IntKind.wrap_i64]; omega
      by_cases hc : S.size ≤ k + 512
      · have d3 : decide ((S.size : Int) - 512 ≤ (k : Int)) = true := decide_eq_true (by omega)
        have HA : Hid (unpackA U.data.toList = (L.map toL, 0)) := Lib.hid (by
          rw [unpackA, if_neg (by omega), hUl, unpack_take _ _ _ hx (by omega) (by rw [← hUl]; omega)])
        clear hx hlen hll hLn HP0 hSd hSl hSz hz hU hUl hUz hUk hc hks HU
        go_enter Tryz.func9, Tryz.ntmps9
        go_wp2_with fail
        refine HLI.out.mono ?_
        rintro e w1 ⟨rfl, hb1⟩
        have HB1 := Lib.hid hb1
        clear hb1
        go_wp2_with fail
        refine (HPK.out _ (HTB.out _ HB1.out) (HI.out.below HB1.out) HLE.out.symm).mono ?_
        rintro e w2 ⟨rfl, hb2⟩
        have HB2 := Lib.hid (HB1.out.trans (hb2.mono HB1.out.size))
        clear hb2
        go_wp2_with fail
        rw [HUX.out]
        refine (C3.out _ (HTB.out _ HB2.out)).mono ?_
        rintro e w3 ⟨A3, n3, c3, M3, k3, rfl, hu, hn3, hI3, hb3⟩
        rw [HA.out] at hu
        obtain rfl : M3 = L := toL_injE _ _ (congrArg Prod.fst hu).symm
        obtain rfl : 0 = k3 := congrArg Prod.snd hu
        have HB3 := Lib.hid (HB2.out.trans (hb3.mono HB2.out.size))
        have C4 := Lib.hid (HSA.out w3 A3 A n3 c3 n c M3 M3 hI3 (HI.out.below HB3.out) hn3 HN.out)
        rw [decide_eq_true rfl] at C4
        clear hu hn3 hI3 hb3
        go_wp2_with fail
        refine C4.out.mono ?_
        rintro e w4 ⟨rfl, hb4⟩
        have HB4 := Lib.hid (HB3.out.trans (hb4.mono HB3.out.size))
        clear hb4
        go_wp2_with fail
        refine (HAW.out _ (HTB.out _ HB4.out)).mono ?_
        rintro e w5 ⟨rfl, hb5⟩
        have HB5 := Lib.hid (HB4.out.trans (hb5.mono HB4.out.size))
        clear hb5
        go_wp2_with fail
        go_ret
        exact ⟨rfl, HB5.out⟩
      · have d3 : decide ((S.size : Int) - 512 ≤ (k : Int)) = false := decide_eq_false (by omega)
        have HA : Hid (unpackA U.data.toList = ([], 180)) := Lib.hid (by
          rw [unpackA, if_neg (by omega), hUl, unpack_cut _ _ _ hx (by omega)])
        clear hx hlen hll hLn HP0 hSd hSl hSz hz hU hUl hUz hUk hc hks HU
        go_enter Tryz.func9, Tryz.ntmps9
        go_wp2_with fail
        refine HLI.out.mono ?_
        rintro e w1 ⟨rfl, hb1⟩
        have HB1 := Lib.hid hb1
        clear hb1
        go_wp2_with fail
        refine (HPK.out _ (HTB.out _ HB1.out) (HI.out.below HB1.out) HLE.out.symm).mono ?_
        rintro e w2 ⟨rfl, hb2⟩
        have HB2 := Lib.hid (HB1.out.trans (hb2.mono HB1.out.size))
        clear hb2
        go_wp2_with fail
        rw [HUX.out]
        refine (C3.out _ (HTB.out _ HB2.out)).mono ?_
        rintro e w3 ⟨A3, n3, c3, M3, k3, rfl, hu, hn3, hI3, hb3⟩
        rw [HA.out] at hu
        obtain rfl : M3 = [] := toL_injE _ _ (congrArg Prod.fst hu).symm
        obtain rfl : 180 = k3 := congrArg Prod.snd hu
        obtain rfl : 0 = n3 := hI3.1
        have HB3 := Lib.hid (HB2.out.trans (hb3.mono HB2.out.size))
        clear hu hn3 hI3 hb3
        go_wp2_with fail
        refine (HAW.out _ (HTB.out _ HB3.out)).mono ?_
        rintro e w5 ⟨rfl, hb5⟩
        have HB5 := Lib.hid (HB3.out.trans (hb5.mono HB3.out.size))
        clear hb5
        go_wp2_with fail
        go_ret
        exact ⟨rfl, HB5.out⟩
  · have HP0 : Hid (packA (L.map toL) = ([], packE (L.map toL))) := Lib.hid (by rw [packA, if_pos hk])
    obtain ⟨e0, he0⟩ : ∃ x, x = packE (L.map toL) := ⟨_, rfl⟩
    rw [HP0.out] at HPK
    rw [← he0] at HPK hk
    dsimp only at HPK
    have dne : ((e0 : Int) == (0 : Int)) = false := beq_eq_false_iff_ne.2 (by omega)
    have dne2 : ((e0 : Int) != (0 : Int)) = true := bne_iff_ne.2 (by omega)
    clear HP0 he0
    go_enter Tryz.func9, Tryz.ntmps9
    go_wp2_with fail
    refine HLI.out.mono ?_
    rintro e w1 ⟨rfl, hb1⟩
    have HB1 := Lib.hid hb1
    clear hb1
    go_wp2_with fail
    refine (HPK.out _ (HTB.out _ HB1.out) (HI.out.below HB1.out) HLE.out.symm).mono ?_
    rintro e w2 ⟨rfl, hb2⟩
    have HB2 := Lib.hid (HB1.out.trans (hb2.mono HB1.out.size))
    clear hb2
    go_wp2_with fail
    refine (HAW.out _ (HTB.out _ HB2.out)).mono ?_
    rintro e w3 ⟨rfl, hb3⟩
    have HB3 := Lib.hid (HB2.out.trans (hb3.mono HB2.out.size))
    clear hb3
    go_wp2_with fail
    go_ret
    exact ⟨rfl, HB3.out⟩
end
end Go.Proofs.YtdjmfkodjjjhfaaGreatDoor
