/- Pax's code: pair, last, Last. Conditions: a text of at most 262144 bytes; the tables are there where a record is told. -/
import Derived.Test.YtccfjabmmecbkaaDoorPwc
namespace Go.Proofs.YtccfjabmmecbkaaDoor
open Go.RowKit

theorem last_hit (k : ByteArray) (L : List PairB) (i : Nat) (hi : i < L.length) (h : lastA k (L.drop (i + 1)) none = none) (hk : (L.getD i noB).1 = k) : lastA k L none = some (L.getD i noB).2 := by
  have e : L = L.take i ++ L.getD i noB :: L.drop (i + 1) := by
    rw [List.getD_eq_getElem?_getD, List.getElem?_eq_getElem hi]
    show L = L.take i ++ L[i] :: L.drop (i + 1)
    rw [← List.drop_eq_getElem_cons hi, List.take_append_drop]
  generalize L.getD i noB = p at *
  generalize L.drop (i + 1) = R at *
  rw [e, lastA_append, lastA, if_pos hk, lastA_some, h]
  rfl
theorem last_miss (k : ByteArray) (L : List PairB) (i : Nat) (hi : i < L.length) (h : lastA k (L.drop (i + 1)) none = none) (hk : (L.getD i noB).1 ≠ k) : lastA k (L.drop i) none = none := by
  rw [List.drop_eq_getElem_cons hi, lastA, if_neg (by rw [List.getD_eq_getElem?_getD, List.getElem?_eq_getElem hi] at hk; exact hk)]
  exact h
abbrev lastV (g : Nat) : Value := .func (.func 14) #[] #[.pointer (some ⟨g, 0, none⟩)]
set_option maxRecDepth 100000 in
theorem csought_any (w : World) (g : Nat) (k K V : ByteArray) (hg : w.cell? ⟨g, 0, none⟩ = some (.string k)) : Calls Tryd.prog 14 #[pairV K V, .pointer (some ⟨g, 0, none⟩)] w fun e w' => e = .returned (.bool (decide (K = k))) ∧ Below w.heap.size w w' := by
  have hb0 := blk_new w 36 #[.string K, .string V]
  have HB := Lib.hid (show Below w.heap.size w (w.alloc (.cells #[.string K, .string V] 36)) from (Below.refl _ _).alloc (Nat.le_refl _) _)
  have d0 := bytes_eql K k
  generalize decide (K = k) = b at *
  have hg2 := (HB.out.cell (p := ⟨g, 0, none⟩) (World.block_lt_of_cell? w _ hg)).trans hg
  clear hg
  go_enter Tryd.func14, Tryd.ntmps14
  go_upto_region 1 with fail
  generalize w.alloc (.cells #[.string K, .string V] 36) = w2 at *
  have e0 := (blk_cell hb0 0).trans (rfl : _ = some (Value.string K))
  clear hb0
  go_wp2_with fail
  go_ret
  exact ⟨rfl, HB.out⟩

set_option maxHeartbeats 3200000 in
set_option maxRecDepth 100000 in
theorem clastp_any (w : World) (A : Option Addr) (n c g : Nat) (L : List PairB) (k : ByteArray) (hI : PIn w A n L) (hn : n ≤ maxLen) (hg : w.cell? ⟨g, 0, none⟩ = some (.string k)) :
    Calls Tryd.prog 13 #[.slice A n c, lastV g] w fun e w' => (∃ K V, e = .returned (.tuple #[pairV K V, .bool (optB (lastA k L none))]) ∧ V = optS (lastA k L none)) ∧ Below w.heap.size w w' := by
  have hlen := hI.1
  have HI := Lib.hid hI
  have HHIT := Lib.hid (last_hit k L)
  have HMISS := Lib.hid (last_miss k L)
  have H0 : Hid (lastA k (L.drop n) none = none) := Lib.hid (by rw [← hlen, List.drop_length]; rfl)
  have HL0 : Hid (lastA k (L.drop 0) none = lastA k L none) := Lib.hid (by rw [List.drop_zero])
  have CS : Hid (∀ (wx : World) (K V : ByteArray), Below w.heap.size w wx → Calls Tryd.prog 14 #[pairV K V, .pointer (some ⟨g, 0, none⟩)] wx fun e w' => e = .returned (.bool (decide (K = k))) ∧ Below wx.heap.size wx w') := Lib.hid fun wx K V hb => csought_any wx g k K V ((hb.cell (p := ⟨g, 0, none⟩) (World.block_lt_of_cell? w _ hg)).trans hg)
  have HP : Hid (∀ (K V : ByteArray) (b : Bool) (w' : World), lastA k L none = (if b then some V else none) → (b = false → V = ⟨#[]⟩) → Below w.heap.size w w' → (fun e w' => (∃ K V, e = Ending.returned (.tuple #[pairV K V, .bool (optB (lastA k L none))]) ∧ V = optS (lastA k L none)) ∧ Below w.heap.size w w') (.returned (.tuple #[pairV K V, .bool b])) w') := Lib.hid fun K V b w' h hv hb => by
    refine ⟨⟨K, V, ?_, ?_⟩, hb⟩
    · rw [h]; cases b <;> rfl
    · rw [h]
      cases b
      · exact hv rfl
      · rfl
  generalize (fun e w' => (∃ K V, e = Ending.returned (.tuple #[pairV K V, .bool (optB (lastA k L none))]) ∧ V = optS (lastA k L none)) ∧ Below w.heap.size w w') = PO at *
  unfold maxLen at hn
  have HLEN := Lib.hid hlen
  have hk0 := blk_new w 36 #[.string ⟨#[]⟩, .string ⟨#[]⟩]
  have HB := Lib.hid (show Below w.heap.size w (w.alloc (.cells #[.string ⟨#[]⟩, .string ⟨#[]⟩] 36)) from (Below.refl _ _).alloc (Nat.le_refl _) _)
  obtain ⟨g0, hg0⟩ : ∃ g0, g0 = w.heap.size := ⟨_, rfl⟩
  clear hI hg hlen
  go_enter Tryd.func13, Tryd.ntmps13
  go_upto_region 1 with fail
  generalize w.alloc (.cells #[.string ⟨#[]⟩, .string ⟨#[]⟩] 36) = w2 at *
  rw [← hg0] at hk0 ⊢
  have HK := Lib.hid hk0
  have HG0 := Lib.hid hg0
  clear hk0 hg0
  go_wp2_with fail
  go_loopw [6] (fun sn wx => ∃ q : Nat, sn = .int .i64 ((q : Int) - 1) ∧ q ≤ n ∧ Hid (lastA k (L.drop q) none = none) ∧ Hid (Blk wx g0 36 #[.string ⟨#[]⟩, .string ⟨#[]⟩]) ∧ Below w.heap.size w wx) (fun sn _ => (intOf sn + 1).toNat)
  case atStart => exact ⟨n, rfl, Nat.le_refl _, H0, HK, HB.out⟩
  case round =>
    obtain ⟨q, rfl, hqn, hq0, hbk, hbx⟩ := hrel
    have HBX := Lib.hid hbx
    cases q with
    | zero =>
      have d0 : decide ((0 : Int) ≤ ((0 : Nat) : Int) - 1) = false := by decide
      have HNO : Hid (lastA k L none = none) := Lib.hid (by rw [← HL0.out]; exact hq0.out)
      have hr2 := blk_new wr 36 #[.string ⟨#[]⟩, .string ⟨#[]⟩]
      have HB3 := Lib.hid (HBX.out.trans (show Below w.heap.size wr (wr.alloc (.cells #[.string ⟨#[]⟩, .string ⟨#[]⟩] 36)) from (Below.refl _ _).alloc HBX.out.size _))
      have hk3 : Blk (wr.alloc (.cells #[.string ⟨#[]⟩, .string ⟨#[]⟩] 36)) g0 36 #[.string ⟨#[]⟩, .string ⟨#[]⟩] := ((Step.refl wr.heap.size [] [] wr).alloc (Nat.le_refl _) _).blk hbk.out List.not_mem_nil List.not_mem_nil
      clear hbx
      go_upto_region 7 with fail
      generalize wr.alloc (.cells #[.string ⟨#[]⟩, .string ⟨#[]⟩] 36) = w3 at *
      have e0 := (blk_cell hk3 0).trans (rfl : _ = some (Value.string ⟨#[]⟩))
      have e1 := (blk_cell hk3 1).trans (rfl : _ = some (Value.string ⟨#[]⟩))
      have f0 := blk_frozen hk3 0
      have f1 := blk_frozen hk3 1
      have c0 := (blk_cell hr2 0).trans (rfl : _ = some (Value.string ⟨#[]⟩))
      have c1 := (blk_cell hr2 1).trans (rfl : _ = some (Value.string ⟨#[]⟩))
      clear hk3 hr2
      go_wp2_with fail
      refine bodyPost_ret (v := .tuple #[pairV ⟨#[]⟩ ⟨#[]⟩, .bool false]) ?_ rfl ?_
      · simp [results, Tryd.results13, go_sem, e0, e1]
      · exact HP.out ⟨#[]⟩ ⟨#[]⟩ false _ HNO.out (fun _ => rfl) ((HB3.out.setCell (p := ⟨g0, 0, none⟩) (by rw [HG0.out]; exact Nat.le_refl _) _).setCell (p := ⟨g0, 1, none⟩) (by rw [HG0.out]; exact Nat.le_refl _) _)
    | succ i =>
      have hi1 : (((i + 1 : Nat) : Int) - 1) = (i : Int) := by omega
      rw [hi1]
      have d0 : decide ((0 : Int) ≤ (i : Int)) = true := decide_eq_true (by omega)
      have hin : i < n := by omega
      obtain ⟨b, off, hA, hc⟩ := (HI.out.below hbx).2 (by omega)
      obtain ⟨c1, c2⟩ := hc i hin
      obtain ⟨K, hK⟩ : ∃ K, K = (L.getD i noB).1 := ⟨_, rfl⟩
      obtain ⟨U, hU⟩ : ∃ U, U = (L.getD i noB).2 := ⟨_, rfl⟩
      have hhit := HHIT.out i (by rw [HLEN.out]; exact hin) hq0.out
      have hmiss := HMISS.out i (by rw [HLEN.out]; exact hin) hq0.out
      rw [← hK] at c1 hhit hmiss
      rw [← hU] at c2 hhit
      have C1 := Lib.hid (CS.out wr K U hbx)
      have hz0 : (0 : Int) ≤ (i : Int) := by omega
      have hzn : (i : Int) < (n : Int) := by omega
      subst hA
      clear hc hK hU hq0 hi1 hbx
      by_cases ek : K = k
      · have HIT : Hid (lastA k L none = some U) := Lib.hid (hhit ek)
        rw [decide_eq_true ek] at C1
        clear hhit hmiss ek
        go_wp2_with fail
        refine C1.out.mono ?_
        rintro e w3 ⟨rfl, hb3⟩
        have HB3 := Lib.hid (HBX.out.trans (hb3.mono HBX.out.size))
        have hk3 := (step_of_below hb3).blk hbk.out List.not_mem_nil List.not_mem_nil
        have g1 := (hb3.cell (p := ⟨b, off + i * 2, none⟩) (World.block_lt_of_cell? wr _ c1)).trans c1
        have g2 := (hb3.cell (p := ⟨b, off + i * 2 + 1, none⟩) (World.block_lt_of_cell? wr _ c2)).trans c2
        have e0 := (blk_cell hk3 0).trans (rfl : _ = some (Value.string ⟨#[]⟩))
        have e1 := (blk_cell hk3 1).trans (rfl : _ = some (Value.string ⟨#[]⟩))
        have f0 := blk_frozen hk3 0
        have f1 := blk_frozen hk3 1
        clear hb3 hk3 c1 c2
        go_wp2_with fail
        refine bodyPost_ret (v := .tuple #[pairV K U, .bool true]) ?_ rfl ?_
        · simp [results, Tryd.results13, go_sem, e0, e1]
        · exact HP.out K U true _ HIT.out (fun h => by cases h) ((HB3.out.setCell (p := ⟨g0, 0, none⟩) (by rw [HG0.out]; exact Nat.le_refl _) _).setCell (p := ⟨g0, 1, none⟩) (by rw [HG0.out]; exact Nat.le_refl _) _)
      · have HMI : Hid (lastA k (L.drop i) none = none) := Lib.hid (hmiss ek)
        rw [decide_eq_false ek] at C1
        clear hhit hmiss ek
        go_wp2_with fail
        refine C1.out.mono ?_
        rintro e w3 ⟨rfl, hb3⟩
        have HB3 := Lib.hid (HBX.out.trans (hb3.mono HBX.out.size))
        have HK3 := Lib.hid ((step_of_below hb3).blk hbk.out List.not_mem_nil List.not_mem_nil)
        clear hb3
        go_wp2_with fail
        go_roundw
        case rel => exact ⟨i, rfl, by omega, HMI, HK3, HB3.out⟩
        case measure => simp [intOf]

set_option maxHeartbeats 1600000 in
set_option maxRecDepth 100000 in
theorem clast_any (w : World) (A : Option Addr) (n c : Nat) (L : List PairB) (k : ByteArray) (hI : PIn w A n L) (hn : n ≤ maxLen) :
    Calls Tryd.prog 6 #[.slice A n c, .string k] w fun e w' => e = .returned (.tuple #[.string (optS (lastA k L none)), .bool (optB (lastA k L none))]) ∧ Below w.heap.size w w' := by
  have hk0 := blk_new w 9 #[.string k]
  have hb1 : Below w.heap.size w (w.alloc (.cells #[.string k] 9)) := (Below.refl _ _).alloc (Nat.le_refl _) _
  have HI1 := hI.below hb1
  have HB := Lib.hid hb1
  obtain ⟨g, hg⟩ : ∃ g, g = w.heap.size := ⟨_, rfl⟩
  have C1 := Lib.hid (clastp_any (w.alloc (.cells #[.string k] 9)) A n c g L k HI1 hn (by rw [hg]; exact (blk_cell hk0 0).trans rfl))
  generalize optB (lastA k L none) = b at *
  generalize optS (lastA k L none) = v at *
  clear hI hb1 hk0 HI1
  go_enter Tryd.func6, Tryd.ntmps6
  go_upto_region 1 with fail
  generalize w.alloc (.cells #[.string k] 9) = w2 at *
  rw [← hg]
  clear hg
  go_wp2_with fail
  refine C1.out.mono ?_
  rintro e w3 ⟨⟨K, V, rfl, rfl⟩, hb3⟩
  have hr := blk_new w3 36 #[.string K, .string V]
  have HB3 := Lib.hid ((HB.out.trans (hb3.mono HB.out.size)).alloc ((HB.out.trans (hb3.mono HB.out.size)).size) (.cells #[.string K, .string V] 36))
  clear hb3
  go_upto_region 2 with fail
  generalize w3.alloc (.cells #[.string K, .string V] 36) = w4 at *
  have e1 := (blk_cell hr 1).trans (rfl : _ = some (Value.string V))
  clear hr
  go_wp2_with fail
  go_ret2
  exact ⟨rfl, HB3.out⟩

/-- A result's two cells, whatever stands in them. -/
def ResB (w : World) (g : Nat) : Prop := ∃ a b, Blk w g 36 #[a, b]
def resV (w : World) (g i : Nat) : Value := (w.cell? ⟨g, i, none⟩).getD undef
theorem ResB.cells {w : World} {g : Nat} (h : ResB w g) : w.cell? ⟨g, 0, none⟩ = some (resV w g 0) ∧ w.cell? ⟨g, 1, none⟩ = some (resV w g 1) ∧ w.frozen? ⟨g, 0, none⟩ = false ∧ w.frozen? ⟨g, 1, none⟩ = false := by
  obtain ⟨a, b, h⟩ := h
  have h0 : w.cell? ⟨g, 0, none⟩ = some a := blk_cell h 0
  have h1 : w.cell? ⟨g, 1, none⟩ = some b := blk_cell h 1
  refine ⟨?_, ?_, blk_frozen h 0, blk_frozen h 1⟩
  · rw [resV, h0]; rfl
  · rw [resV, h1]; rfl
theorem ResB.step {w w' : World} {g : Nat} (h : ResB w g) (hb : Below w.heap.size w w') : ResB w' g := by
  obtain ⟨a, b, h⟩ := h
  exact ⟨a, b, (step_of_below hb).blk h List.not_mem_nil List.not_mem_nil⟩
theorem ResB.store {w : World} {g : Nat} (h : ResB w g) (u v : Value) : ResB ((w.setCell ⟨g, 0, none⟩ u).setCell ⟨g, 1, none⟩ v) g := by
  obtain ⟨a, b, h⟩ := h
  exact ⟨u, v, blk_set (blk_set h 0 u) 1 v⟩
set_option maxRecDepth 100000 in
theorem blk_aside {w : World} {g k : Nat} {t : TypeId} {cs : Array Value} (h : Blk w g t cs) (hne : g ≠ k) (u v : Value) : Blk ((w.setCell ⟨k, 0, none⟩ u).setCell ⟨k, 1, none⟩ v) g t cs :=
  (((Step.refl k [k] [] w).set (p := ⟨k, 0, none⟩) (Nat.le_refl _) (by simp) u).set (p := ⟨k, 1, none⟩) (Nat.le_refl _) (by simp) v).blk h (by simpa using hne) List.not_mem_nil

set_option maxHeartbeats 3200000 in
set_option maxRecDepth 100000 in
theorem cpair_any (w : World) (hT : Tabs w) (s : ByteArray) (hs : s.size ≤ 262144) : Calls Tryd.prog 19 #[.string s] w fun e w' => e = .returned (.tuple #[pairV (strF (pairR s.data.toList).1) (strF (pairR s.data.toList).2), .bool (decide (isR s.data.toList))]) ∧ Below w.heap.size w w' := by
  have hpl := pair_len s.data.toList
  have hsl : s.data.toList.length = s.size := rfl
  obtain ⟨R, hR⟩ : ∃ R, R = strF (behindB 32 s.data.toList) := ⟨_, rfl⟩
  obtain ⟨T, hT2⟩ : ∃ T, T = strF (trimE (behindB 32 s.data.toList)) := ⟨_, rfl⟩
  have hRl : R.data.toList = behindB 32 s.data.toList := by rw [hR]; rfl
  have hTl : T.data.toList = trimE (behindB 32 s.data.toList) := by rw [hT2]; rfl
  have hRz : R.size ≤ 262144 := by
    have := behind_len 32 s.data.toList
    rw [hR, strF_size]; omega
  have hTz : T.size ≤ 262144 := by
    have h1 := behind_len 32 s.data.toList
    have h2 := trim_len (behindB 32 s.data.toList)
    rw [hT2, strF_size]; omega
  have C1 := Lib.hid fun wx : World => cutBl_any wx s (by omega)
  have C2 := Lib.hid fun wx : World => trim_any wx R (by omega)
  have C3 := Lib.hid fun wx : World => cutEq_any wx T (by omega)
  rw [← hR] at C1
  rw [hRl, ← hT2] at C2
  rw [hTl] at C3
  obtain ⟨K, hK⟩ : ∃ K, K = strF (pairR s.data.toList).1 := ⟨_, rfl⟩
  obtain ⟨V, hV⟩ : ∃ V, V = strF (pairR s.data.toList).2 := ⟨_, rfl⟩
  have hKl : K.data.toList = (pairR s.data.toList).1 := by rw [hK]; rfl
  have hVl : V.data.toList = (pairR s.data.toList).2 := by rw [hV]; rfl
  have hKV : K.size + V.size ≤ 262144 := by
    rw [hK, hV, strF_size, strF_size]; omega
  rw [show strF ((trimE (behindB 32 s.data.toList)).takeWhile (· != 61)) = K from hK.symm, show strF (behindB 61 (trimE (behindB 32 s.data.toList))) = V from hV.symm] at C3
  have HM : Hid (∀ wx : World, Calls Tryd.prog 15 #[pairV K V] wx fun e w' => e = .returned (.bool (decide (keyK K.data.toList))) ∧ Below wx.heap.size wx w') := Lib.hid fun wx => cmay_any wx K V
  have HTB : Hid (∀ wx : World, Below w.heap.size w wx → Tabs wx) := Lib.hid fun wx hb => hT.below hb
  have HR : Hid (∀ wx : World, Below w.heap.size w wx → Calls Tryd.prog 17 #[pairV K V] wx fun e w' => e = .returned (.string (strF (recL (K.data.toList, V.data.toList)))) ∧ Below wx.heap.size wx w') := Lib.hid fun wx hb => crecord_any wx (HTB.out _ hb) K V (by omega)
  obtain ⟨X, hX⟩ : ∃ X, X = strF (recL (K.data.toList, V.data.toList)) := ⟨_, rfl⟩
  rw [← hX] at HR
  have hXs := bytes_eql X s
  have hIS : isR s.data.toList ↔ keyK K.data.toList ∧ X = s := by
    unfold isR
    rw [hKl, hX, hKl, hVl]
    show keyK (pairR s.data.toList).1 ∧ recL (pairR s.data.toList) = s.data.toList ↔ _
    constructor
    · rintro ⟨h1, h2⟩
      refine ⟨h1, ?_⟩
      rw [h2, strF_of]
    · rintro ⟨h1, h2⟩
      exact ⟨h1, congrArg (fun t : ByteArray => t.data.toList) h2⟩
  rw [← hK, ← hV]
  obtain ⟨b, hb⟩ : ∃ b, b = decide (isR s.data.toList) := ⟨_, rfl⟩
  rw [← hb]
  have hk0 := blk_new w 36 #[.string ⟨#[]⟩, .string ⟨#[]⟩]
  have HB := Lib.hid (show Below w.heap.size w (w.alloc (.cells #[.string ⟨#[]⟩, .string ⟨#[]⟩] 36)) from (Below.refl _ _).alloc (Nat.le_refl _) _)
  obtain ⟨g0, hg0⟩ : ∃ g0, g0 = w.heap.size := ⟨_, rfl⟩
  clear hpl hsl hR hT2 hRl hTl hK hV hX hT
  go_enter Tryd.func19, Tryd.ntmps19
  go_upto_region 1 with fail
  generalize w.alloc (.cells #[.string ⟨#[]⟩, .string ⟨#[]⟩] 36) = w2 at *
  rw [← hg0] at hk0 ⊢
  have HK := Lib.hid hk0
  have HG0 := Lib.hid hg0
  clear hk0 hg0
  go_wp2_with fail
  refine (C1.out w2).mono ?_
  rintro e w3 ⟨⟨b1, rfl⟩, d1, hw3⟩
  have HK3 : Hid (Blk w3 g0 36 #[.string ⟨#[]⟩, .string ⟨#[]⟩]) := Lib.hid (by rw [hw3]; exact HK.out)
  have HB3 : Hid (Below w.heap.size w w3) := Lib.hid (by rw [hw3]; exact below_drewN HB.out d1)
  clear hw3 HK HB
  go_wp2_with fail
  refine (C2.out _).mono ?_
  rintro e w4 ⟨rfl, d2, hw4⟩
  have HK4 : Hid (Blk w4 g0 36 #[.string ⟨#[]⟩, .string ⟨#[]⟩]) := Lib.hid (by rw [hw4]; exact HK3.out)
  have HB4 : Hid (Below w.heap.size w w4) := Lib.hid (by rw [hw4]; exact below_drewN HB3.out d2)
  clear hw4 HK3 HB3
  go_wp2_with fail
  refine (C3.out _).mono ?_
  rintro e w5 ⟨⟨b2, rfl⟩, d3, hw5⟩
  have HK5 : Hid (Blk w5 g0 36 #[.string ⟨#[]⟩, .string ⟨#[]⟩]) := Lib.hid (by rw [hw5]; exact HK4.out)
  have HB5 : Hid (Below w.heap.size w w5) := Lib.hid (by rw [hw5]; exact below_drewN HB4.out d3)
  clear hw5 HK4 HB4
  obtain ⟨g1, hg1⟩ : ∃ g1, g1 = w5.heap.size := ⟨_, rfl⟩
  have HKC : Hid (Blk (w5.alloc (.cells #[.string K, .string V] 36)).drew g1 36 #[.string K, .string V]) := Lib.hid (by rw [hg1]; exact blk_new w5 _ _)
  have HKA : Hid (ResB (w5.alloc (.cells #[.string K, .string V] 36)).drew g0) := Lib.hid ⟨_, _, ((Step.refl w5.heap.size [] [] w5).alloc (Nat.le_refl _) _).blk HK5.out List.not_mem_nil List.not_mem_nil⟩
  have HKS : Hid (∀ (wx : World) (u v : Value), Blk wx g1 36 #[.string K, .string V] → Blk ((wx.setCell ⟨g0, 0, none⟩ u).setCell ⟨g0, 1, none⟩ v) g1 36 #[.string K, .string V]) := Lib.hid fun wx u v h => blk_aside h (by have := blk_lt HK5.out; omega) u v
  have HBC := Lib.hid (HB5.out.alloc HB5.out.size (.cells #[.string K, .string V] 36)).drew
  have HKP : Hid (∀ wx : World, Blk wx g1 36 #[.string K, .string V] → ResB wx g0 → wx.cell? ⟨g1, 0, none⟩ = some (.string K) ∧ wx.cell? ⟨g1, 1, none⟩ = some (.string V) ∧ wx.cell? ⟨g0, 0, none⟩ = some (resV wx g0 0) ∧ wx.cell? ⟨g0, 1, none⟩ = some (resV wx g0 1) ∧ wx.frozen? ⟨g0, 0, none⟩ = false ∧ wx.frozen? ⟨g0, 1, none⟩ = false) := Lib.hid fun wx hk ha => ⟨blk_cell hk 0, blk_cell hk 1, ha.cells.1, ha.cells.2.1, ha.cells.2.2.1, ha.cells.2.2.2⟩
  clear HK5 HB5
  go_upto_region 4 with fail
  rw [← hg1]
  clear hg1
  by_cases hk : keyK K.data.toList
  · rw [decide_eq_true hk] at HM
    have hbX : b = decide (X = s) := by
      rw [hb]
      exact decide_eq_decide.2 (hIS.trans ⟨fun h => h.2, fun h => ⟨hk, h⟩⟩)
    rw [← hbX] at hXs
    clear hk hIS hb hbX
    go_region_held3 (fun w' => w'.cell? ⟨g1, 0, none⟩ = some (.string K) ∧ w'.cell? ⟨g1, 1, none⟩ = some (.string V) ∧ w'.cell? ⟨g0, 0, none⟩ = some (resV w' g0 0) ∧ w'.cell? ⟨g0, 1, none⟩ = some (resV w' g0 1) ∧ w'.frozen? ⟨g0, 0, none⟩ = false ∧ w'.frozen? ⟨g0, 1, none⟩ = false)
      (first | exact HKP.out _ HKC.out HKA.out | exact HKP.out _ (HKS.out _ _ _ HKC.out) (HKA.out.store _ _))
      (first
      | (go_at_call 15; refine (HM.out _).mono ?_; rintro e wn ⟨rfl, hb9⟩
         have HK9 := Lib.hid ((step_of_below hb9).blk HKC.out List.not_mem_nil List.not_mem_nil)
         have HA9 := Lib.hid (HKA.out.step hb9)
         have HB9 := Lib.hid (HBC.out.trans (hb9.mono HBC.out.size))
         clear hb9 HKC HBC HKA
         have HKC := HK9
         have HBC := HB9
         have HKA := HA9
         clear HK9 HB9 HA9)
      | (go_at_call 17; refine (HR.out _ HBC.out).mono ?_; rintro e wn ⟨rfl, hb9⟩
         have HK9 := Lib.hid ((step_of_below hb9).blk HKC.out List.not_mem_nil List.not_mem_nil)
         have HA9 := Lib.hid (HKA.out.step hb9)
         have HB9 := Lib.hid (HBC.out.trans (hb9.mono HBC.out.size))
         clear hb9 HKC HBC HKA
         have HKC := HK9
         have HBC := HB9
         have HKA := HA9
         clear HK9 HB9 HA9)
      )
    obtain ⟨e0, e1, f0, f1⟩ := HKA.out.cells
    go_wp2_with fail
    refine bodyPost_ret (v := .tuple #[pairV K V, .bool b]) ?_ rfl ?_
    · simp [results, Tryd.results19, go_sem, e0, e1]
    · exact ⟨rfl, (HBC.out.setCell (p := ⟨g0, 0, none⟩) (by rw [HG0.out]; exact Nat.le_refl _) _).setCell (p := ⟨g0, 1, none⟩) (by rw [HG0.out]; exact Nat.le_refl _) _⟩
  · rw [decide_eq_false hk] at HM
    have hbX : b = false := by
      rw [hb]
      exact decide_eq_false fun h => hk (hIS.1 h).1
    clear hk hIS hb HR hXs
    subst hbX
    refine wp_region_held_drew (S := fun w' => w'.cell? ⟨g1, 0, none⟩ = some (.string K) ∧ w'.cell? ⟨g1, 1, none⟩ = some (.string V) ∧ w'.cell? ⟨g0, 0, none⟩ = some (resV w' g0 0) ∧ w'.cell? ⟨g0, 1, none⟩ = some (resV w' g0 1) ∧ w'.frozen? ⟨g0, 0, none⟩ = false ∧ w'.frozen? ⟨g0, 1, none⟩ = false) (by kernel_rfl) (HKP.out _ HKC.out HKA.out) (fun hHeld => ?_)
    refine wpAnyH_take (i := 0) (v := pairV K V) rfl (by kernel_rfl) (by kernel_rfl) (by kernel_rfl) (fun _ _ _ h => h) (Or.inl ⟨by rfl, fun wq hSw => by (try dsimp only at hSw); obtain ⟨s0, s1, s2, s3, s4, s5⟩ := hSw; go_simp⟩) (by assumption) ?_
    (try simp only [List.getElem_toArray, List.getElem_cons_zero, Act.put, List.setIfInBounds_toArray, List.set_cons_zero, List.set_cons_succ])
    refine wpAnyH_take (i := 1) (v := pairV K V) rfl (by kernel_rfl) (by kernel_rfl) (by kernel_rfl) (fun _ _ _ h => h) (Or.inl ⟨by rfl, fun wq hSw => by (try dsimp only at hSw); obtain ⟨s0, s1, s2, s3, s4, s5⟩ := hSw; go_simp⟩) (by assumption) ?_
    (try simp only [List.getElem_toArray, List.getElem_cons_succ, List.getElem_cons_zero, Act.put, List.setIfInBounds_toArray, List.set_cons_zero, List.set_cons_succ])
    refine wpAnyH_ready (rs := [2]) (by kernel_rfl) (by simp) (AllReadyH.cons rfl (fun KK hK => ?_) AllReadyH.nil)
    go_simp
    go_at_call 15
    refine (HM.out _).mono ?_
    rintro e wn ⟨rfl, hb9⟩
    have HKC2 := Lib.hid ((step_of_below hb9).blk HKC.out List.not_mem_nil List.not_mem_nil)
    have HKA2 := Lib.hid (HKA.out.step hb9)
    have HBC2 := Lib.hid (HBC.out.trans (hb9.mono HBC.out.size))
    have hS2 := HKP.out wn HKC2.out HKA2.out
    dsimp only
    refine hK.out _ _ hS2 (fun hHeld2 => ?_)
    clear hK hb9 hHeld
    (try simp only [List.getElem_toArray, List.getElem_cons_succ, List.getElem_cons_zero, Act.put, List.setIfInBounds_toArray, List.set_cons_zero, List.set_cons_succ])
    refine wpAnyH_take (i := 3) (v := .bool false) rfl (by kernel_rfl) (by kernel_rfl) (by kernel_rfl) (fun _ _ _ h => h) (Or.inl ⟨by rfl, fun wq _ => by go_simp⟩) (by assumption) ?_
    (try simp only [List.getElem_toArray, List.getElem_cons_succ, List.getElem_cons_zero, Act.put, List.setIfInBounds_toArray, List.set_cons_zero, List.set_cons_succ])
    refine wpAnyH_take (i := 4) (v := undef) rfl (by kernel_rfl) (by kernel_rfl) (by kernel_rfl) (fun _ _ _ h => h) (Or.inr ⟨by rfl, rfl⟩) (by assumption) ?_
    (try simp only [List.getElem_toArray, List.getElem_cons_succ, List.getElem_cons_zero, Act.put, List.setIfInBounds_toArray, List.set_cons_zero, List.set_cons_succ])
    refine wpAnyH_take (i := 5) (v := undef) rfl (by kernel_rfl) (by kernel_rfl) (by kernel_rfl) (fun _ _ _ h => h) (Or.inr ⟨by rfl, rfl⟩) (by assumption) ?_
    (try simp only [List.getElem_toArray, List.getElem_cons_succ, List.getElem_cons_zero, Act.put, List.setIfInBounds_toArray, List.set_cons_zero, List.set_cons_succ])
    refine wpAnyH_take (i := 6) (v := undef) rfl (by kernel_rfl) (by kernel_rfl) (by kernel_rfl) (fun _ _ _ h => h) (Or.inr ⟨by rfl, rfl⟩) (by assumption) ?_
    (try simp only [List.getElem_toArray, List.getElem_cons_succ, List.getElem_cons_zero, Act.put, List.setIfInBounds_toArray, List.set_cons_zero, List.set_cons_succ])
    refine wpAnyH_take (i := 7) (v := undef) rfl (by kernel_rfl) (by kernel_rfl) (by kernel_rfl) (fun _ _ _ h => h) (Or.inr ⟨by rfl, rfl⟩) (by assumption) ?_
    (try simp only [List.getElem_toArray, List.getElem_cons_succ, List.getElem_cons_zero, Act.put, List.setIfInBounds_toArray, List.set_cons_zero, List.set_cons_succ])
    refine wpAnyH_take (i := 8) (v := .bool false) rfl (by kernel_rfl) (by kernel_rfl) (by kernel_rfl) (fun _ _ _ h => h) (Or.inl ⟨by rfl, fun wq _ => by go_simp⟩) (by assumption) ?_
    (try simp only [List.getElem_toArray, List.getElem_cons_succ, List.getElem_cons_zero, Act.put, List.setIfInBounds_toArray, List.set_cons_zero, List.set_cons_succ])
    refine wpAnyH_ready (rs := [9]) (by kernel_rfl) (by simp) (AllReadyH.cons rfl (fun KK2 hK2 => ?_) AllReadyH.nil)
    obtain ⟨s0, s1, s2, s3, s4, s5⟩ := hS2
    go_simp
    refine hK2.out _ _ (HKP.out _ (HKS.out _ _ _ HKC2.out) (HKA2.out.store _ _)) (fun hHeld3 => ?_)
    clear hK2
    (try simp only [List.getElem_toArray, List.getElem_cons_succ, List.getElem_cons_zero, Act.put, List.setIfInBounds_toArray, List.set_cons_zero, List.set_cons_succ])
    refine wpAnyH_take (i := 10) (v := .bool false) rfl (by kernel_rfl) (by kernel_rfl) (by kernel_rfl) (fun _ _ _ h => h) (Or.inl ⟨by rfl, fun wq _ => by go_simp⟩) (by assumption) ?_
    (try simp only [List.getElem_toArray, List.getElem_cons_succ, List.getElem_cons_zero, Act.put, List.setIfInBounds_toArray, List.set_cons_zero, List.set_cons_succ])
    refine wpAnyH_done (by kernel_rfl) ?_ _
    go_wp2_with fail
    refine bodyPost_ret (v := .tuple #[pairV K V, .bool false]) ?_ rfl ?_
    · simp [results, Tryd.results19, go_sem, s2, s3]
    · exact ⟨rfl, (HBC2.out.setCell (p := ⟨g0, 0, none⟩) (by rw [HG0.out]; exact Nat.le_refl _) _).setCell (p := ⟨g0, 1, none⟩) (by rw [HG0.out]; exact Nat.le_refl _) _⟩
end Go.Proofs.YtccfjabmmecbkaaDoor
