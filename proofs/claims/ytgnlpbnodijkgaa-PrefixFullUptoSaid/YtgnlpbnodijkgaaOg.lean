/- The reference's Put and Encode. Conditions: at most 2000 symbols. Written ahead of stage 9. -/
import Derived.Test.YtgnlpbnodijkgaaOf
import Derived.Test.YtgnlpbnodijkgaaRb
import Derived.Test.YtgnlpbnodijkgaaI
namespace Go.Proofs.Ytgnlpbnodijkgaa
open Go.RowKit

set_option maxHeartbeats 1600000 in
set_option maxRecDepth 100000 in
theorem rput_any (w : World) (A B : Option Addr) (n c m d : Nat) (L list : List Int) (hL : ZIn w A n L) (hn : n ≤ maxLen) (hB : ZIn w B m list) (hmd : m ≤ d) (hm : m ≤ 2000) : Calls Try.prog 34 #[.slice A n c, .slice B m d] w (ListPost w (putAns L list)) := by
  have HC := Lib.hid (check_any w A n c L hL hn)
  by_cases h : LenOk L
  · rw [if_pos h] at HC
    have hln := hL.1
    have hn2 : n ≤ 258 := by have := h.2.1; omega
    have HT := Lib.hid (table_any w A n c L hL h)
    have hfit := fits_of h
    have hll : (nl L).length = n := by rw [nl_length, hln]
    have HF := Lib.hid hfit
    have HLL := Lib.hid hll
    have hans : putAns L list = (if ∀ x ∈ list, 0 ≤ x ∧ x < (n : Int) then (putB (nl L) list, 0) else ([], 60)) := by rw [putAns, if_pos h, hln]
    have HANS := Lib.hid hans
    have HLB := Lib.hid hB
    have hlm := hB.1
    have HLM := Lib.hid hlm
    have HP : Hid (∀ (v : Value) (a : List Nat × Nat) (w' : World), putAns L list = a → w'.ownsRow w.heap.size 3 1 v a.1.length (a.1.map iv) → Below w.heap.size w w' → ListPost w (putAns L list) (.returned (.tuple #[v, .int .i64 a.2])) w') := Lib.hid fun v a w' h1 h2 h3 => ⟨v, by rw [h1], by rw [h1]; exact h2, h3⟩
    generalize nl L = l at *
    generalize ListPost w (putAns L list) = PO at *
    generalize putAns L list = ans at *
    clear hL h hln hfit hll hB hans hlm
    go_enter Try.func34, Try.ntmps34
    go_wp2_with fail
    refine HC.out.mono ?_
    rintro e w ⟨rfl, rfl⟩
    go_wp2_with fail
    refine HT.out.mono ?_
    rintro e w2 ⟨g, rfl, hT, hb2⟩
    have HT2 := Lib.hid hT
    have HB2 := Lib.hid hb2
    have hz2' := hb2.size
    clear hT hb2
    go_wp2_with fail
    go_loopw [8, 9] (fun out iv' wx => ∃ (i : Nat) (o : List Nat), i ≤ m ∧ iv' = .int .i64 i ∧ o.length ≤ 20 * i ∧ Hid (o = putB l (list.take i)) ∧ Hid (∀ x ∈ list.take i, 0 ≤ x ∧ x < (n : Int)) ∧ wx.ownsRow w2.heap.size 3 1 out o.length (o.map iv) ∧ Below w2.heap.size w2 wx) (fun _ iv' _ => m - (intOf iv').toNat)
    case atStart => exact ⟨0, [], Nat.zero_le _, rfl, Nat.zero_le _, Lib.hid rfl, Lib.hid (by simp), World.ownsRow_nil _ _ _ _, Below.refl _ _⟩
    case round =>
      obtain ⟨i, o, hi, rfl, hol, ho, hval, hown, hb⟩ := hrel
      have hz9 := hb.size
      obtain ⟨A0, c0, rfl, hn0, hm0, hA0⟩ := own_slice hown
      clear hA0
      unfold maxLen at hm0
      have HB := Lib.hid hb
      have HO := Lib.hid hown
      have hb0 := HB2.out.trans (hb.mono hz2')
      have HB0 := Lib.hid hb0
      clear hown hb hb0
      by_cases e : i < m
      · have d0 : decide ((i : Int) < (m : Int)) = true := decide_eq_true (by omega)
        obtain ⟨b, off, rfl, hc⟩ := HLB.out.2 (by omega)
        have hcw := hc i e
        have hlt := World.block_lt_of_cell? w _ hcw
        have htk := take_snoc_int list i (by rw [HLM.out]; exact e)
        obtain ⟨x, hx⟩ : ∃ x, x = list.getD i 0 := ⟨_, rfl⟩
        rw [← hx] at hcw htk
        have hcq := (HB0.out.cell (p := ⟨b, off + i, none⟩) hlt).trans hcw
        have HTK := Lib.hid htk
        clear hc hx hlt hcw htk
        by_cases e1 : 0 ≤ x ∧ x < n
        · obtain ⟨y, rfl⟩ : ∃ y : Nat, x = y := ⟨x.toNat, by omega⟩
          have hyn : y < n := by omega
          have d1 : decide ((y : Int) < 0) = false := decide_eq_false (by omega)
          have hny : ¬ n ≤ y := by omega
          have d2 : decide ((n : Int) ≤ (y : Int)) = false := decide_eq_false (by omega)
          obtain ⟨A5, k5, hc5, hi5, hk5⟩ := (HT2.out.below HB.out) y hyn
          have hlen : (codeB l y).length ≤ 20 := by
            rw [codeB_length]
            exact (HF.out.one (i := y) (by rw [HLL.out]; exact hyn)).2
          obtain ⟨v4, w4, hr4, hown4, hgr4⟩ := append_ints wr w2.heap.size _ _ _ HO.out A5 _ k5 _ hi5 (by omega) hz9
          have hb4 : Below w2.heap.size w2 w4 := HB.out.grown hgr4 hz9 (fun k hk => (HO.out.lt k hk).1)
          have hown5 : w4.ownsRow w2.heap.size 3 1 v4 (o ++ codeB l y).length ((o ++ codeB l y).map iv) := by
            rw [List.length_append, List.map_append]
            exact hown4
          have hput : o ++ codeB l y = putB l (list.take (i + 1)) := by rw [HTK.out, putB_snoc, ← ho.out, Int.toNat_natCast]
          have hval2 : ∀ x ∈ list.take (i + 1), 0 ≤ x ∧ x < (n : Int) := by
            rw [HTK.out]
            intro x hx
            rcases List.mem_append.1 hx with hx | hx
            · exact hval.out x hx
            · rw [List.mem_singleton.1 hx]
              exact e1
          have hol2 : (o ++ codeB l y).length ≤ 20 * (i + 1) := by rw [List.length_append]; omega
          have HR4 := Lib.hid hr4
          have HO4 := Lib.hid hown5
          have HB4 := Lib.hid hb4
          have HPUT := Lib.hid hput
          have HV2 := Lib.hid hval2
          have HOL := Lib.hid hol2
          obtain ⟨N, hN⟩ : ∃ N, N = o.length := ⟨_, rfl⟩
          obtain ⟨m5, hm5⟩ : ∃ m5, m5 = (codeB l y).length := ⟨_, rfl⟩
          rw [← hm5] at hc5 HR4
          rw [← hN] at HR4 hn0 ⊢
          clear hr4 hown4 hown5 hb4 hgr4 hput hval2 hol2 hlen hi5 hk5 e1 hm5 hN
          go_wp2_with (at_builtin; refine Lib.wpList_append_run _ rfl _ _ 22 22 rfl (.slice A0 N c0) (.slice A5 m5 k5) rfl rfl v4 w4 HR4.out ?_)
          go_roundw
          case rel => exact ⟨i + 1, o ++ codeB l y, by omega, by go_num, HOL.out, HPUT, HV2, HO4.out, HB4.out⟩
          case measure => simp [intOf]; omega
        · have hno : ans = ([], 60) := by
            rw [HANS.out, if_neg]
            intro hall
            have : x ∈ list := by
              have h1 : x ∈ list.take (i + 1) := by rw [HTK.out]; exact List.mem_append_right _ (List.mem_singleton.2 rfl)
              exact List.mem_of_mem_take h1
            exact e1 (hall x this)
          have HPE := Lib.hid (HP.out (.slice none 0 0) _ wr hno (World.ownsRow_nil _ _ _ _) HB0.out)
          clear hno HP HANS
          by_cases e2 : x < 0
          · have d1 : decide (x < 0) = true := decide_eq_true e2
            clear e1
            go_wp2_with fail
            first | exact HPE.out | (go_ret2; exact HPE.out)
          · have d1 : decide (x < 0) = false := decide_eq_false e2
            have e3 : (n : Int) ≤ x := by omega
            have d2 : decide ((n : Int) ≤ x) = true := decide_eq_true e3
            clear e1
            go_wp2_with fail
            first | exact HPE.out | (go_ret2; exact HPE.out)
      · obtain rfl : i = m := by omega
        have d0 : decide ((i : Int) < (i : Int)) = false := decide_eq_false (by omega)
        have htl : list.take i = list := List.take_of_length_le (Nat.le_of_eq HLM.out)
        have hv := hval.out
        have ho2 := ho.out
        rw [htl] at hv ho2
        have hans2 : ans = (o, 0) := by rw [HANS.out, if_pos hv, ho2]
        have HPE := Lib.hid (HP.out _ (o, 0) wr hans2 (World.ownsRow.mono HO.out hz2') HB0.out)
        clear htl hv ho2 hans2 HP HANS ho hval
        go_wp2_with fail
        first | exact HPE.out | (go_ret2; exact HPE.out)
  · rw [if_neg h] at HC
    have HPE : Hid (ListPost w (putAns L list) (.returned (.tuple #[.slice none 0 0, .int .i64 80])) w) := Lib.hid (by
      rw [putAns, if_neg h]
      exact ⟨_, rfl, World.ownsRow_nil _ _ _ _, Below.refl _ _⟩)
    generalize ListPost w (putAns L list) = PO at *
    clear hL h
    go_enter Try.func34, Try.ntmps34
    go_wp2_with fail
    refine HC.out.mono ?_
    rintro e w ⟨rfl, rfl⟩
    go_wp2_with fail
    first | exact HPE.out | (go_ret2; exact HPE.out)

/-- Bits as a text and their number, and an error. -/
def BitsPost (w : World) (ans : List Nat × Nat) (e : Ending) (w' : World) : Prop := e = .returned (.tuple #[.agg #[.string ⟨(pack ans.1).toArray⟩, .int .i64 ans.1.length], .int .i64 ans.2]) ∧ Below w.heap.size w w'

theorem put_bits (L list : List Int) : Bit01 (putAns L list).1 := by
  unfold putAns
  split
  · split
    · exact bit01_putB _ _
    · intro b hb; cases hb
  · intro b hb; cases hb
theorem put_short (L list : List Int) (hm : list.length ≤ 2000) : (putAns L list).1.length ≤ 40000 := by
  unfold putAns
  split
  · rename_i h
    split
    · rename_i hv
      have key : ∀ (l : List Int), (∀ x ∈ l, 0 ≤ x ∧ x < (L.length : Int)) → (putB (nl L) l).length ≤ 20 * l.length := by
        intro l
        induction l with
        | nil => intro _; simp [putB]
        | cons x l ih =>
          intro hx
          have h1 := ih fun y hy => hx y (List.mem_cons_of_mem _ hy)
          have h2 := hx x (List.mem_cons_self ..)
          have h3 := ((fits_of h).one (i := x.toNat) (by rw [nl_length]; omega)).2
          have e : putB (nl L) (x :: l) = codeB (nl L) x.toNat ++ putB (nl L) l := by simp [putB]
          rw [e, List.length_append, codeB_length, List.length_cons]
          omega
      have := key list hv
      show (putB (nl L) list).length ≤ 40000
      omega
    · exact Nat.zero_le _
  · exact Nat.zero_le _
theorem put_wrong (L list : List Int) (h : (putAns L list).2 ≠ 0) : (putAns L list).1 = [] := by
  unfold putAns at h ⊢
  split
  · rename_i h1
    rw [if_pos h1] at h
    split
    · rename_i h2
      rw [if_pos h2] at h
      exact absurd rfl h
    · rfl
  · rfl
theorem put_code (L list : List Int) : (putAns L list).2 ≤ 80 := by
  unfold putAns
  split
  · split
    · exact Nat.zero_le _
    · show 60 ≤ 80; omega
  · exact Nat.le_refl _

set_option maxHeartbeats 1600000 in
set_option maxRecDepth 100000 in
theorem renc_any (w : World) (A B : Option Addr) (n c m d : Nat) (L list : List Int) (hL : ZIn w A n L) (hn : n ≤ maxLen) (hB : ZIn w B m list) (hmd : m ≤ d) (hm : m ≤ 2000) : Calls Try.prog 15 #[.slice A n c, .slice B m d] w (BitsPost w (putAns L list)) := by
  have hb1 : Below w.heap.size w (w.alloc (.cells #[.string ⟨#[]⟩, .int .i64 0] 32)) := (Below.refl _ _).alloc (Nat.le_refl _) _
  have hlow : ∀ (A : Option Addr) (n : Nat) (L : List Int), ZIn w A n L → ZIn (w.alloc (.cells #[.string ⟨#[]⟩, .int .i64 0] 32)) A n L := fun A n L h => h.below hb1
  have HPUT := Lib.hid (rput_any (w.alloc (.cells #[.string ⟨#[]⟩, .int .i64 0] 32)) A B n c m d L list (hlow _ _ _ hL) hn (hlow _ _ _ hB) hmd hm)
  have hbits := put_bits L list
  have hshort := put_short L list (by rw [hB.1]; exact hm)
  have hwrong := put_wrong L list
  have hcode := put_code L list
  have hk1 : Blk (w.alloc (.cells #[.string ⟨#[]⟩, .int .i64 0] 32)) w.heap.size 32 #[.string ⟨#[]⟩, .int .i64 0] := blk_new w 32 _
  have HK1 := Lib.hid hk1
  have HB1 := Lib.hid hb1
  clear hL hB hlow hk1 hb1
  generalize putAns L list = ans at *
  obtain ⟨bs, k⟩ := ans
  have HBITS := Lib.hid hbits
  have HWRONG := Lib.hid hwrong
  have hshort2 : bs.length ≤ 40000 := hshort
  have hcode2 : k ≤ 80 := hcode
  clear hbits hwrong hshort hcode
  go_enter Try.func15, Try.ntmps15
  go_wp2_with fail
  refine HPUT.out.mono ?_
  rintro e w1 ⟨v, rfl, hown, hb⟩
  have hk := (step_of_below hb).blk HK1.out List.not_mem_nil List.not_mem_nil
  have hbl : Below w.heap.size w w1 := HB1.out.trans (hb.mono (by simp))
  have HK := Lib.hid hk
  have HBL := Lib.hid hbl
  obtain ⟨A1, c1, rfl, _, _, _⟩ := own_slice hown
  have hi1 := ints_of_own hown
  dsimp only at hi1
  have HI1 := Lib.hid hi1
  clear hb hk hbl hown hi1
  dsimp only
  by_cases h0 : k = 0
  · subst h0
    have HTX := Lib.hid (text_any w1 A1 bs.length c1 bs HI1.out HBITS.out (by omega))
    obtain ⟨N, hN⟩ : ∃ N, N = bs.length := ⟨_, rfl⟩
    rw [← hN] at HTX ⊢
    have HN := Lib.hid hN
    clear hN
    go_wp2_with fail
    refine HTX.out.mono ?_
    rintro e w2 ⟨rfl, hb2⟩
    have hk2 := (step_of_below hb2).blk HK.out List.not_mem_nil List.not_mem_nil
    have hbl2 : Below w.heap.size w w2 := HBL.out.trans (hb2.mono HBL.out.size)
    have q0 : w2.cell? ⟨w.heap.size, 0, none⟩ = some (.string ⟨#[]⟩) := blk_cell hk2 0
    have q1 : w2.cell? ⟨w.heap.size, 1, none⟩ = some (.int .i64 0) := blk_cell hk2 1
    have f0 := blk_frozen hk2 0
    have f1 := blk_frozen hk2 1
    have HB2 := Lib.hid hbl2
    clear hb2 hk2 hbl2
    go_wp2_with fail
    refine bodyPost_ret (v := .tuple #[.agg #[.string ⟨(pack bs).toArray⟩, .int .i64 N], .int .i64 0]) ?_ rfl ?_
    · simp [results, Try.results15, go_sem, q0, q1]
    · rw [HN.out]
      exact ⟨rfl, (HB2.out.setCell (p := ⟨w.heap.size, 0, none⟩) (Nat.le_refl _) _).setCell (p := ⟨w.heap.size, 1, none⟩) (Nat.le_refl _) _⟩
  · have hnil : bs = [] := HWRONG.out h0
    subst hnil
    have d0 : ((k : Int) != 0) = true := by
      rw [bne_iff_ne]
      omega
    have q0 : w1.cell? ⟨w.heap.size, 0, none⟩ = some (.string ⟨#[]⟩) := blk_cell HK.out 0
    have q1 : w1.cell? ⟨w.heap.size, 1, none⟩ = some (.int .i64 0) := blk_cell HK.out 1
    have f0 := blk_frozen HK.out 0
    have f1 := blk_frozen HK.out 1
    go_wp2_with fail
    refine bodyPost_ret (v := .tuple #[.agg #[.string ⟨#[]⟩, .int .i64 0], .int .i64 k]) ?_ rfl ?_
    · simp [results, Try.results15, go_sem, q0, q1]
    · exact ⟨rfl, (HBL.out.setCell (p := ⟨w.heap.size, 0, none⟩) (Nat.le_refl _) _).setCell (p := ⟨w.heap.size, 1, none⟩) (Nat.le_refl _) _⟩

end Go.Proofs.Ytgnlpbnodijkgaa
