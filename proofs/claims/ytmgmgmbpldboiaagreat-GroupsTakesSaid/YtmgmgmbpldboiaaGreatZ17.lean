/- Us Yx Ut: texts laid together, what is not used left out. -/
import Derived.Test.YtmgmgmbpldboiaaGreatZ16
import Derived.Test.YtmgmgmbpldboiaaGreatZ05
namespace Go.Proofs.YtmgmgmbpldboiaaGreat
open Go.RowKit

theorem codesQ_bits (T : List (List Nat)) (P L : List Nat) (q : Nat) : Bit01 (codesQ T P L q) := fun b hb => by
  unfold codesQ at hb
  obtain ⟨i, _, hi⟩ := List.mem_flatMap.1 hb
  exact bit01_bitsN _ _ b hi
set_option maxRecDepth 100000 in
theorem codesQ_short (T : List (List Nat)) (P L : List Nat) (h : ∀ t ∈ T, ∀ x ∈ t, x ≤ 20) : ∀ q, (codesQ T P L q).length ≤ 20 * q
  | 0 => Nat.le_refl _
  | q + 1 => by
    have h1 := codesQ_short T P L h q
    have h2 : ((T.getD (P.getD (q / 50) 0) []).getD (L.getD q 0) 0) ≤ 20 := by
      rcases Nat.lt_or_ge (P.getD (q / 50) 0) T.length with h3 | h3
      · have h4 : T.getD (P.getD (q / 50) 0) [] ∈ T := by
          rw [List.getD_eq_getElem?_getD, List.getElem?_eq_getElem h3]
          exact List.getElem_mem h3
        rcases Nat.lt_or_ge (L.getD q 0) (T.getD (P.getD (q / 50) 0) []).length with h5 | h5
        · exact h _ h4 _ (nat_mem h5)
        · have h6 : (T.getD (P.getD (q / 50) 0) [])[L.getD q 0]? = none := List.getElem?_eq_none h5
          rw [List.getD_eq_getElem?_getD (l := T.getD (P.getD (q / 50) 0) []), h6]
          exact Nat.zero_le _
      · have h6 : T[P.getD (q / 50) 0]? = none := List.getElem?_eq_none h3
        rw [List.getD_eq_getElem?_getD (l := T), h6]
        exact Nat.zero_le _
    rw [codesQ_next, List.length_append, codeB_length]
    omega
theorem codesG_bits (T : List (List Int)) (P L : List Int) : Bit01 (codesG T P L).1 := by
  unfold codesG
  split
  · split
    · exact codesQ_bits _ _ _ _
    · intro b hb
      cases hb
  · intro b hb
    cases hb
theorem codesG_short (T : List (List Int)) (P L : List Int) (hL : L.length ≤ 2000000) : (codesG T P L).1.length ≤ 40000000 := by
  unfold codesG
  split
  · rename_i hM
    split
    · have := codesQ_short (T.map nl) (nl P) (nl L) (fun t ht x hx => by
        obtain ⟨t2, ht2, rfl⟩ := List.mem_map.1 ht
        exact (nl_in (lenOk_dOk (hM.1.2.2.2.2.1 t2 ht2).2) x hx).2) L.length
      show (codesQ (T.map nl) (nl P) (nl L) L.length).length ≤ 40000000
      omega
    · exact Nat.zero_le _
  · exact Nat.zero_le _
theorem codesG_wrong (T : List (List Int)) (P L : List Int) (h : (codesG T P L).2 ≠ 0) : (codesG T P L).1 = [] := by
  unfold codesG at h ⊢
  split
  · rename_i hM
    rw [if_pos hM] at h
    split
    · rename_i hx
      rw [if_pos hx] at h
      exact absurd rfl h
    · rfl
  · rfl
theorem codesG_code (T : List (List Int)) (P L : List Int) : (codesG T P L).2 ≤ 110 := by
  unfold codesG
  split
  · split
    · exact Nat.zero_le _
    · show 60 ≤ 110
      omega
  · exact Nat.le_refl _

set_option maxHeartbeats 3200000 in
set_option maxRecDepth 100000 in
theorem rputg_any (w : World) (v : Value) (T : List (List Int)) (P : List Int) (h : PlanIn w v T P) (A' : Option Addr) (n' c' : Nat) (L : List Int) (hL : ZIn w A' n' L) (hn' : n' ≤ 2000000) :
    Calls Tryz.prog 23 #[v, .slice A' n' c'] w (BitsPost w (codesG T P L)) := by
  obtain ⟨A, n, c, B, m, d, rfl, hpl⟩ : ∃ A n c B m d, v = .agg #[.slice A n c, .slice B m d] ∧ PlanIn w (.agg #[.slice A n c, .slice B m d]) T P := by
    obtain ⟨A, n, c, B, m, d, hv, hr⟩ := id h
    exact ⟨A, n, c, B, m, d, hv, by rw [← hv]; exact h⟩
  clear h
  obtain ⟨w1, hw1⟩ : ∃ w1, w1 = w.alloc (.cells #[.slice A n c, .slice B m d] 26) := ⟨_, rfl⟩
  obtain ⟨w2, hw2⟩ : ∃ w2, w2 = w1.alloc (.cells #[.string ⟨#[]⟩, .int .i64 0] 43) := ⟨_, rfl⟩
  have hr1 : Blk w1 w.heap.size 26 #[.slice A n c, .slice B m d] := by rw [hw1]; exact blk_new w _ _
  have hr2 : Blk w2 w1.heap.size 43 #[.string ⟨#[]⟩, .int .i64 0] := by rw [hw2]; exact blk_new w1 _ _
  have hsz : w1.heap.size = w.heap.size + 1 := by rw [hw1]; simp
  rw [hsz] at hr2
  have hb1 : Below w.heap.size w w1 := by rw [hw1]; exact (Below.refl _ _).alloc (Nat.le_refl _) _
  have hb12 : Below w1.heap.size w1 w2 := by rw [hw2]; exact (Below.refl _ _).alloc (Nat.le_refl _) _
  have hb2 : Below w.heap.size w w2 := hb1.trans (hb12.mono hb1.size)
  have q0 : w2.cell? ⟨w.heap.size, 0, none⟩ = some (.slice A n c) := (hb12.cell (p := ⟨w.heap.size, 0, none⟩) (blk_lt hr1)).trans ((blk_cell hr1 0).trans rfl)
  have q1 : w2.cell? ⟨w.heap.size, 1, none⟩ = some (.slice B m d) := (hb12.cell (p := ⟨w.heap.size, 1, none⟩) (blk_lt hr1)).trans ((blk_cell hr1 1).trans rfl)
  have HCALL := Lib.hid (rcodes_any w2 _ T P (hpl.below hb2) A' n' c' L (hL.below hb2) hn')
  have HBITS := Lib.hid (codesG_bits T P L)
  have hshort := codesG_short T P L (by rw [hL.1]; exact hn')
  have HWRONG := Lib.hid (codesG_wrong T P L)
  have hcode := codesG_code T P L
  have HK1 := Lib.hid hr2
  have HB1 := Lib.hid hb2
  generalize codesG T P L = ans at *
  obtain ⟨bs, k⟩ := ans
  have hshort2 : bs.length ≤ 40000000 := hshort
  have hcode2 : k ≤ 110 := hcode
  rw [hw1] at hw2
  clear hL hpl hr1 hr2 hb1 hb12 hb2 hw1 hshort hcode hsz
  rw [hw2] at q0 q1
  go_enter Tryz.func23, Tryz.ntmps23
  go_wp2_with fail
  rw [← hw2]
  clear q0 q1 hw2
  refine HCALL.out.mono ?_
  rintro e w3 ⟨v, rfl, hown, hb⟩
  have hk := (step_of_below hb).blk HK1.out List.not_mem_nil List.not_mem_nil
  have hbl : Below w.heap.size w w3 := HB1.out.trans (hb.mono HB1.out.size)
  have HK := Lib.hid hk
  have HBL := Lib.hid hbl
  obtain ⟨A1, c1, rfl, _, _, _⟩ := own_slice hown
  have hi1 := ints_of_own hown
  dsimp only at hi1
  have HI1 := Lib.hid hi1
  clear hb hk hbl hown hi1
  dsimp only
  by_cases h0 : k = 0
  · subst h0
    have HTX := Lib.hid (text_any w3 A1 bs.length c1 bs HI1.out HBITS.out (by omega))
    obtain ⟨N, hN⟩ : ∃ N, N = bs.length := ⟨_, rfl⟩
    rw [← hN] at HTX ⊢
    have HN := Lib.hid hN
    clear hN
    go_wp2_with fail
    refine HTX.out.mono ?_
    rintro e w4 ⟨rfl, hb2⟩
    have hk2 := (step_of_below hb2).blk HK.out List.not_mem_nil List.not_mem_nil
    have hbl2 : Below w.heap.size w w4 := HBL.out.trans (hb2.mono HBL.out.size)
    have q0 : w4.cell? ⟨w.heap.size + 1, 0, none⟩ = some (.string ⟨#[]⟩) := blk_cell hk2 0
    have q1 : w4.cell? ⟨w.heap.size + 1, 1, none⟩ = some (.int .i64 0) := blk_cell hk2 1
    have f0 := blk_frozen hk2 0
    have f1 := blk_frozen hk2 1
    have HB2 := Lib.hid hbl2
    clear hb2 hk2 hbl2
    go_wp2_with fail
    refine bodyPost_ret (v := .tuple #[.agg #[.string ⟨(pack bs).toArray⟩, .int .i64 N], .int .i64 0]) ?_ rfl ?_
    · simp [results, Tryz.results23, go_sem, q0, q1]
    · rw [HN.out]
      exact ⟨rfl, (HB2.out.setCell (p := ⟨w.heap.size + 1, 0, none⟩) (Nat.le_succ _) _).setCell (p := ⟨w.heap.size + 1, 1, none⟩) (Nat.le_succ _) _⟩
  · have hnil : bs = [] := HWRONG.out h0
    subst hnil
    have d0 : ((k : Int) != 0) = true := by
      rw [bne_iff_ne]
      omega
    have q0 : w3.cell? ⟨w.heap.size + 1, 0, none⟩ = some (.string ⟨#[]⟩) := blk_cell HK.out 0
    have q1 : w3.cell? ⟨w.heap.size + 1, 1, none⟩ = some (.int .i64 0) := blk_cell HK.out 1
    have f0 := blk_frozen HK.out 0
    have f1 := blk_frozen HK.out 1
    go_wp2_with fail
    refine bodyPost_ret (v := .tuple #[.agg #[.string ⟨#[]⟩, .int .i64 0], .int .i64 k]) ?_ rfl ?_
    · simp [results, Tryz.results23, go_sem, q0, q1]
    · exact ⟨rfl, (HBL.out.setCell (p := ⟨w.heap.size + 1, 0, none⟩) (Nat.le_succ _) _).setCell (p := ⟨w.heap.size + 1, 1, none⟩) (Nat.le_succ _) _⟩
/-- What Size answers. -/
def sizeG (T : List (List Int)) (P L : List Int) : Nat × Nat := if (codesG T P L).2 = 0 then ((bitsG T P).1.length + (codesG T P L).1.length, 0) else (0, (codesG T P L).2)

set_option maxHeartbeats 3200000 in
set_option maxRecDepth 100000 in
theorem rsize_any (w : World) (v : Value) (T : List (List Int)) (P : List Int) (h : PlanIn w v T P) (A' : Option Addr) (n' c' : Nat) (L : List Int) (hL : ZIn w A' n' L) (hn' : n' ≤ 2000000) :
    Calls Tryz.prog 25 #[v, .slice A' n' c'] w fun e w' => e = .returned (.tuple #[.int .i64 (sizeG T P L).1, .int .i64 (sizeG T P L).2]) ∧ Below w.heap.size w w' := by
  obtain ⟨A, n, c, B, m, d, rfl, hpl⟩ : ∃ A n c B m d, v = .agg #[.slice A n c, .slice B m d] ∧ PlanIn w (.agg #[.slice A n c, .slice B m d]) T P := by
    obtain ⟨A, n, c, B, m, d, hv, hr⟩ := id h
    exact ⟨A, n, c, B, m, d, hv, by rw [← hv]; exact h⟩
  clear h
  obtain ⟨w1, hw1⟩ : ∃ w1, w1 = w.alloc (.cells #[.slice A n c, .slice B m d] 26) := ⟨_, rfl⟩
  have hr1 : Blk w1 w.heap.size 26 #[.slice A n c, .slice B m d] := by rw [hw1]; exact blk_new w _ _
  have hb1 : Below w.heap.size w w1 := by rw [hw1]; exact (Below.refl _ _).alloc (Nat.le_refl _) _
  have hz1 : w.heap.size < w1.heap.size := blk_lt hr1
  have q0 : w1.cell? ⟨w.heap.size, 0, none⟩ = some (.slice A n c) := (blk_cell hr1 0).trans rfl
  have q1 : w1.cell? ⟨w.heap.size, 1, none⟩ = some (.slice B m d) := (blk_cell hr1 1).trans rfl
  have HQ : Hid (∀ wx, Below w1.heap.size w1 wx → wx.cell? ⟨w.heap.size, 0, none⟩ = some (.slice A n c) ∧ wx.cell? ⟨w.heap.size, 1, none⟩ = some (.slice B m d)) := Lib.hid fun wx h =>
    ⟨(h.cell (p := ⟨w.heap.size, 0, none⟩) hz1).trans q0, (h.cell (p := ⟨w.heap.size, 1, none⟩) hz1).trans q1⟩
  have HCO := Lib.hid (rcodes_any w1 _ T P (hpl.below hb1) A' n' c' L (hL.below hb1) hn')
  have HBI := Lib.hid fun (wx : World) (hb : Below w1.heap.size w1 wx) => rbitsg_any wx _ T P ((hpl.below hb1).below hb)
  have hshort := codesG_short T P L (by rw [hL.1]; exact hn')
  have hshort2 := bitsG_short T P
  have hcode := codesG_code T P L
  have hdef : sizeG T P L = if (codesG T P L).2 = 0 then ((bitsG T P).1.length + (codesG T P L).1.length, 0) else (0, (codesG T P L).2) := rfl
  have HB1 := Lib.hid hb1
  generalize sizeG T P L = ans at *
  generalize codesG T P L = cs at *
  generalize bitsG T P = bs at *
  obtain ⟨cl, ck⟩ := cs
  obtain ⟨bl, bk⟩ := bs
  dsimp only at hshort hshort2 hcode hdef
  obtain ⟨N, hN⟩ : ∃ N, N = cl.length := ⟨_, rfl⟩
  obtain ⟨K, hK⟩ : ∃ K, K = bl.length := ⟨_, rfl⟩
  rw [← hN] at hshort hdef
  rw [← hK] at hshort2 hdef
  have HN := Lib.hid hN
  have HK := Lib.hid hK
  rw [hw1] at q0 q1
  clear hpl hL hr1 hb1 hN hK
  by_cases h0 : ck = 0
  · subst h0
    rw [if_pos rfl] at hdef
    have HANS := Lib.hid hdef
    clear hdef
    go_enter Tryz.func25, Tryz.ntmps25
    go_wp2_with fail
    rw [← hw1]
    clear q0 q1 hw1
    refine HCO.out.mono ?_
    rintro e w3 ⟨v3, rfl, ho3, hb3⟩
    dsimp only at ho3 ⊢
    rw [← HN.out] at ho3
    obtain ⟨A3, c3, rfl, _, _, _⟩ := own_slice ho3
    obtain ⟨p0, p1⟩ := HQ.out _ hb3
    have HBI3 := Lib.hid (HBI.out _ hb3)
    have HB3 := Lib.hid hb3
    clear ho3 hb3 HBI HCO
    go_wp2_with fail
    refine HBI3.out.mono ?_
    rintro e w4 ⟨v4, rfl, ho4, hb4⟩
    dsimp only at ho4 ⊢
    rw [← HK.out] at ho4
    obtain ⟨A4, c4, rfl, _, _, _⟩ := own_slice ho4
    have HB4 := Lib.hid (HB1.out.trans ((HB3.out.trans (hb4.mono HB3.out.size)).mono HB1.out.size))
    clear ho4 hb4 HBI3
    go_wp2_with fail
    go_ret2
    exact ⟨by rw [HANS.out]; rfl, HB4.out⟩
  · have d0 : ((ck : Int) != 0) = true := by
      rw [bne_iff_ne]
      omega
    rw [if_neg h0] at hdef
    have HANS := Lib.hid hdef
    clear hdef h0
    go_enter Tryz.func25, Tryz.ntmps25
    go_wp2_with fail
    rw [← hw1]
    clear q0 q1 hw1
    refine HCO.out.mono ?_
    rintro e w3 ⟨v3, rfl, ho3, hb3⟩
    dsimp only at ho3 ⊢
    rw [← HN.out] at ho3
    obtain ⟨A3, c3, rfl, _, _, _⟩ := own_slice ho3
    have HB3 := Lib.hid (HB1.out.trans (hb3.mono HB1.out.size))
    clear ho3 hb3 HBI HCO
    go_wp2_with fail
    go_ret2
    exact ⟨by rw [HANS.out]; rfl, HB3.out⟩
end Go.Proofs.YtmgmgmbpldboiaaGreat
namespace Go.Proofs.YtmgmgmbpldboiaaGreat
open Go.RowKit

set_option maxRecDepth 100000 in
theorem sum_room : ∀ (l : List Nat) (x : Nat), (∀ y ∈ l, 1 ≤ y) → x ∈ l → x + (l.length - 1) ≤ l.sum
  | [], x, _, hx => absurd hx List.not_mem_nil
  | z :: l, x, h, hx => by
    have hl : ∀ l : List Nat, (∀ y ∈ l, 1 ≤ y) → l.length ≤ l.sum := by
      intro l
      induction l with
      | nil => intro _; exact Nat.le_refl _
      | cons a l ih =>
        intro h
        have := ih fun y hy => h y (List.mem_cons_of_mem _ hy)
        have := h a List.mem_cons_self
        rw [List.length_cons, List.sum_cons]
        omega
    rw [List.length_cons, List.sum_cons]
    rcases List.mem_cons.1 hx with rfl | hx
    · have := hl l fun y hy => h y (List.mem_cons_of_mem _ hy)
      omega
    · have h1 := sum_room l x (fun y hy => h y (List.mem_cons_of_mem _ hy)) hx
      have h2 := h z List.mem_cons_self
      have h3 : 0 < l.length := List.length_pos_of_mem hx
      omega
def intL (a : List Nat) : List Int := a.map fun (x : Nat) => (x : Int)
set_option maxRecDepth 100000 in
/-- Lengths that take all the room may be. -/
theorem len_full {n : Nat} {len : Nat → Nat} (h2 : 2 ≤ n) (hn : n ≤ 258) (hl : ∀ i, i < n → len i ≤ 20) (hs : ((List.range n).map fun i => 2 ^ (20 - len i)).sum = 2 ^ 20) : LenOk (intL ((List.range n).map len)) ∧ kraftL (intL ((List.range n).map len)) = 1048576 := by
  have hk : kraftL (intL ((List.range n).map len)) = 1048576 := by
    unfold kraftL intL
    rw [List.map_map, List.map_map]
    have e : (((fun x : Int => 2 ^ (20 - x.toNat)) ∘ fun (x : Nat) => (x : Int)) ∘ len) = fun i => 2 ^ (20 - len i) := by
      funext i
      show 2 ^ (20 - ((len i : Nat) : Int).toNat) = _
      rw [Int.toNat_natCast]
    rw [e, hs]
  have hlen : (intL ((List.range n).map len)).length = n := by simp [intL]
  refine ⟨⟨by rw [hlen]; exact h2, by rw [hlen]; exact hn, fun x hx => ?_, by rw [hk]; exact Nat.le_refl _⟩, hk⟩
  obtain ⟨y, hy, rfl⟩ := List.mem_map.1 hx
  obtain ⟨i, hi, rfl⟩ := List.mem_map.1 hy
  have hi := List.mem_range.1 hi
  have h20 := hl i hi
  have h1 : 1 ≤ len i := by
    rcases Nat.eq_zero_or_pos (len i) with h0 | h0
    · exfalso
      have hm : 2 ^ 20 ∈ (List.range n).map fun i => 2 ^ (20 - len i) := List.mem_map.2 ⟨i, List.mem_range.2 hi, by rw [h0]⟩
      have := sum_room _ _ (fun y hy => by
        obtain ⟨j, _, rfl⟩ := List.mem_map.1 hy
        exact Nat.one_le_two_pow) hm
      rw [hs, List.length_map, List.length_range] at this
      omega
    · exact h0
  omega

end Go.Proofs.YtmgmgmbpldboiaaGreat
namespace Go.Proofs.YtmgmgmbpldboiaaGreat
open Go.RowKit

theorem calls_some {P : Program} {f : FuncId} {args : Array Value} {w : World} {R : Ending → World → Prop} (h : Calls P f args w R) : ∃ e w', R e w' := by
  obtain ⟨e, w', _, hR, _⟩ := h []
  exact ⟨e, w', hR⟩
set_option maxRecDepth 100000 in
theorem zin_lit (w : World) (L : List Int) : ZIn (w.alloc (.cells (L.map fun (x : Int) => Value.int .i64 x).toArray 3)) (some ⟨w.heap.size, 0, none⟩) L.length L := by
  refine ⟨rfl, fun _ => ⟨w.heap.size, 0, rfl, fun i hi => ?_⟩⟩
  rw [Nat.zero_add, blk_cell (blk_new w 3 _)]
  simp [hi]
theorem zL_length (l : List Nat) : (zL l).length = l.length := List.length_map _
theorem oneW_length (W : List Nat) : (oneW W).length = W.length := List.length_map _
/-- What makes a table's lengths right. -/
def FullLen (l : List Nat) (n : Nat) : Prop := l.length = n ∧ LenOk (zL l) ∧ kraftL (zL l) = 1048576
set_option maxRecDepth 100000 in
theorem full_range {n : Nat} {len : Nat → Nat} (h2 : 2 ≤ n) (hn : n ≤ 258) (hl : ∀ i, i < n → len i ≤ 20) (hs : ((List.range n).map fun i => 2 ^ (20 - len i)).sum = 2 ^ 20) : FullLen ((List.range n).map len) n := by
  have h := len_full h2 hn hl hs
  exact ⟨by simp, h.1, h.2⟩
set_option maxRecDepth 100000 in
theorem make_full (w : World) (W : List Nat) (h2 : 2 ≤ W.length) (hn : W.length ≤ 258) (hx : ∀ x ∈ W, x ≤ 1073741824) : FullLen (makeG W) W.length := by
  have hM : MayW (zL W) := ⟨by rw [zL_length]; exact h2, by rw [zL_length]; exact hn, fun x hx' => by
    obtain ⟨y, hy, rfl⟩ := List.mem_map.1 hx'
    have := hx y hy
    exact ⟨by omega, by omega⟩⟩
  obtain ⟨e, w', hR⟩ := calls_some (make_any (w.alloc (.cells ((zL W).map fun (x : Int) => Value.int .i64 x).toArray 3)) (some ⟨w.heap.size, 0, none⟩) (zL W).length (zL W).length (zL W) 17 (zin_lit w (zL W)) hM (by omega) (by omega))
  rcases hR with ⟨hbad, _⟩ | ⟨_, _, _, v, len, hm, _⟩
  · rcases hbad with h | h | h
    · exact absurd hM h
    · omega
    · omega
  · have e1 : oneL (zL W) = oneW W := oneW_cast W
    rw [e1] at hm
    have hm17 : MakeR (oneW W) 17 len := hm
    have hg := makeR_good hm17
    rw [oneW_length] at hg
    have h := full_range h2 hn (fun i hi => by have := hg.1 i hi; omega) (hg.2 20 (by omega))
    unfold makeG
    rw [makeF_is hm17]
    exact h
set_option maxRecDepth 100000 in
theorem flat_full (W : List Nat) (h2 : 2 ≤ W.length) (hn : W.length ≤ 258) : FullLen (flatG W) W.length := by
  obtain ⟨k, hk⟩ : ∃ k, k = Nat.log2 W.length := ⟨_, rfl⟩
  have h1 : 2 ^ k ≤ W.length := by
    rw [hk]
    exact Nat.log2_self_le (by omega)
  have h3 : W.length < 2 ^ (k + 1) := by
    rw [hk]
    exact Nat.lt_log2_self
  have hk8 : k ≤ 8 := by
    rcases Nat.lt_or_ge 8 k with h | h
    · have h4 : 2 ^ 9 ≤ 2 ^ k := Nat.pow_le_pow_right (by decide) h
      have h5 : (2 : Nat) ^ 9 = 512 := by decide
      omega
    · exact h
  have hs := flat_whole (oneW W) k (by rw [oneW_length]; exact h1) (by rw [oneW_length]; exact h3) 20 (by omega)
  rw [oneW_length] at hs
  have h := full_range h2 hn (fun i _ => by unfold flatLen; split <;> omega) hs
  unfold flatG
  rw [← hk]
  exact h
set_option maxRecDepth 100000 in
theorem countsG_length (L P : List Nat) (t n : Nat) : (countsG L P t n).length = n := by simp [countsG]
theorem countsG_le (L P : List Nat) (t n : Nat) : ∀ x ∈ countsG L P t n, x ≤ L.length := by
  intro x hx
  obtain ⟨s, _, rfl⟩ := List.mem_map.1 hx
  exact countQ_le L P t s L.length
set_option maxRecDepth 100000 in
theorem roundsG_length (L : List Nat) (n T : Nat) : ∀ r, (roundsG L n T r).1.length = T
  | 0 => by simp [roundsG, startG]
  | r + 1 => by simp [roundsG, tablesG]

/-- A plan that may be, for a list, and takes all the room. -/
def GoodPlan (T : List (List Int)) (P L : List Int) (m : Int) : Prop := MayPlan T P ∧ P.length = groupsN L.length ∧ ∀ t ∈ T, (t.length : Int) = m ∧ LenOk t ∧ kraftL t = 1048576
theorem groups_some {n : Nat} (h : 1 ≤ n) (h2 : n ≤ 1638350) : 1 ≤ groupsN n ∧ groupsN n ≤ 32767 := by
  unfold groupsN
  omega
theorem good_of {T : List (List Int)} {P L : List Int} {m : Int} (hM : MayG L m) (h2 : 2 ≤ T.length) (h6 : T.length ≤ 6) (hP : P.length = groupsN L.length) (hx : ∀ x ∈ P, 0 ≤ x ∧ x < (T.length : Int)) (ht : ∀ t ∈ T, (t.length : Int) = m ∧ LenOk t ∧ kraftL t = 1048576) : GoodPlan T P L m := by
  have hg := groups_some hM.2.2.1 hM.2.2.2.1
  have h0 : (T.getD 0 []) ∈ T := list_at (by omega)
  have hm := (ht _ h0).1
  have h3 := hM.1
  exact ⟨⟨h2, h6, by omega, by omega, fun t h => ⟨by have := (ht t h).1; omega, (ht t h).2.1⟩, hx, by omega⟩, hP, ht⟩
theorem zL_full {l : List Nat} {m : Int} {n : Nat} (h : FullLen l n) (hm : (n : Int) = m) : ((zL l).length : Int) = m ∧ LenOk (zL l) ∧ kraftL (zL l) = 1048576 := ⟨by rw [zL_length, h.1]; exact hm, h.2.1, h.2.2⟩
theorem natL_length (L : List Int) : (natL L).length = L.length := List.length_map _
set_option maxRecDepth 100000 in
theorem good_choose (w : World) {L : List Int} {m : Int} (hM : MayG L m) : GoodPlan (chooseAns L m).1 (chooseAns L m).2.1 L m := by
  have hT := tablesN_six L.length
  have hm : ((m.toNat : Nat) : Int) = m := Int.toNat_of_nonneg (by have := hM.1; omega)
  have h3 := hM.1
  have h258 := hM.2.1
  have hlen := hM.2.2.2.1
  rw [chooseAns, if_pos hM]
  refine good_of hM ?_ ?_ ?_ ?_ ?_
  · rw [List.length_map, roundsG_length]
    exact hT.1
  · rw [List.length_map, roundsG_length]
    exact hT.2
  · rw [zL_length]
    show (picksG (natL L) _).length = _
    simp [picksG, natL_length]
  · intro x hx
    obtain ⟨y, hy, rfl⟩ := List.mem_map.1 hx
    have hy2 : y ∈ picksG (natL L) (roundsG (natL L) m.toNat (tablesN L.length) 3).1 := hy
    obtain ⟨k, _, rfl⟩ := List.mem_map.1 hy2
    have := (pickG_is (roundsG (natL L) m.toNat (tablesN L.length) 3).1 (partG (natL L) k) (by rw [roundsG_length]; omega)).1
    rw [roundsG_length] at this
    rw [List.length_map, roundsG_length]
    exact ⟨by omega, by omega⟩
  · intro t ht
    obtain ⟨l, hl, rfl⟩ := List.mem_map.1 ht
    have hl2 : l ∈ tablesG (natL L) (picksG (natL L) (roundsG (natL L) m.toNat (tablesN L.length) 3).1) m.toNat (tablesN L.length) := hl
    obtain ⟨t, _, rfl⟩ := List.mem_map.1 hl2
    have h := make_full w (countsG (natL L) (picksG (natL L) (roundsG (natL L) m.toNat (tablesN L.length) 3).1) t m.toNat) (by rw [countsG_length]; omega) (by rw [countsG_length]; omega) (fun x hx => by
      have := countsG_le _ _ _ _ x hx
      rw [natL_length] at this
      omega)
    rw [countsG_length] at h
    exact zL_full h hm
set_option maxRecDepth 100000 in
theorem good_flat {L : List Int} {m : Int} (hM : MayG L m) : GoodPlan (flatAns L m).1 (flatAns L m).2.1 L m := by
  have hm : ((m.toNat : Nat) : Int) = m := Int.toNat_of_nonneg (by have := hM.1; omega)
  have h3 := hM.1
  have h258 := hM.2.1
  have hf : FullLen (flatPl (natL L) m.toNat) m.toNat := by
    have h := flat_full (countsG (natL L) (List.replicate (groupsN (natL L).length) 0) 0 m.toNat) (by rw [countsG_length]; omega) (by rw [countsG_length]; omega)
    rw [countsG_length] at h
    exact h
  rw [flatAns, if_pos hM]
  refine good_of hM (Nat.le_refl 2) (by show 2 ≤ 6; omega) ?_ ?_ ?_
  · rw [zL_length, List.length_replicate]
  · intro x hx
    obtain ⟨y, hy, rfl⟩ := List.mem_map.1 hx
    rw [(List.mem_replicate.1 hy).2]
    exact ⟨by omega, by show ((0 : Nat) : Int) < 2; omega⟩
  · intro t ht
    have e : t = zL (flatPl (natL L) m.toNat) := by
      rcases List.mem_cons.1 ht with h | h
      · exact h
      · exact List.mem_singleton.1 h
    rw [e]
    exact zL_full hf hm
theorem good_codes {T : List (List Int)} {P L : List Int} {m : Int} (h : GoodPlan T P L m) (hM : MayG L m) : codesG T P L = (codesQ (T.map nl) (nl P) (nl L) L.length, 0) := by
  have hT := h.1.1
  have h0 : (T.getD 0 []) ∈ T := list_at (by omega)
  have hm := (h.2.2 _ h0).1
  rw [codesG, if_pos ⟨h.1, by rw [h.2.1]; exact Nat.le_refl _⟩, if_pos (fun x hx => by
    have := hM.2.2.2.2 x hx
    exact ⟨this.1, by omega⟩)]

set_option maxRecDepth 100000 in
/-- A plan that reads no block that holds two empty slices. -/
theorem PlanIn.past {w w' : World} {v : Value} {T : List (List Int)} {P : List Int} (h : PlanIn w v T P) (hT : ∀ t ∈ T, 0 < t.length) {g : Nat} {u : TypeId} (hg : Blk w g u #[.slice none 0 0, .slice none 0 0])
    (hk : ∀ k, k ≠ g → w'.heap[k]? = w.heap[k]?) : PlanIn w' v T P := by
  have hcell : ∀ b o, b ≠ g → w'.cell? ⟨b, o, none⟩ = w.cell? ⟨b, o, none⟩ := by
    intro b o hb
    simp only [World.cell?, hk b hb]
  have hnot : ∀ o x, w.cell? ⟨g, o, none⟩ = some x → x = .slice none 0 0 := by
    intro o x hx
    rw [blk_cell hg o] at hx
    rcases o with _ | _ | o
    · simpa using hx.symm
    · simpa using hx.symm
    · simp at hx
  have hz : ∀ (A : Option Addr) (n : Nat) (L : List Int), ZIn w A n L → ZIn w' A n L := by
    intro A n L hz
    refine ⟨hz.1, fun hn => ?_⟩
    obtain ⟨b, off, rfl, hc⟩ := hz.2 hn
    have hbg : b ≠ g := by
      rintro rfl
      have := hnot _ _ (hc 0 hn)
      cases this
    exact ⟨b, off, rfl, fun i hi => (hcell b _ hbg).trans (hc i hi)⟩
  obtain ⟨A, n, c, B, m, d, h0, h1, h2, h3, h4, h5, h6⟩ := h
  refine ⟨A, n, c, B, m, d, h0, ⟨h1.1, fun hn => ?_⟩, h2, h3, hz _ _ _ h4, h5, h6⟩
  obtain ⟨b, off, rfl, hc⟩ := h1.2 hn
  have hbg : b ≠ g := by
    rintro rfl
    obtain ⟨A2, c2, k1, _⟩ := hc 0 hn
    have h7 := hnot _ _ k1
    have h8 : T.getD 0 [] ∈ T := list_at (by rw [h1.1]; exact hn)
    have h9 := hT _ h8
    simp only [Value.slice.injEq] at h7
    omega
  refine ⟨b, off, rfl, fun i hi => ?_⟩
  obtain ⟨A2, c2, k1, k2, k3, k4⟩ := hc i hi
  exact ⟨A2, c2, (hcell b _ hbg).trans k1, hz _ _ _ k2, k3, k4⟩

end Go.Proofs.YtmgmgmbpldboiaaGreat
