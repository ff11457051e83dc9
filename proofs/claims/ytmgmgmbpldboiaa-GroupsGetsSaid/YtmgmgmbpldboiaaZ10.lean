/- Un Uo Up Uq Ur Us Yx Ut Uu Uv Uw Ux: texts laid together, what is not used left out. -/
import Derived.Test.YtmgmgmbpldboiaaZ09
import Derived.Test.YtmgmgmbpldboiaaZ04
namespace Go.Proofs.Ytmgmgmbpldboiaa
open Go.RowKit

set_option maxRecDepth 100000 in
theorem bit_putPicks : ∀ (P o : List Nat), Bit01 (putPicks o P)
  | [], o => fun b hb => by simp [putPicks] at hb
  | x :: P, o => fun b hb => by
    rw [place_head] at hb
    rcases List.mem_append.1 hb with h | h
    · rw [List.eq_of_mem_replicate h]
      omega
    · rcases List.mem_cons.1 h with h | h
      · omega
      · exact bit_putPicks P _ b h
set_option maxRecDepth 100000 in
theorem short_putPicks (T : Nat) (hT : T ≤ 6) : ∀ (P o : List Nat), Low T o → (∀ x ∈ P, x < T) → (putPicks o P).length ≤ 6 * P.length
  | [], o, _, _ => by simp [putPicks]
  | x :: P, o, h, hx => by
    have h1 := (h.2 x (hx x (List.mem_cons_self ..))).1
    have h2 := short_putPicks T hT P _ (h.move (hx x (List.mem_cons_self ..))) fun y hy => hx y (List.mem_cons_of_mem _ hy)
    rw [place_head, List.length_append, List.length_replicate, List.length_cons, List.length_cons]
    omega
set_option maxRecDepth 100000 in
theorem short_shows : ∀ (T : List (List Int)), (∀ t ∈ T, DOk t) → ((T.map nl).flatMap showD).length ≤ 11000 * T.length
  | [], _ => by simp
  | t :: T, h => by
    have h1 := short_shows T fun x hx => h x (List.mem_cons_of_mem _ hx)
    have h2 := show_short t
    rw [show showAns t = (showD (nl t), 0) from if_pos (h t (List.mem_cons_self ..))] at h2
    dsimp only at h2
    rw [List.map_cons, List.flatMap_cons, List.length_append, List.length_cons]
    omega
theorem bitsG_bits (T : List (List Int)) (P : List Int) : Bit01 (bitsG T P).1 := by
  unfold bitsG
  split
  · refine Bit01.append (Bit01.append (Bit01.append (bit01_bitsN _ _) (bit01_bitsN _ _)) (bit_putPicks _ _)) fun b hb => ?_
    obtain ⟨l, _, hl⟩ := List.mem_flatMap.1 hb
    exact bit_showD l b hl
  · intro b hb
    cases hb
theorem bitsG_short (T : List (List Int)) (P : List Int) : (bitsG T P).1.length ≤ 300000 := by
  unfold bitsG
  split
  · rename_i hM
    have h1 := short_shows T fun t ht => lenOk_dOk (hM.2.2.2.2.1 t ht).2
    have h2 := short_putPicks T.length hM.2.1 (nl P) _ (low_six hM.2.1) fun x hx => by
      obtain ⟨y, hy, rfl⟩ := List.mem_map.1 hx
      have := hM.2.2.2.2.2.1 y hy
      omega
    have h3 := hM.2.1
    have h4 := hM.2.2.2.1
    rw [nl_length] at h2
    show (planB (T.map nl) (nl P)).length ≤ 300000
    unfold planB
    rw [List.length_append, List.length_append, List.length_append, bitsN_length, bitsN_length]
    omega
  · exact Nat.zero_le _
theorem bitsG_wrong (T : List (List Int)) (P : List Int) (h : (bitsG T P).2 ≠ 0) : (bitsG T P).1 = [] := by
  unfold bitsG at h ⊢
  split
  · rename_i hM
    rw [if_pos hM] at h
    exact absurd rfl h
  · rfl
theorem bitsG_code (T : List (List Int)) (P : List Int) : (bitsG T P).2 ≤ 110 := by
  unfold bitsG
  split
  · exact Nat.zero_le _
  · exact Nat.le_refl _

set_option maxHeartbeats 3200000 in
set_option maxRecDepth 100000 in
theorem rshowg_any (w : World) (v : Value) (T : List (List Int)) (P : List Int) (h : PlanIn w v T P) :
    Calls Try.prog 11 #[v] w (BitsPost w (bitsG T P)) := by
  obtain ⟨A, n, c, B, m, d, rfl, hpl⟩ : ∃ A n c B m d, v = .agg #[.slice A n c, .slice B m d] ∧ PlanIn w (.agg #[.slice A n c, .slice B m d]) T P := by
    obtain ⟨A, n, c, B, m, d, hv, hr⟩ := id h
    exact ⟨A, n, c, B, m, d, hv, by rw [← hv]; exact h⟩
  clear h
  obtain ⟨w1, hw1⟩ : ∃ w1, w1 = w.alloc (.cells #[.slice A n c, .slice B m d] 32) := ⟨_, rfl⟩
  obtain ⟨w2, hw2⟩ : ∃ w2, w2 = w1.alloc (.cells #[.string ⟨#[]⟩, .int .i64 0] 35) := ⟨_, rfl⟩
  have hr1 : Blk w1 w.heap.size 32 #[.slice A n c, .slice B m d] := by rw [hw1]; exact blk_new w _ _
  have hr2 : Blk w2 w1.heap.size 35 #[.string ⟨#[]⟩, .int .i64 0] := by rw [hw2]; exact blk_new w1 _ _
  have hsz : w1.heap.size = w.heap.size + 1 := by rw [hw1]; simp
  rw [hsz] at hr2
  have hb1 : Below w.heap.size w w1 := by rw [hw1]; exact (Below.refl _ _).alloc (Nat.le_refl _) _
  have hb12 : Below w1.heap.size w1 w2 := by rw [hw2]; exact (Below.refl _ _).alloc (Nat.le_refl _) _
  have hb2 : Below w.heap.size w w2 := hb1.trans (hb12.mono hb1.size)
  have q0 : w2.cell? ⟨w.heap.size, 0, none⟩ = some (.slice A n c) := (hb12.cell (p := ⟨w.heap.size, 0, none⟩) (blk_lt hr1)).trans ((blk_cell hr1 0).trans rfl)
  have q1 : w2.cell? ⟨w.heap.size, 1, none⟩ = some (.slice B m d) := (hb12.cell (p := ⟨w.heap.size, 1, none⟩) (blk_lt hr1)).trans ((blk_cell hr1 1).trans rfl)
  have HCALL := Lib.hid (rbitsg_any w2 _ T P (hpl.below hb2))
  have HBITS := Lib.hid (bitsG_bits T P)
  have hshort := bitsG_short T P
  have HWRONG := Lib.hid (bitsG_wrong T P)
  have hcode := bitsG_code T P
  have HK1 := Lib.hid hr2
  have HB1 := Lib.hid hb2
  generalize bitsG T P = ans at *
  obtain ⟨bs, k⟩ := ans
  have hshort2 : bs.length ≤ 300000 := hshort
  have hcode2 : k ≤ 110 := hcode
  rw [hw1] at hw2
  clear hpl hr1 hr2 hb1 hb12 hb2 hw1 hshort hcode hsz
  rw [hw2] at q0 q1
  go_enter Try.func11, Try.ntmps11
  go_wp2_with fail
  rw [← hw2]
  clear q0 q1 hw2
  refine HCALL.out.mono ?_
  rintro e w3 ⟨v, rfl, hown, hb⟩
  have hk := (step_of_below hb).blk HK1.out List.not_mem_nil List.not_mem_nil
  have hbl : Below w.heap.size w w3 := HB1.out.trans (hb.mono HB1.out.size)
  have HK := Lib.hid hk
  have HBL := Lib.hid hbl
  obtain ⟨A1, c1, rfl, _, _, _⟩ := own_slice hown
  have hi1 := ints_of_own hown
  dsimp only at hi1
  have HI1 := Lib.hid hi1
  clear hb hk hbl hown hi1
  dsimp only
  by_cases h0 : k = 0
  · subst h0
    have HTX := Lib.hid (text_any w3 A1 bs.length c1 bs HI1.out HBITS.out (by omega))
    obtain ⟨N, hN⟩ : ∃ N, N = bs.length := ⟨_, rfl⟩
    rw [← hN] at HTX ⊢
    have HN := Lib.hid hN
    clear hN
    go_wp2_with fail
    refine HTX.out.mono ?_
    rintro e w4 ⟨rfl, hb2⟩
    have hk2 := (step_of_below hb2).blk HK.out List.not_mem_nil List.not_mem_nil
    have hbl2 : Below w.heap.size w w4 := HBL.out.trans (hb2.mono HBL.out.size)
    have q0 : w4.cell? ⟨w.heap.size + 1, 0, none⟩ = some (.string ⟨#[]⟩) := blk_cell hk2 0
    have q1 : w4.cell? ⟨w.heap.size + 1, 1, none⟩ = some (.int .i64 0) := blk_cell hk2 1
    have f0 := blk_frozen hk2 0
    have f1 := blk_frozen hk2 1
    have HB2 := Lib.hid hbl2
    clear hb2 hk2 hbl2
    go_wp2_with fail
    refine bodyPost_ret (v := .tuple #[.agg #[.string ⟨(pack bs).toArray⟩, .int .i64 N], .int .i64 0]) ?_ rfl ?_
    · simp [results, Try.results11, go_sem, q0, q1]
    · rw [HN.out]
      exact ⟨rfl, (HB2.out.setCell (p := ⟨w.heap.size + 1, 0, none⟩) (Nat.le_succ _) _).setCell (p := ⟨w.heap.size + 1, 1, none⟩) (Nat.le_succ _) _⟩
  · have hnil : bs = [] := HWRONG.out h0
    subst hnil
    have d0 : ((k : Int) != 0) = true := by
      rw [bne_iff_ne]
      omega
    have q0 : w3.cell? ⟨w.heap.size + 1, 0, none⟩ = some (.string ⟨#[]⟩) := blk_cell HK.out 0
    have q1 : w3.cell? ⟨w.heap.size + 1, 1, none⟩ = some (.int .i64 0) := blk_cell HK.out 1
    have f0 := blk_frozen HK.out 0
    have f1 := blk_frozen HK.out 1
    go_wp2_with fail
    refine bodyPost_ret (v := .tuple #[.agg #[.string ⟨#[]⟩, .int .i64 0], .int .i64 k]) ?_ rfl ?_
    · simp [results, Try.results11, go_sem, q0, q1]
    · exact ⟨rfl, (HBL.out.setCell (p := ⟨w.heap.size + 1, 0, none⟩) (Nat.le_succ _) _).setCell (p := ⟨w.heap.size + 1, 1, none⟩) (Nat.le_succ _) _⟩
end Go.Proofs.Ytmgmgmbpldboiaa
namespace Go.Proofs.Ytmgmgmbpldboiaa
open Go.RowKit

end Go.Proofs.Ytmgmgmbpldboiaa
namespace Go.Proofs.Ytmgmgmbpldboiaa
open Go.RowKit

set_option maxRecDepth 100000 in
theorem infoTT : (Try.prog.info? 29).map (fun i => (i.zero, i.size, i.bytes)) = some (some (.slice none 0 0), 1, 24) := by kernel_rfl
set_option maxRecDepth 100000 in
theorem kinds_apart {w : World} {B B' k k' n n' : Nat} {e e' : TypeId} {v v' : Value} {xs xs' : List Value} (h : w.ownsRow B e k v n xs) (h' : w.ownsRow B' e' k' v' n' xs') (he : e ≠ e') : v.ownBlock = none ∨ v.ownBlock ≠ v'.ownBlock := by
  cases hv : v.ownBlock with
  | none => exact .inl rfl
  | some b =>
    refine .inr fun hb => ?_
    obtain ⟨c1, f1, e1⟩ := Lib.ownsRow_kind h b hv
    obtain ⟨c2, f2, e2⟩ := Lib.ownsRow_kind h' b hb.symm
    rw [e2] at e1
    simp at e1
    exact he e1.2.1.symm
theorem TabW.mono {w : World} {B B' g n : Nat} {C : Nat → List Nat} (h : TabW w B g n C) (hB : B' ≤ B) : TabW w B' g n C := by
  obtain ⟨F, h1, h2⟩ := h
  refine ⟨F, World.ownsRow.mono h1 hB, fun j hj => ?_⟩
  obtain ⟨A, k, a, b, c⟩ := h2 j hj
  exact ⟨A, k, a, b, World.ownsRow.mono c hB⟩
theorem TabW.low_kept {w w2 : World} {B g n : Nat} {C : Nat → List Nat} (h : TabW w B g n C) (hb : Below w.heap.size w w2) : TabW w2 B g n C := by
  obtain ⟨F, h1, h2⟩ := h
  refine ⟨F, row_low h1 hb, fun j hj => ?_⟩
  obtain ⟨A, k, a, b, c⟩ := h2 j hj
  exact ⟨A, k, a, b, row_low c hb⟩
theorem TabW.grown_row {w w2 : World} {B B' g n m : Nat} {C : Nat → List Nat} {v : Value} {xs : List Value} (h : TabW w B g n C) (hv : w.ownsRow B' 29 1 v m xs) (hg : w.grownBy w2 v.ownBlock) : TabW w2 B g n C := by
  obtain ⟨F, h1, h2⟩ := h
  refine ⟨F, World.ownsRow.kept h1 hg (kinds_apart h1 hv (by decide)), fun j hj => ?_⟩
  obtain ⟨A, k, a, b, c⟩ := h2 j hj
  exact ⟨A, k, a, b, World.ownsRow.kept c hg (kinds_apart c hv (by decide))⟩
theorem TabW.alloc' {w : World} {B g n : Nat} {C : Nat → List Nat} (h : TabW w B g n C) (o : Obj) : TabW (w.alloc o) B g n C := by
  obtain ⟨F, h1, h2⟩ := h
  refine ⟨F, h1.alloc _, fun j hj => ?_⟩
  obtain ⟨A, k, a, b, c⟩ := h2 j hj
  exact ⟨A, k, a, b, c.alloc _⟩

/-- Tables of one's own in a slice of one's own. -/
structure Tabs (w0 w : World) (v : Value) (q n : Nat) (G : Nat → Nat) (C : Nat → Nat → List Nat) : Prop where
  row : w.ownsRow w0.heap.size 29 1 v q ((List.range q).map fun t => .slice (some ⟨G t, 0, none⟩) n n)
  tab : ∀ t, t < q → TabW w w0.heap.size (G t) n (C t)
  below : Below w0.heap.size w0 w
theorem Tabs.nil (w0 w : World) (n : Nat) (G : Nat → Nat) (C : Nat → Nat → List Nat) (h : Below w0.heap.size w0 w) : Tabs w0 w (.slice none 0 0) 0 n G C :=
  ⟨World.ownsRow_nil _ _ _ _, fun _ ht => absurd ht (Nat.not_lt_zero _), h⟩
set_option maxRecDepth 100000 in
/-- One more table. -/
theorem Tabs.push {w0 w w1 : World} {A : Option Addr} {q cap n : Nat} {G : Nat → Nat} {C : Nat → Nat → List Nat} (h : Tabs w0 w (.slice A q cap) q n G C) {g : Nat} {D : Nat → List Nat} (ht : TabW w1 w.heap.size g n D) (hb : Below w.heap.size w w1) (hq : q ≤ 1000) (hD : C q = D) :
    ∃ A2 cap2 w2, (Builtin.append_ #[63, 63] 63 #[.slice A q cap, .slice (some ⟨w1.heap.size, 0, none⟩) 1 1]).run Try.prog (w1.alloc (.cells #[.slice (some ⟨g, 0, none⟩) n n] 29)) = .ok (.slice A2 (q + 1) cap2) w2 ∧
      Tabs w0 w2 (.slice A2 (q + 1) cap2) (q + 1) n (fun t => if t = q then g else G t) C := by
  obtain ⟨i2, h2, hi2⟩ := Option.map_eq_some_iff.1 infoTT
  simp only [Prod.mk.injEq] at hi2
  obtain ⟨hz0, hz1, hz2⟩ := hi2
  have hsz := h.below.size
  have hb01 := h.below.trans (hb.mono hsz)
  have hrow1 := row_low h.row hb
  have hsz1 := hb01.size
  obtain ⟨v2, w2, hr, ho, hg, _, _⟩ := run_append_own_at (P := Try.prog) (w1.alloc (.cells #[.slice (some ⟨g, 0, none⟩) n n] 29)) w0.heap.size 63 63 29 i2 (.slice none 0 0) 1 24 Try.underlying63 h2 hz0 hz1 hz2 rfl (by decide) _ _ _ (hrow1.alloc _) ⟨w1.heap.size, 0, none⟩ 1 1 [.slice (some ⟨g, 0, none⟩) n n] rfl (cell_one_new w1 _ _)
    (fun u hu => by rw [List.mem_singleton.1 hu]; rfl) (by unfold maxLen; omega) (by omega) (by simp; omega)
  obtain ⟨A2, cap2, rfl, _, _, _⟩ := own_slice ho
  refine ⟨A2, cap2, w2, hr, ?_, fun t ht2 => ?_, ?_⟩
  · have h3 := ho
    rw [show ((List.range q).map fun t => Value.slice (some ⟨G t, 0, none⟩) n n) ++ [.slice (some ⟨g, 0, none⟩) n n] = (List.range (q + 1)).map fun t => .slice (some ⟨if t = q then g else G t, 0, none⟩) n n by
      rw [List.range_succ, List.map_append, List.map_singleton, if_pos rfl]
      congr 1
      apply List.map_congr_left
      intro t ht2
      have := List.mem_range.1 ht2
      rw [if_neg (by omega)]] at h3
    exact h3
  · have hrow2 := hrow1.alloc (.cells #[.slice (some ⟨g, 0, none⟩) n n] 29)
    by_cases e : t = q
    · subst e
      simp only [if_true]
      rw [hD]
      exact (((ht.mono hsz).alloc' _).grown_row hrow2 hg)
    · simp only [if_neg e]
      exact ((((h.tab t (by omega)).low_kept hb).alloc' _).grown_row hrow2 hg)
  · exact (hb01.alloc hsz1 _).grown hg (by simp; omega) (fun k hk => (hrow1.lt k hk).1)
/-- Tables that are read. -/
def TabsR (w : World) (v : Value) (q n : Nat) (C : Nat → Nat → List Nat) : Prop :=
  ∃ b c, v = .slice (some ⟨b, 0, none⟩) q c ∧ ∀ t, t < q → ∃ g, w.cell? ⟨b, t, none⟩ = some (.slice (some ⟨g, 0, none⟩) n n) ∧ TabR w g n (C t)
theorem Tabs.read {w0 w : World} {v : Value} {q n : Nat} {G : Nat → Nat} {C : Nat → Nat → List Nat} (h : Tabs w0 w v q n G C) (hq : 0 < q) : TabsR w v q n C := by
  obtain ⟨A, c, rfl, _, _, hA⟩ := own_slice h.row
  obtain ⟨b, rfl⟩ := hA hq
  refine ⟨b, c, rfl, fun t ht => ⟨G t, ?_, (h.tab t ht).read⟩⟩
  rw [World.ownsRow.cellAt h.row t (by omega), List.getElem?_map, List.getElem?_range ht]
  rfl
theorem TabsR.below {w w' : World} {v : Value} {q n : Nat} {C : Nat → Nat → List Nat} (h : TabsR w v q n C) (hb : Below w.heap.size w w') : TabsR w' v q n C := by
  obtain ⟨b, c, rfl, hc⟩ := h
  refine ⟨b, c, rfl, fun t ht => ?_⟩
  obtain ⟨g, h1, h2⟩ := hc t ht
  exact ⟨g, (hb.cell (p := ⟨b, t, none⟩) (World.block_lt_of_cell? w _ h1)).trans h1, h2.below hb⟩
end Go.Proofs.Ytmgmgmbpldboiaa
namespace Go.Proofs.Ytmgmgmbpldboiaa
open Go.RowKit

/-- Symbols may be told by a plan. -/
def FitG (T : List (List Int)) (P L : List Int) : Prop := MayPlan T P ∧ groupsN L.length ≤ P.length
instance (T : List (List Int)) (P L : List Int) : Decidable (FitG T P L) := inferInstanceAs (Decidable (_ ∧ _))
end Go.Proofs.Ytmgmgmbpldboiaa
namespace Go.Proofs.Ytmgmgmbpldboiaa
open Go.RowKit

end Go.Proofs.Ytmgmgmbpldboiaa
namespace Go.Proofs.Ytmgmgmbpldboiaa
open Go.RowKit

end Go.Proofs.Ytmgmgmbpldboiaa
namespace Go.Proofs.Ytmgmgmbpldboiaa
open Go.RowKit

end Go.Proofs.Ytmgmgmbpldboiaa
namespace Go.Proofs.Ytmgmgmbpldboiaa
open Go.RowKit

set_option maxRecDepth 100000 in
theorem zin_lit (w : World) (L : List Int) : ZIn (w.alloc (.cells (L.map fun (x : Int) => Value.int .i64 x).toArray 3)) (some ⟨w.heap.size, 0, none⟩) L.length L := by
  refine ⟨rfl, fun _ => ⟨w.heap.size, 0, rfl, fun i hi => ?_⟩⟩
  rw [Nat.zero_add, blk_cell (blk_new w 3 _)]
  simp [hi]
end Go.Proofs.Ytmgmgmbpldboiaa
namespace Go.Proofs.Ytmgmgmbpldboiaa
open Go.RowKit

end Go.Proofs.Ytmgmgmbpldboiaa
namespace Go.Proofs.Ytmgmgmbpldboiaa
open Go.RowKit

set_option maxRecDepth 100000 in
/-- A row's block is none of another type's. -/
theorem own_beside {w : World} {B e n p : Nat} {v : Value} {xs : List Value} {u : TypeId} {ds : Array Value} (h : w.ownsRow B e 1 v n xs) (k : Blk w p u ds) (hne : e ≠ u) : ∀ j, v.ownBlock = some j → j ∉ [p] := by
  intro j hj hm
  rw [List.mem_singleton] at hm
  subst hm
  obtain ⟨c1, f1, e1⟩ := Lib.ownsRow_kind h j hj
  unfold Blk at k
  rw [e1] at k
  simp only [Option.some.injEq, Obj.cells.injEq] at k
  exact hne k.2.1

/-- Lists of lengths of one's own in a slice of one's own. -/
structure Lens (w0 w : World) (v : Value) (q : Nat) (F : Nat → Value) (C : Nat → List Nat) : Prop where
  row : w.ownsRow w0.heap.size 30 1 v q ((List.range q).map F)
  each : ∀ t, t < q → (∃ A k, F t = .slice A (C t).length k ∧ (C t).length ≤ k) ∧ w.ownsRow w0.heap.size 3 1 (F t) (C t).length ((C t).map iv)
  below : Below w0.heap.size w0 w
theorem Lens.nil (w0 w : World) (F : Nat → Value) (C : Nat → List Nat) (h : Below w0.heap.size w0 w) : Lens w0 w (.slice none 0 0) 0 F C :=
  ⟨World.ownsRow_nil _ _ _ _, fun _ ht => absurd ht (Nat.not_lt_zero _), h⟩
set_option maxRecDepth 100000 in
/-- A store into another type's block. -/
theorem Lens.store {w0 w : World} {v : Value} {q : Nat} {F : Nat → Value} {C : Nat → List Nat} (h : Lens w0 w v q F C) {g : Nat} {u : TypeId} {ds : Array Value} (hg : Blk w g u ds) (h1 : (30 : TypeId) ≠ u) (h2 : (3 : TypeId) ≠ u) (hlo : w0.heap.size ≤ g) (i : Nat) (x : Value) : Lens w0 (w.setCell ⟨g, i, none⟩ x) v q F C := by
  have hs : Step w0.heap.size [g] [] w (w.setCell ⟨g, i, none⟩ x) := (Step.refl _ _ _ w).set (p := ⟨g, i, none⟩) hlo (by simp) x
  exact ⟨hs.row h.row (own_beside h.row hg h1) List.not_mem_nil, fun t ht => ⟨(h.each t ht).1, hs.row (h.each t ht).2 (own_beside (h.each t ht).2 hg h2) List.not_mem_nil⟩, h.below.setCell (p := ⟨g, i, none⟩) hlo x⟩
set_option maxRecDepth 100000 in
/-- One more list. -/
theorem Lens.push {w0 w w1 : World} {A : Option Addr} {q cap : Nat} {F : Nat → Value} {C : Nat → List Nat} (h : Lens w0 w (.slice A q cap) q F C) {A1 : Option Addr} {n k1 : Nat} (ht : w1.ownsRow w.heap.size 3 1 (.slice A1 n k1) n ((C q).map iv)) (hb : Below w.heap.size w w1) (hq : q ≤ 1000) (hD : (C q).length = n) :
    ∃ A2 cap2 w2, (Builtin.append_ #[29, 29] 29 #[.slice A q cap, .slice (some ⟨w1.heap.size, 0, none⟩) 1 1]).run Try.prog (w1.alloc (.cells #[.slice A1 n k1] 30)) = .ok (.slice A2 (q + 1) cap2) w2 ∧
      Lens w0 w2 (.slice A2 (q + 1) cap2) (q + 1) (fun t => if t = q then .slice A1 n k1 else F t) C ∧ ∀ (g : Nat) (u : TypeId) (ds : Array Value), Blk w1 g u ds → (30 : TypeId) ≠ u → Blk w2 g u ds := by
  obtain ⟨i2, h2, hi2⟩ := Option.map_eq_some_iff.1 infoSl
  simp only [Prod.mk.injEq] at hi2
  obtain ⟨hz0, hz1, hz2⟩ := hi2
  have hsz := h.below.size
  have hb01 := h.below.trans (hb.mono hsz)
  have hrow1 := row_low h.row hb
  have hsz1 := hb01.size
  obtain ⟨_, _, hvv, hcap, _, _⟩ := own_slice ht
  simp only [Value.slice.injEq] at hvv
  obtain ⟨rfl, _, rfl⟩ := hvv
  obtain ⟨v2, w2, hr, ho, hg, _, _⟩ := run_append_own_at (P := Try.prog) (w1.alloc (.cells #[.slice A1 n k1] 30)) w0.heap.size 29 29 30 i2 (.slice none 0 0) 1 24 Try.underlying29 h2 hz0 hz1 hz2 rfl (by decide) _ _ _ (hrow1.alloc _) ⟨w1.heap.size, 0, none⟩ 1 1 [.slice A1 n k1] rfl (cell_one_new w1 _ _)
    (fun u hu => by rw [List.mem_singleton.1 hu]; rfl) (by unfold maxLen; omega) (by omega) (by simp; omega)
  obtain ⟨A2, cap2, rfl, _, _, _⟩ := own_slice ho
  have hrow2 := hrow1.alloc (.cells #[.slice A1 n k1] 30)
  refine ⟨A2, cap2, w2, hr, ⟨?_, fun t ht2 => ?_, ?_⟩, fun g u ds hgb hne => ?_⟩
  · have h3 := ho
    rw [show ((List.range q).map F) ++ [.slice A1 n k1] = (List.range (q + 1)).map fun t => if t = q then .slice A1 n k1 else F t by
      rw [List.range_succ, List.map_append, List.map_singleton, if_pos rfl]
      congr 1
      apply List.map_congr_left
      intro t ht2
      have := List.mem_range.1 ht2
      rw [if_neg (by omega)]] at h3
    exact h3
  · by_cases e : t = q
    · subst e
      simp only [if_true]
      have hal := (World.ownsRow.mono ht hsz).alloc (.cells #[.slice A1 n k1] 30)
      rw [hD]
      exact ⟨⟨A1, k1, rfl, hcap⟩, World.ownsRow.kept hal hg (kinds_apart hal hrow2 (by decide))⟩
    · simp only [if_neg e]
      have hal := (row_low (h.each t (by omega)).2 hb).alloc (.cells #[.slice A1 n k1] 30)
      exact ⟨(h.each t (by omega)).1, World.ownsRow.kept hal hg (kinds_apart hal hrow2 (by decide))⟩
  · exact (hb01.alloc hsz1 _).grown hg (by simp; omega) (fun k hk => (hrow1.lt k hk).1)
  · have hlt : g < w1.heap.size := (Array.getElem?_eq_some_iff.1 hgb).1
    have hgb2 : Blk (w1.alloc (.cells #[.slice A1 n k1] 30)) g u ds := by
      unfold Blk
      rw [heap_alloc_old _ _ hlt]
      exact hgb
    have hne2 : ∀ j, (Value.slice A q cap).ownBlock = some j → j ≠ g := fun j hj e => own_beside hrow2 hgb2 hne j hj (by rw [e]; simp)
    unfold Blk at hgb2 ⊢
    rw [hg.block g (by simp; omega) (fun e => hne2 g e.symm rfl)]
    exact hgb2
end Go.Proofs.Ytmgmgmbpldboiaa
namespace Go.Proofs.Ytmgmgmbpldboiaa
open Go.RowKit

theorem Lens.same {w0 w : World} {v : Value} {q : Nat} {F : Nat → Value} {C D : Nat → List Nat} (h : Lens w0 w v q F C) (hs : ∀ t, t < q → C t = D t) : Lens w0 w v q F D :=
  ⟨h.row, fun t ht => by rw [← hs t ht]; exact h.each t ht, h.below⟩
end Go.Proofs.Ytmgmgmbpldboiaa
namespace Go.Proofs.Ytmgmgmbpldboiaa
open Go.RowKit

end Go.Proofs.Ytmgmgmbpldboiaa
