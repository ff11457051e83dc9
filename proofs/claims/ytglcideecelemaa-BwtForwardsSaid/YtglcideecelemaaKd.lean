/- The closure that gives a group its place, and keeps it where it has more than one number. Conditions: at most a million numbers. -/
import Derived.Test.YtglcideecelemaaKc
namespace Go.Proofs.Ytglcideecelemaa
open Go.RowKit

/-- Groups as cells. -/
def gflat (L : List (Nat × Nat)) : List Value := L.flatMap fun g => [iv g.1, iv g.2]
theorem gflat_length (L : List (Nat × Nat)) : (gflat L).length = L.length * 2 := by
  induction L with
  | nil => rfl
  | cons g L ih =>
    show ([iv g.1, iv g.2] ++ gflat L).length = _
    rw [List.length_append, ih, List.length_cons]
    simp
    omega
theorem gflat_append (L K : List (Nat × Nat)) : gflat (L ++ K) = gflat L ++ gflat K := by simp [gflat]
theorem gflat_get (L : List (Nat × Nat)) : ∀ k, (h : k < L.length) → (gflat L)[2 * k]? = some (iv L[k].1) ∧ (gflat L)[2 * k + 1]? = some (iv L[k].2) := by
  induction L with
  | nil => intro k h; simp at h
  | cons g L ih =>
    intro k h
    have e : gflat (g :: L) = iv g.1 :: iv g.2 :: gflat L := rfl
    rw [e]
    cases k with
    | zero => exact ⟨rfl, rfl⟩
    | succ k =>
      have := ih k (by simpa using h)
      exact this

theorem Try.info51 : (Try.prog.info? 51).map (fun i => (i.zero, i.size, i.bytes)) = some (some (.agg #[.int .i64 0, .int .i64 0]), 2, 16) := by kernel_rfl

/-- An append to a row that may be written. -/
theorem Step.grownP {B : Nat} {ps : List Nat} {ts : List TypeId} {w w' w'' : World} (h : Step B ps ts w w') {row : Option Nat} (hg : w'.grownBy w'' row) (hB : B ≤ w'.heap.size) (hr : ∀ k, row = some k → B ≤ k ∧ k ∈ ps) : Step B ps ts w w'' :=
  ⟨h.below.grown hg hB (fun k hk => (hr k hk).1), fun i cs t fr hh hi ht => by
    have hk := h.keep i cs t fr hh hi ht
    rw [hg.block i (Array.getElem?_eq_some_iff.1 hk).1 (fun e => hi (hr i e.symm).2)]
    exact hk⟩
theorem blk_ne {w : World} {g k : Nat} {t u : TypeId} {cs ds : Array Value} (h : Blk w g t cs) (k' : Blk w k u ds) (hne : t ≠ u) : g ≠ k := by
  intro e
  subst e
  unfold Blk at h k'
  rw [h] at k'
  injection k' with k'
  injection k' with _ h2
  exact hne h2

/-- What the closure reaches: the order, the ranks that are made, the groups that are left. -/
structure GMem (w : World) (B a mb bo bm bl n co cm : Nat) (O M : List Nat) (lv : Value) (L : List (Nat × Nat)) : Prop where
  qo : Blk w bo 34 #[.slice (some ⟨a, 0, none⟩) n co]
  qm : Blk w bm 34 #[.slice (some ⟨mb, 0, none⟩) n cm]
  ql : Blk w bl 52 #[lv]
  rO : IRow w a O
  rM : IRow w mb M
  lO : O.length = n
  lM : M.length = n
  nco : n ≤ co
  ne : a ≠ mb
  left : w.ownsRow B 51 2 lv L.length (gflat L)
  hB : B ≤ mb ∧ B ≤ bl ∧ B ≤ w.heap.size

/-- The numbers in the places from f up to t have the place f; the others what they had. -/
def Given (O M M' : List Nat) (f t : Nat) : Prop := (∀ p, f ≤ p → p < t → M'.getD (O.getD p 0) 0 = f) ∧ ∀ i, (∀ p, f ≤ p → p < t → O.getD p 0 ≠ i) → M'.getD i 0 = M.getD i 0

theorem given_more {O M M1 : List Nat} {f k : Nat} (h : Given O M M1 f k) (hf : f ≤ k) (hk : O.getD k 0 < M1.length) : Given O M (M1.set (O.getD k 0) f) f (k + 1) := by
  refine ⟨fun p h1 h2 => ?_, fun i hi => ?_⟩
  · rw [getD_set _ _ _ _ hk]
    by_cases e : O.getD p 0 = O.getD k 0
    · rw [if_pos e]
    · rw [if_neg e]
      refine h.1 p h1 ?_
      rcases Nat.lt_or_ge p k with h3 | h3
      · exact h3
      · have : p = k := by omega
        exact absurd (by rw [this]) e
  · rw [getD_set _ _ _ _ hk, if_neg (fun e => hi k hf (by omega) e.symm)]
    exact h.2 i fun p h1 h2 => hi p h1 (by omega)

def lastOf (L : List (Nat × Nat)) (f t : Nat) : List (Nat × Nat) := if 1 < t - f then L ++ [(f, t)] else L

/-- What the closure leaves. -/
def GivePost (w : World) (B a mb bo bm bl n co cm f t : Nat) (O M : List Nat) (lv : Value) (L : List (Nat × Nat)) (e : Ending) (w' : World) : Prop :=
  ∃ M' lv', e = .returned (.tuple #[]) ∧ GMem w' B a mb bo bm bl n co cm O M' lv' (lastOf L f t) ∧ Given O M M' f t ∧
    (lv'.ownBlock = lv.ownBlock ∨ ∀ k, lv'.ownBlock = some k → w.heap.size ≤ k) ∧ Step B (mb :: bl :: lv.ownBlock.toList) [] w w'

set_option maxHeartbeats 4000000 in
set_option maxRecDepth 100000 in
theorem give_any (w : World) (B a mb bo bm bl n co cm f t : Nat) (O M : List Nat) (lv : Value) (L : List (Nat × Nat)) (h : GMem w B a mb bo bm bl n co cm O M lv L) (hO : ∀ p, p < n → O.getD p 0 < n)
    (hft : f < t) (htn : t ≤ n) (hn : n ≤ 1000000) (hL : L.length ≤ 1000000) :
    Calls Try.prog 28 #[.agg #[.int .i64 f, .int .i64 t], .pointer (some ⟨bo, 0, none⟩), .pointer (some ⟨bm, 0, none⟩), .pointer (some ⟨bl, 0, none⟩)] w (GivePost w B a mb bo bm bl n co cm f t O M lv L) := by
  have co0 := blk_cell h.qo 0
  have cm0 := blk_cell h.qm 0
  simp at co0 cm0
  have ho1 := blk_lt h.qo
  have ho2 := blk_lt h.qm
  have ho3 := blk_lt h.ql
  have hnco := h.nco
  have hcf : ¬ co = f := by omega
  have e1 : (f : Int) ≤ (t : Int) := by omega
  have e2 : (t : Int) ≤ (co : Int) := by omega
  have e3 : ((t : Int) - (f : Int)).toNat = t - f := by omega
  have e4 : ((co : Int) - (f : Int)).toNat = co - f := by omega
  have HM := Lib.hid h
  clear h
  go_enter Try.func28, Try.ntmps28
  go_wp2_with fail
  go_loopw [14] (fun x wr => ∃ (k : Nat) (M' : List Nat), f + k ≤ t ∧ x = .int .i64 k ∧ IRow wr mb M' ∧ M'.length = n ∧ Given O M M' f (f + k) ∧ Step B [mb] [] (w.alloc (.cells #[.int .i64 f, .int .i64 t] 51)) wr) (fun x _ => t - f - (intOf x).toNat)
  case atStart =>
    refine ⟨0, M, by omega, rfl, ?_, HM.out.lM, ⟨fun p h1 h2 => by omega, fun i _ => rfl⟩, Step.refl _ _ _ _⟩
    exact ((Step.refl w.heap.size [] [] w).alloc (Nat.le_refl _) _).irow HM.out.rM (by simp) (by simp)
  case round =>
    obtain ⟨k, M1, hk, rfl, hR, hl, hg, hst⟩ := hrel
    have hs0 : Step w.heap.size [] [] w (w.alloc (.cells #[.int .i64 f, .int .i64 t] 51)) := (Step.refl w.heap.size [] [] w).alloc (Nat.le_refl _) _
    have hne := HM.out.ne
    have hlm := HM.out.rM.lt
    have qm := hst.blk (hs0.blk HM.out.qm (by simp) (by simp)) (by simp; intro e; have := HM.out.qm; obtain ⟨cs, hb, _⟩ := HM.out.rM; rw [e] at this; unfold Blk at this hb; rw [this] at hb; cases hb) (by simp)
    have qa := hst.irow (hs0.irow HM.out.rO (by simp) (by simp)) (by simpa using hne) (by simp)
    have qb := hst.blk (blk_new w 51 #[.int .i64 f, .int .i64 t]) (by simp; omega) (by simp)
    have b0 := blk_cell qb 0
    have b1 := blk_cell qb 1
    have m0 := blk_cell qm 0
    simp at b0 b1 m0
    have HST := Lib.hid hst
    have HQM := Lib.hid qm
    clear hst qm qb
    by_cases hlt : f + k < t
    · have hv := hO (f + k) (by omega)
      have ha := qa.cell (i := f + k) (by rw [HM.out.lO]; omega)
      obtain ⟨v, hvv⟩ : ∃ v, v = O.getD (f + k) 0 := ⟨_, rfl⟩
      rw [← hvv] at ha hv
      have hc := hR.cell (i := v) (by omega)
      have hf := hR.frozen v
      have HG := Lib.hid (given_more hg (by omega) (by rw [← hvv]; omega))
      rw [← hvv] at HG
      have HR := Lib.hid (hR.set (i := v) (by omega) f)
      have HL := Lib.hid hl
      have HB := Lib.hid HM.out.hB
      clear hR hg hl qa hvv
      have d1 : decide ((k : Int) < ((t - f : Nat) : Int)) = true := decide_eq_true (by omega)
      go_wp2_with fail
      go_roundw
      case rel =>
        refine ⟨k + 1, M1.set v f, by omega, by go_num, HR.out, by rw [List.length_set]; exact HL.out, HG.out, HST.out.set HB.out.1 (by simp) _⟩
      case measure => simp [intOf]; omega
    · obtain rfl : t = f + k := by omega
      have d1 : decide ((k : Int) < ((f + k - f : Nat) : Int)) = false := decide_eq_false (by omega)
      obtain ⟨ms, hms, _⟩ := id hR
      have hbm : bl ≠ mb := by
        obtain ⟨cs, hb, _⟩ := HM.out.rM
        exact blk_ne HM.out.ql hb (by decide)
      have ql := HST.out.blk (hs0.blk HM.out.ql (by simp) (by simp)) (by simpa using hbm) (by simp)
      have hown := HST.out.row (hs0.row HM.out.left (by simp) (by simp)) (fun k hk => by
        obtain ⟨cs, hb, _⟩ := (hs0.irow HM.out.rM (by simp) (by simp))
        have := row_ne (hs0.row HM.out.left (by simp) (by simp)) hb (by decide) k hk
        simpa using this) (by simp)
      have c0 := blk_cell ql 0
      simp at c0
      have qo := HST.out.blk (hs0.blk HM.out.qo (by simp) (by simp)) (by
        obtain ⟨cs, hb, _⟩ := HM.out.rM
        simpa using blk_ne HM.out.qo hb (by decide)) (by simp)
      have hz := HST.out.size
      simp at hz
      have hBw := HM.out.hB
      by_cases h1 : 1 < f + k - f
      · have d2 : decide ((1 : Int) < ((f + k : Nat) : Int) - (f : Int)) = true := decide_eq_true (by omega)
        have d3 : decide ((1 : Int) < (f : Int) + (k : Int) - (f : Int)) = true := decide_eq_true (by omega)
        obtain ⟨i3, h3, hz0, hz1, hz2⟩ := info_parts Try.info51
        have HO := Lib.hid hown
        have HQL := Lib.hid ql
        have HG := Lib.hid hg
        have HR := Lib.hid hR
        clear hown ql hg hR hms
        go_wp2_with (at_builtin; refine wpList_append_own_at _ rfl _ _ 52 rfl B 51 i3 (.agg #[.int .i64 0, .int .i64 0]) 2 16 Try.underlying52 h3 hz0 hz1 hz2 rfl (by decide) lv L.length (gflat L) rfl (HO.out.alloc _) ⟨wr.heap.size, 0, none⟩ 1 1 [.int .i64 f, .int .i64 (f + k : Nat)] rfl rfl ?c1 ?c2 ?c3 ?c4 ?c5 ?_)
        case c1 => exact two_new _ _ _ _
        case c2 => intro u hu; simp at hu; rcases hu with rfl | rfl <;> rfl
        case c3 => unfold maxLen; omega
        case c4 => omega
        case c5 => simp; omega
        intro lv' w2 hown2 hgrow2 _ hat
        have hlv : ∀ j, lv.ownBlock = some j → B ≤ j ∧ j < wr.heap.size := HO.out.lt
        have hlbl : ∀ j, lv.ownBlock = some j → j ≠ bl := row_ne HO.out HQL.out (by decide)
        have hlmb : ∀ j, lv.ownBlock = some j → j ≠ mb := by
          obtain ⟨cs, hb, _⟩ := HR.out
          exact row_ne HO.out hb (by decide)
        have hbl2 : Blk w2 bl 52 #[lv] := by
          unfold Blk
          rw [hgrow2.block bl (by simp; omega) (fun e => hlbl bl e.symm rfl)]
          exact (Below.heap_alloc wr _ bl (by omega)).trans HQL.out
        have k0 := blk_cell hbl2 0
        have k1 := blk_frozen hbl2 0
        simp at k0
        have s2 : Step B (bl :: lv.ownBlock.toList) [] wr w2 := ((Step.refl B _ _ wr).alloc (by omega) _).grownP hgrow2 (by simp; omega) (fun j hj => ⟨(hlv j hj).1, by rw [hj]; simp⟩)
        obtain ⟨A2, c2, rfl, _, _, _⟩ := own_slice hown2
        have HAT := Lib.hid hat
        have HOW := Lib.hid hown2
        have HGR := Lib.hid hgrow2
        have HS2 := Lib.hid s2
        have HB2 := Lib.hid hbl2
        clear hat hown2 hgrow2 s2 hbl2
        go_wp2_with fail
        go_end0
        have s3 : Step B [bl] [] w2 (w2.setCell ⟨bl, 0, none⟩ (.slice A2 (L.length + 1) c2)) := (Step.refl B _ _ w2).set hBw.2.1 (by simp) _
        have s4 : Step B (bl :: lv.ownBlock.toList) [] wr (w2.setCell ⟨bl, 0, none⟩ (.slice A2 (L.length + 1) c2)) := HS2.out.trans (s3.mono (Nat.le_refl _) (by simp) (by simp))
        have hS : Step B (mb :: bl :: lv.ownBlock.toList) [] w (w2.setCell ⟨bl, 0, none⟩ (.slice A2 (L.length + 1) c2)) :=
          ((hs0.mono hBw.2.2 (by simp) (by simp)).trans (HST.out.mono (Nat.le_refl _) (by simp) (by simp))).trans (s4.mono (Nat.le_refl _) (fun j hj => List.mem_cons_of_mem _ hj) (by simp))
        have hL1 : lastOf L f (f + k) = L ++ [(f, f + k)] := if_pos h1
        have nin : ∀ (g : Nat) (tt : TypeId) (cs : Array Value), Blk wr g tt cs → tt ≠ 52 → tt ≠ 51 → g ∉ bl :: lv.ownBlock.toList := by
          intro g tt cs hb h45 h44 hin
          rcases List.mem_cons.1 hin with e | e
          · exact blk_ne hb HQL.out h45 e
          · have hj : lv.ownBlock = some g := Option.mem_toList.1 e
            exact row_ne HO.out hb (Ne.symm h44) g hj rfl
        have qO4 := s4.irow qa (by obtain ⟨cs, hb, _⟩ := qa; exact nin a 3 cs hb (by decide) (by decide)) (by simp)
        have qM4 := s4.irow HR.out (by obtain ⟨cs, hb, _⟩ := HR.out; exact nin mb 3 cs hb (by decide) (by decide)) (by simp)
        have qo4 := s4.blk qo (nin bo 34 _ qo (by decide) (by decide)) (by simp)
        have qm4 := s4.blk HQM.out (nin bm 34 _ HQM.out (by decide) (by decide)) (by simp)
        have hz4 := hS.size
        have hown4 := s3.row HOW.out (fun j hj => by
          have := row_ne HOW.out HB2.out (by decide) j hj
          simpa using this) (by simp)
        refine ⟨M1, _, rfl, ⟨qo4, qm4, blk_set HB2.out 0 _, qO4, qM4, HM.out.lO, hl, hnco, hne, ?_, hBw.1, hBw.2.1, by omega⟩, HG.out, ?_, hS⟩
        · rw [hL1, List.length_append, gflat_append]
          exact hown4
        · rcases HAT.out with h5 | h5
          · exact .inl h5
          · refine .inr fun j hj => ?_
            rw [h5] at hj
            simp at hj
            omega
      · have d2 : decide ((1 : Int) < ((f + k : Nat) : Int) - (f : Int)) = false := decide_eq_false (by omega)
        have d3 : decide ((1 : Int) < (f : Int) + (k : Int) - (f : Int)) = false := decide_eq_false (by omega)
        go_wp2_with fail
        go_end0
        have hS : Step B (mb :: bl :: lv.ownBlock.toList) [] w wr := (hs0.mono HM.out.hB.2.2 (by simp) (by simp)).trans (HST.out.mono (Nat.le_refl _) (by simp) (by simp))
        have hL1 : lastOf L f (f + k) = L := if_neg h1
        refine ⟨M1, lv, rfl, ⟨qo, HQM.out, ql, qa, hR, HM.out.lO, hl, hnco, hne, ?_, hBw.1, hBw.2.1, by omega⟩, hg, .inl rfl, hS⟩
        · rw [hL1]
          exact hown

end Go.Proofs.Ytglcideecelemaa
