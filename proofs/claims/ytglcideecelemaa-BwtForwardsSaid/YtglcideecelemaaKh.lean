/- Order, walked: up to its rounds. -/
import Derived.Test.YtglcideecelemaaKg
import Derived.Test.YtglcideecelemaaGg
namespace Go.Proofs.Ytglcideecelemaa
open Go.RowKit

theorem IRow.zeros (w : World) (n : Nat) : IRow (w.alloc (.cells (madeCells #[.int .i64 0] n) 3)) w.heap.size (List.replicate n 0) := by
  refine ⟨_, blk_new w 3 _, fun i hi => ?_⟩
  rw [List.length_replicate] at hi
  rw [← Array.getElem?_toList, toList_madeCells_one, List.getElem?_replicate, if_pos hi]
  rw [List.getD_eq_getElem?_getD, List.getElem?_replicate, if_pos hi]
  rfl

/-- While the first ranks are laid. -/
def Laid (w : World) (a ob rb : Nat) (s : List UInt8) (k : Nat) (wr : World) : Prop :=
  ∃ O R : List Nat, O.length = s.length ∧ R.length = s.length ∧ IRow wr a O ∧ IRow wr ob R ∧ RBlk wr rb ob s.length s.length 0 ∧
    (∀ p, p < k → fnOf O p = p) ∧ (∀ p, p < k → fnOf R p = (rat s p).toNat) ∧ Below w.heap.size w wr

theorem laid_next {w wr : World} {a ob rb : Nat} {s : List UInt8} {k : Nat} {O R : List Nat} (ha : w.heap.size ≤ a) (hab : a < ob) (hor : ob < rb) (hk : k < s.length) (hO : O.length = s.length) (hR : R.length = s.length) (rO : IRow wr a O) (rR : IRow wr ob R)
    (hr : RBlk wr rb ob s.length s.length 0) (h1 : ∀ p, p < k → fnOf O p = p) (h2 : ∀ p, p < k → fnOf R p = (rat s p).toNat) (hb : Below w.heap.size w wr) (m : Nat) :
    Laid w a ob rb s (k + 1) (((wr.setCell ⟨a, k, none⟩ (.int .i64 k)).setCell ⟨ob, k, none⟩ (.int .i64 ((rat s k).toNat : Nat))).drewN m) := by
  have s1 : Step w.heap.size [a] [] wr (wr.setCell ⟨a, k, none⟩ (.int .i64 k)) := (Step.refl w.heap.size [a] [] wr).set (p := ⟨a, k, none⟩) ha List.mem_cons_self _
  have s2 : Step w.heap.size [ob] [] (wr.setCell ⟨a, k, none⟩ (.int .i64 k)) ((wr.setCell ⟨a, k, none⟩ (.int .i64 k)).setCell ⟨ob, k, none⟩ (.int .i64 ((rat s k).toNat : Nat))) :=
    (Step.refl w.heap.size [ob] [] _).set (p := ⟨ob, k, none⟩) (by show _ ≤ ob; omega) List.mem_cons_self _
  refine ⟨O.set k k, R.set k (rat s k).toNat, by rw [List.length_set]; exact hO, by rw [List.length_set]; exact hR, ?_, ?_, ?_, fun p hp => ?_, fun p hp => ?_, ?_⟩
  · exact s2.irow (rO.set (i := k) (by omega) k) (by simp; omega) (by simp)
  · exact (s1.irow rR (by simp; omega) (by simp)).set (i := k) (by omega) _
  · exact s2.blk (s1.blk hr (by simp; omega) (by simp)) (by simp; omega) (by simp)
  · unfold fnOf
    rw [getD_set _ _ _ _ (by omega)]
    split
    · rename_i e; exact e.symm
    · exact h1 p (by omega)
  · unfold fnOf
    rw [getD_set _ _ _ _ (by omega)]
    split
    · rename_i e; rw [e]
    · exact h2 p (by omega)
  · exact below_drewN ((hb.trans (s1.below)).trans s2.below) m

theorem alloc_step (w : World) (o : Obj) : Step w.heap.size [] [] w (w.alloc o) := (Step.refl _ _ _ w).alloc (Nat.le_refl _) o
theorem alloc_size (w : World) (o : Obj) : (w.alloc o).heap.size = w.heap.size + 1 := by simp
theorem laid_start (w : World) (s : ByteArray) : Laid w w.heap.size (w.heap.size + 1) (w.heap.size + 1 + 1) s.data.toList 0
    (((w.alloc (.cells (madeCells #[.int .i64 0] s.size) 3)).alloc (.cells (madeCells #[.int .i64 0] s.size) 3)).alloc (.cells #[.slice (some ⟨w.heap.size + 1, 0, none⟩) s.size s.size, .int .i64 0] 49)) := by
  have hsl : s.data.toList.length = s.size := rfl
  have r1 := IRow.zeros w s.size
  have z1 := alloc_size w (.cells (madeCells #[.int .i64 0] s.size) 3)
  have b1 : Below w.heap.size w (w.alloc (.cells (madeCells #[.int .i64 0] s.size) 3)) := (Below.refl _ w).alloc (Nat.le_refl _) _
  generalize w.alloc (.cells (madeCells #[.int .i64 0] s.size) 3) = w1 at *
  have r2 := IRow.zeros w1 s.size
  have z2 := alloc_size w1 (.cells (madeCells #[.int .i64 0] s.size) 3)
  have s2 := alloc_step w1 (.cells (madeCells #[.int .i64 0] s.size) 3)
  generalize w1.alloc (.cells (madeCells #[.int .i64 0] s.size) 3) = w2 at *
  have s3 := alloc_step w2 (.cells #[.slice (some ⟨w.heap.size + 1, 0, none⟩) s.size s.size, .int .i64 0] 49)
  have r3 := blk_new w2 49 #[.slice (some ⟨w.heap.size + 1, 0, none⟩) s.size s.size, .int .i64 0]
  generalize w2.alloc (.cells #[.slice (some ⟨w.heap.size + 1, 0, none⟩) s.size s.size, .int .i64 0] 49) = w3 at *
  refine ⟨List.replicate s.size 0, List.replicate s.size 0, by rw [List.length_replicate]; exact hsl.symm, by rw [List.length_replicate]; exact hsl.symm, s3.irow (s2.irow r1 List.not_mem_nil List.not_mem_nil) List.not_mem_nil List.not_mem_nil, ?_, ?_, fun p h => by omega, fun p h => by omega, ?_⟩
  · have := s3.irow r2 List.not_mem_nil List.not_mem_nil
    rwa [z1] at this
  · unfold RBlk
    rw [hsl]
    rwa [z2, z1] at r3
  · exact (b1.trans (s2.below.mono (by omega))).trans (s3.below.mono (by omega))

theorem sta_begin (n : Nat) (O M : Nat → Nat) (h : 0 < n) (hO : ∀ p, p < n → O p = p) : Sta n (fun _ => 0) O M [] 0 0 [(0, n)] := by
  refine ⟨fun p hp => by rw [hO p hp]; exact hp, fun i hi => ⟨i, hi, hO i hi⟩, fun p r h1 h2 => .inr ⟨rfl, by rw [hO p (by omega), hO r h2]; exact h1⟩, ?_, fun g hg => absurd hg List.not_mem_nil, ?_, ?_, ⟨Nat.le_refl _, Nat.zero_le _⟩, fun p r h1 h2 => by omega⟩
  · rintro g (hg | hg)
    · exact absurd hg List.not_mem_nil
    · rw [List.mem_singleton.1 hg]
      exact ⟨h, Nat.le_refl _, fun p r h1 h2 h3 => ⟨fun _ => ⟨Nat.zero_le _, h3⟩, fun _ => rfl⟩⟩
  · intro p hp _ hg
    have := hg (0, n) (.inr List.mem_cons_self)
    simp only at this
    omega
  · simp

/-- Between two rounds. -/
def Ord2 (w : World) (rb n : Nat) (s : List UInt8) (g : Nat) (v : Value) (wr : World) : Prop :=
  ∃ (t : Nat) (O R : List Nat) (G : List (Nat × Nat)) (ob c : Nat), n - t ≤ g ∧ wr.ownsRow w.heap.size 51 2 v G.length (gflat G) ∧ RBlk wr rb ob n c t ∧ IRow wr ob R ∧ R.length = n ∧ IRow wr w.heap.size O ∧ O.length = n ∧ w.heap.size ≠ ob ∧ Below w.heap.size w wr ∧ G.length ≤ 1000000 ∧ t ≤ 2000000 ∧
    ((t = 0 ∧ G = [(0, n)] ∧ (∀ p, p < n → fnOf O p = p) ∧ ∀ p, p < n → fnOf R p = (rat s p).toNat) ∨ (1 ≤ t ∧ Sta n (fnOf R) (fnOf O) (fnOf R) [] 0 0 G ∧ Sem s t (fnOf R)))

/-- What Order leaves. -/
def OrdPost (w : World) (s : List UInt8) (e : Ending) (w' : World) : Prop :=
  ∃ (g : Nat) (L : List Nat), e = .returned (.slice (some ⟨g, 0, none⟩) s.length s.length) ∧ IRow w' g L ∧ IsOrd s L ∧ w.heap.size ≤ g ∧ Below w.heap.size w w'

theorem ord2_end {w wr : World} {rb n g : Nat} {s : List UInt8} {v : Value} (h : Ord2 w rb n s g v wr) (hn : s.length = n) (he : ∀ (t : Nat) (G : List (Nat × Nat)) (ob c : Nat), wr.ownsRow w.heap.size 51 2 v G.length (gflat G) → RBlk wr rb ob n c t → (G = [] ∨ n ≤ t)) :
    OrdPost w s (.returned (.slice (some ⟨w.heap.size, 0, none⟩) s.length s.length)) wr := by
  obtain ⟨t, O, R, G, ob, c, _, hown, hr, hR, hlR, hO, hlO, hne, hb, _, _, hcase⟩ := h
  refine ⟨w.heap.size, O, rfl, hO, ?_, Nat.le_refl _, hb⟩
  have h1 := he t G ob c hown hr
  rcases hcase with ⟨rfl, rfl, _, _⟩ | ⟨h1t, hsta, hsem⟩
  · have hn0 : n = 0 := by
      rcases h1 with h1 | h1
      · cases h1
      · omega
    have h0 : O = [] := List.eq_nil_of_length_eq_zero (by omega)
    subst h0
    exact ⟨List.Pairwise.nil, fun i => by rw [hn, hn0]; simp⟩
  · subst hn
    exact sta_ord s O (fnOf R) G t hlO hsta hsem h1

theorem grow_of_own {w : World} {B : Nat} {v : Value} {G : List (Nat × Nat)} (h : w.ownsRow B 51 2 v G.length (gflat G)) (h0 : 0 < G.length) : ∃ gb cg, v = .slice (some ⟨gb, 0, none⟩) G.length cg ∧ G.length ≤ cg ∧ GRow w gb G := by
  rcases h.2 with ⟨_, h1⟩ | ⟨gb, cg, cur, rfl, _, hh, hnc, _, _, htk⟩
  · omega
  · refine ⟨gb, cg, rfl, hnc, cur, hh, fun k hk => ?_⟩
    have hf := gflat_get G k hk
    rw [← htk] at hf
    rw [List.getElem?_take_of_lt (by omega), List.getElem?_take_of_lt (by omega)] at hf
    simpa using hf

/-- What the second loop asks of a round's answer. -/
theorem ord2_next {w wr w2 : World} {rb n t : Nat} {s : List UInt8} {q : Nat → Nat} {R : List Nat} {e : Ending} (hn : s.length = n) (ht : t < n) (hn6 : n ≤ 1000000) (hrb : rb ≠ w.heap.size) (hrw : w.heap.size ≤ rb) (hwb : Below w.heap.size w wr)
    (hq : (t = 0 ∧ q = (fun _ => 0) ∧ ∀ p, p < n → fnOf R p = (rat s p).toNat) ∨ (1 ≤ t ∧ q = fnOf R ∧ Sem s t (fnOf R))) (h : RoundPost wr w.heap.size w.heap.size rb n t q (keyAt n t (fnOf R)) e w2) :
    ∃ v mb cm, e = .returned v ∧ RBlk w2 rb mb n cm t ∧ ∀ t' : Nat, t' = (if 2 * t < 1 then 1 else 2 * t) → Ord2 w rb n s (n - t') v (w2.setCell ⟨rb, 1, none⟩ (.int .i64 t')) := by
  obtain ⟨v, mb, cm, M', O', G', rfl, hr, hM, hlM, hO, hlO, hne, hmb, hown, hsta, hfin, hst⟩ := h
  refine ⟨v, mb, cm, rfl, hr, fun t' ht' => ?_⟩
  have hz := hwb.size
  have sx : Step w.heap.size [rb] [] w2 (w2.setCell ⟨rb, 1, none⟩ (.int .i64 t')) := (Step.refl w.heap.size [rb] [] w2).set (p := ⟨rb, 1, none⟩) hrw List.mem_cons_self _
  have hfew := hsta.few
  have hown' : (w2.setCell ⟨rb, 1, none⟩ (.int .i64 t')).ownsRow wr.heap.size 51 2 v G'.length (gflat G') := sx.row hown (fun j hj => by
    have := row_ne hown hr (by decide) j hj
    simpa using this) List.not_mem_nil
  refine ⟨t', O', M', G', mb, cm, Nat.le_refl _, ⟨hown'.1, ?_⟩, ?_, ?_, hlM, ?_, hlO, hne, ?_, by omega, ?_, ?_⟩
  · rcases hown'.2 with h1 | ⟨g, cap, cur, h1, h2, h3⟩
    · exact .inl h1
    · exact .inr ⟨g, cap, cur, h1, by omega, h3⟩
  · exact blk_set hr 1 _
  · exact sx.irow hM (by
      obtain ⟨cs, hb, _⟩ := hM
      simpa using fun e => blk_ne hr hb (by decide) e.symm) List.not_mem_nil
  · exact sx.irow hO (by simpa using fun e => hrb e.symm) List.not_mem_nil
  · exact hwb.trans (hst.below.trans sx.below)
  · rw [ht']; split <;> omega
  · subst hn
    rcases hq with ⟨rfl, rfl, hR⟩ | ⟨h1, rfl, hsem⟩
    · have e1 : t' = 1 := by rw [ht', if_pos (by omega)]
      refine .inr ⟨by omega, hsta, ?_⟩
      rw [e1]
      exact sem_first s (fnOf R) (fnOf M') hR hfin
    · have e1 : t' = t + t := by rw [ht', if_neg (by omega)]; omega
      refine .inr ⟨by omega, hsta, ?_⟩
      rw [e1]
      exact sem_next s t (fnOf R) (fnOf M') ht hsem hfin

set_option maxHeartbeats 4000000 in
set_option maxRecDepth 100000 in
theorem order_any (N : Nat) (S : SortOk N) (w : World) (s : ByteArray) (hN : s.size ≤ N) (hs : s.size ≤ 1000000) :
    Calls Try.prog 13 #[.string s] w (OrdPost w s.data.toList) := by
  obtain ⟨i3, h3, hz0, hz1, hz2⟩ := info_parts Try.info3
  have hmk : ∀ w1 : World, (Instr.makeSlice 34 (.int .i64 s.size) (.int .i64 s.size)).run Try.prog w1 = .ok (.slice (some ⟨w1.heap.size, 0, none⟩) s.size s.size) (w1.alloc (.cells (madeCells #[.int .i64 0] s.size) 3)) := by
    intro w1
    have h := run_make (P := Try.prog) w1 34 3 i3 (.int .i64 0) Try.underlying34 h3 hz0 .i64 .i64 (s.size : Int) (s.size : Int) (by omega) (by omega) (by rw [hz2]; omega) (by omega)
    rw [hz1, Int.toNat_natCast, Nat.mul_one] at h
    exact h
  have hsl : s.data.toList.length = s.size := rfl
  have HSL := Lib.hid hsl
  clear hsl
  go_enter Try.func13, Try.ntmps13
  go_wp2_with fail
  have start := laid_start w s
  obtain ⟨a, ha⟩ : ∃ a, a = w.heap.size := ⟨_, rfl⟩
  have haw : w.heap.size ≤ a := by omega
  obtain ⟨ob, hob⟩ : ∃ ob, ob = w.heap.size + 1 := ⟨_, rfl⟩
  have hab : a < ob := by omega
  obtain ⟨rb, hrb⟩ : ∃ rb, rb = w.heap.size + 1 + 1 := ⟨_, rfl⟩
  have hor : ob < rb := by omega
  rw [← hrb, ← hob] at start ⊢
  generalize hWW : ((w.alloc (.cells (madeCells #[.int .i64 0] s.size) 3)).alloc (.cells (madeCells #[.int .i64 0] s.size) 3)).alloc (.cells #[.slice (some ⟨ob, 0, none⟩) s.size s.size, .int .i64 0] 49) = WW at start ⊢
  clear hWW
  have START := Lib.hid start
  clear start
  have hob' : w.heap.size < ob := by omega
  clear hrb hob ha haw hab
  clear a
  go_loopw [17] (fun x wr => ∃ k : Nat, k ≤ s.size ∧ x = .int .i64 k ∧ Laid w w.heap.size ob rb s.data.toList k wr) (fun x _ => s.size - (intOf x).toNat)
  case atStart => exact ⟨0, Nat.zero_le _, rfl, START.out⟩
  case round =>
    obtain ⟨k, hk, rfl, O, R, hO, hR, rO, rR, hr, h1, h2, hb⟩ := hrel
    by_cases hlt : k < s.size
    · have c0 := rO.cell (i := k) (by rw [hO, HSL.out]; exact hlt)
      have f0 := rO.frozen k
      have r0 := blk_cell hr 0
      have c1 := rR.cell (i := k) (by rw [hR, HSL.out]; exact hlt)
      have f1 := rR.frozen k
      rw [HSL.out] at r0
      simp at r0
      have hbyte : s[k] = rat s.data.toList k := rat_get s k k (Nat.mod_eq_of_lt hlt).symm hlt
      obtain ⟨y, hy⟩ : ∃ y, y = s[k].toNat := ⟨_, rfl⟩
      have hyw : IntKind.i64.wrap (s[k].toNat : Int) = (y : Int) := by
        rw [hy]
        have := s[k].toNat_lt
        exact IntWalk.i64_in _ (by omega)
      have NEXT := Lib.hid fun m => laid_next (Nat.le_refl _) hob' hor (by rw [HSL.out]; exact hlt) hO hR rO rR hr h1 h2 hb m
      have d1 : decide ((k : Int) < (s.size : Int)) = true := decide_eq_true (by omega)
      go_wp2_with fail
      have s1 : Step w.heap.size [w.heap.size] [] wr (wr.setCell ⟨w.heap.size, k, none⟩ (.int .i64 k)) := (Step.refl w.heap.size [w.heap.size] [] wr).set (p := ⟨w.heap.size, k, none⟩) (Nat.le_refl _) List.mem_cons_self _
      have r0' := blk_cell (s1.blk hr (by simp; omega) (by simp)) 0
      have c1' := (s1.irow rR (by simp; omega) (by simp)).cell (i := k) (by rw [hR, HSL.out]; exact hlt)
      have f1' := (s1.irow rR (by simp; omega) (by simp)).frozen k
      rw [HSL.out] at r0'
      simp at r0'
      rw [← hbyte, ← hy] at NEXT
      clear c0 f0 r0 c1 f1 s1 hO hR rO rR hr h1 h2 hb hbyte
      generalize wr.setCell ⟨w.heap.size, k, none⟩ (.int .i64 k) = W2 at *
      have HYY := Lib.hid hy
      clear hy
      go_region
      go_wp2_with fail
      go_roundw
      case rel => exact ⟨k + 1, by omega, by go_num, NEXT.out 1⟩
      case measure => simp [intOf]; omega
    · obtain rfl : k = s.size := by omega
      have d1 : decide ((s.size : Int) < (s.size : Int)) = false := decide_eq_false (by omega)
      have ord : Ord2 w rb s.size s.data.toList s.size (.slice (some ⟨wr.heap.size, 0, none⟩) 1 1) (wr.alloc (.cells #[.int .i64 0, .int .i64 s.size] 51)) := by
        have s1 := alloc_step wr (.cells #[.int .i64 0, .int .i64 s.size] 51)
        rw [HSL.out] at hO hR hr
        refine ⟨0, O, R, [(0, s.size)], ob, s.size, by omega, ⟨rfl, .inr ⟨wr.heap.size, 1, _, rfl, hb.size, blk_new wr 51 _, Nat.le_refl _, by unfold maxLen; omega, rfl, rfl⟩⟩, s1.blk hr List.not_mem_nil List.not_mem_nil, s1.irow rR List.not_mem_nil List.not_mem_nil, hR,
          s1.irow rO List.not_mem_nil List.not_mem_nil, hO, by omega, hb.trans (s1.below.mono hb.size), by simp, by omega, .inl ⟨rfl, rfl, h1, h2⟩⟩
      have HORD := Lib.hid ord
      clear ord hO hR rO rR hr h1 h2 hb
      go_wp2_with fail
      go_loopg [6] s.size (fun g v wr => Ord2 w rb s.size s.data.toList g v wr)
      case atStart => exact HORD.out
      case round =>
        have hrel' := hrel
        obtain ⟨t, O, R, G, ob2, c, hg, hown, hr, hR, hlR, hO, hlO, hne, hb, hG6, ht6, hcase⟩ := hrel
        have c0 := blk_cell hr 0
        have c1 := blk_cell hr 1
        simp at c0 c1
        by_cases htn : t < s.size
        · by_cases hG0 : 0 < G.length
          · obtain ⟨gb, cg, rfl, hcg, hgr⟩ := grow_of_own hown hG0
            have hrw : w.heap.size ≤ rb := by omega
            have hrn : rb ≠ w.heap.size := by omega
            obtain ⟨q, hq, hsta⟩ : ∃ q : Nat → Nat, ((t = 0 ∧ q = (fun _ => 0) ∧ ∀ p, p < s.size → fnOf R p = (rat s.data.toList p).toNat) ∨ (1 ≤ t ∧ q = fnOf R ∧ Sem s.data.toList t (fnOf R))) ∧ Sta s.size q (fnOf O) (fnOf R) [] 0 0 G := by
              rcases hcase with ⟨h1, rfl, h2, h3⟩ | ⟨h1, h2, h3⟩
              · exact ⟨fun _ => 0, .inl ⟨h1, rfl, h3⟩, sta_begin s.size (fnOf O) (fnOf R) (by omega) h2⟩
              · exact ⟨fnOf R, .inr ⟨h1, rfl, h3⟩, h2⟩
            have hround := round_any N S wr w.heap.size w.heap.size rb ob2 gb s.size s.size c cg t R O G q ⟨hr, hR, hlR, hO, hlO, hgr, hne, ⟨Nat.le_refl _, hrw, hb.size⟩, Nat.le_refl _, ⟨by omega, hs, by omega⟩, ⟨hcg, hG6⟩⟩ hN hsta
            have HROUND := Lib.hid hround
            have HQ := Lib.hid hq
            have HB := Lib.hid hb
            have d1 : decide ((t : Int) < (s.size : Int)) = true := decide_eq_true (by omega)
            have d2 : decide ((0 : Int) < (G.length : Int)) = true := decide_eq_true (by omega)
            clear hrel' hown hr hR hlR hO hlO hne hb hcase hgr hround hq hsta
            go_wp2_with fail
            refine HROUND.out.mono ?_
            intro e w2 hpost
            obtain ⟨v, mb, cm, rfl, hr2, hnext⟩ := ord2_next HSL.out htn hs hrn hrw HB.out HQ.out hpost
            have k1 := blk_cell hr2 1
            have k2 := blk_frozen hr2 1
            simp at k1
            have HNEXT := Lib.hid hnext
            have m0 : (0 : Int) ≤ 2 * (t : Int) := by omega
            have m1 : 2 * (t : Int) ≤ 4000000 := by omega
            clear hpost hr2 hnext
            by_cases h0 : 2 * t < 1
            · have d3 : decide ((1 : Int) < 2 * (t : Int)) = false := decide_eq_false (by omega)
              have d4 : ¬ ((1 : Int) < 2 * (t : Int)) := by omega
              have HN2 := Lib.hid (HNEXT.out 1 (if_pos h0).symm)
              go_wp2_with fail
              go_roundg (s.size - 1)
              case measure => omega
              case rel =>
                rw [show max (1 : Int) (2 * (t : Int)) = ((1 : Nat) : Int) by omega]
                exact HN2.out
            · have d3 : decide ((1 : Int) < 2 * (t : Int)) = true := decide_eq_true (by omega)
              have d4 : ((1 : Int) < 2 * (t : Int)) := by omega
              have HN2 := Lib.hid (HNEXT.out (2 * t) (if_neg h0).symm)
              go_wp2_with fail
              go_roundg (s.size - 2 * t)
              case measure => omega
              case rel =>
                rw [show max (1 : Int) (2 * (t : Int)) = ((2 * t : Nat) : Int) by omega]
                exact HN2.out
          · have hend := ord2_end hrel' HSL.out (fun t' G' ob' c' hown' hr' => by
              left
              obtain ⟨A1, c1, e1, _⟩ := own_slice hown
              obtain ⟨A2, c2, e2, _⟩ := own_slice hown'
              rw [e1] at e2
              simp only [Value.slice.injEq] at e2
              exact List.eq_nil_of_length_eq_zero (by omega))
            obtain ⟨A1, c1', rfl, _⟩ := own_slice hown
            have HEND := Lib.hid hend
            rw [HSL.out] at HEND
            have d1 : decide ((t : Int) < (s.size : Int)) = true := decide_eq_true (by omega)
            have d2 : decide ((0 : Int) < (G.length : Int)) = false := decide_eq_false (by omega)
            clear hrel' hown hr hR hlR hO hlO hne hb hcase hend
            go_wp2_with fail
            go_ret
            exact HEND.out
        · have hend := ord2_end hrel' HSL.out (fun t' G' ob' c' hown' hr' => by
            right
            have e1 := blk_cell hr 1
            have e2 := blk_cell hr' 1
            simp at e1 e2
            rw [e1] at e2
            simp at e2
            omega)
          obtain ⟨A1, c1', rfl, _⟩ := own_slice hown
          have HEND := Lib.hid hend
          rw [HSL.out] at HEND
          have d1 : decide ((t : Int) < (s.size : Int)) = false := decide_eq_false (by omega)
          clear hrel' hown hr hR hlR hO hlO hne hb hcase hend
          go_wp2_with fail
          go_ret
          exact HEND.out

end Go.Proofs.Ytglcideecelemaa
