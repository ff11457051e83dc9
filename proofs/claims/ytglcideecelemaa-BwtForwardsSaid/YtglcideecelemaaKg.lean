/- A round, walked. -/
import Derived.Test.YtglcideecelemaaKf
namespace Go.Proofs.Ytglcideecelemaa
open Go.RowKit

/-- Block gb is a row of groups that begins with G. -/
def GRow (w : World) (gb : Nat) (G : List (Nat × Nat)) : Prop := ∃ cs, Blk w gb 51 cs ∧ ∀ k, (h : k < G.length) → cs[2 * k]? = some (iv G[k].1) ∧ cs[2 * k + 1]? = some (iv G[k].2)

theorem GMem.drewN {w : World} {B a mb bo bm bl n co cm : Nat} {O M : List Nat} {lv : Value} {L : List (Nat × Nat)} (h : GMem w B a mb bo bm bl n co cm O M lv L) (k : Nat) : GMem (w.drewN k) B a mb bo bm bl n co cm O M lv L :=
  ⟨h.qo, h.qm, h.ql, h.rO, h.rM, h.lO, h.lM, h.nco, h.ne, h.left, h.hB⟩

structure RoundPre (w : World) (B a rb ob gb n co c cg t : Nat) (R O : List Nat) (G : List (Nat × Nat)) : Prop where
  r : RBlk w rb ob n c t
  rR : IRow w ob R
  lR : R.length = n
  rO : IRow w a O
  lO : O.length = n
  g : GRow w gb G
  ne : a ≠ ob
  hB : B ≤ a ∧ B ≤ rb ∧ B ≤ w.heap.size
  nco : n ≤ co
  nn : 0 < n ∧ n ≤ 1000000 ∧ t ≤ n
  gc : G.length ≤ cg ∧ G.length ≤ 1000000

def fnOf (L : List Nat) : Nat → Nat := fun p => L.getD p 0

/-- Between two groups. -/
def Outer (w : World) (B a mb bo bm bl n co cm : Nat) (q key : Nat → Nat) (G : List (Nat × Nat)) (k : Nat) (wr : World) : Prop :=
  ∃ (q' : Nat → Nat) (O' M' : List Nat) (lv : Value) (done : List (Nat × Nat)) (x : Nat),
    Sta n q' (fnOf O') (fnOf M') done x x (G.drop k) ∧ Rnd n q key q' (fnOf O') (G.drop k) ∧ GMem wr w.heap.size a mb bo bm bl n co cm O' M' lv done ∧ Step B [a] [] w wr

theorem bounded (L : List Nat) : ∃ K, ∀ i, fnOf L i < K := by
  induction L with
  | nil => exact ⟨1, fun i => by simp [fnOf]⟩
  | cons x L ih =>
    obtain ⟨K, hK⟩ := ih
    refine ⟨K + x + 1, fun i => ?_⟩
    cases i with
    | zero => show x < _; omega
    | succ i => have := hK i; show fnOf L i < _; omega

/-- Within a group that was parted. -/
def Inner (w : World) (B a mb bo bm bl n co cm : Nat) (q key : Nat → Nat) (rest : List (Nat × Nat)) (f tt bg fr c : Nat) (wi : World) : Prop :=
  ∃ (q2 : Nat → Nat) (O2 M2 : List Nat) (lv : Value) (done : List (Nat × Nat)),
    Sta n q2 (fnOf O2) (fnOf M2) done fr tt rest ∧ Rnd n q key q2 (fnOf O2) rest ∧ GMem wi w.heap.size a mb bo bm bl n co cm O2 M2 lv done ∧ Step B [a] [] w wi ∧
    Blk wi bg 51 #[.int .i64 f, .int .i64 tt] ∧ (∀ j, lv.ownBlock = some j → j ≠ bg) ∧ (f ≤ fr ∧ fr < c ∧ c ≤ tt) ∧ (∀ p, fr ≤ p → p < c → q2 (fnOf O2 p) = q2 (fnOf O2 fr)) ∧
    (∀ p r, f ≤ p → p < tt → f ≤ r → r < tt → (q2 (fnOf O2 p) = q2 (fnOf O2 r) ↔ key (fnOf O2 p) = key (fnOf O2 r)))

section
variable {w wi : World} {B a mb bo bm bl n co cm : Nat} {q key : Nat → Nat} {rest : List (Nat × Nat)} {f tt bg fr c : Nat}

theorem inner_start {q1 : Nat → Nat} {O1 M1 O2 : List Nat} {lv : Value} {done : List (Nat × Nat)} {x : Nat} {wr w3 : World} (hsta : Sta n q1 (fnOf O1) (fnOf M1) done x x ((f, tt) :: rest)) (hrnd : Rnd n q key q1 (fnOf O1) ((f, tt) :: rest))
    (hmem : GMem wr w.heap.size a mb bo bm bl n co cm O1 M1 lv done) (hstep : Step B [a] [] w wr) (hB : B ≤ w.heap.size) (hK : ∃ K, ∀ i, key i < K)
    (hreg : Regrouped n f tt key O1 O2) (hrow : IRow w3 a O2) (hst : Step B [a] [] (wr.alloc (.cells #[.int .i64 f, .int .i64 tt] 51)) w3) : Inner w B a mb bo bm bl n co cm q key rest f tt wr.heap.size f (f + 1) w3 := by
  obtain ⟨K, hK⟩ := hK
  obtain ⟨q2, h1, h2⟩ := parted_exists q1 key (q1 (fnOf O1 f)) K hK
  have hgrp := hsta.grp (f, tt) (.inr List.mem_cons_self)
  have hft : f < tt := hgrp.1
  have htn : tt ≤ n := hgrp.2.1
  have hcls := hgrp.2.2
  simp only at hcls
  have hsame : ∀ p, f ≤ p → p < tt → q1 (fnOf O2 p) = q1 (fnOf O1 f) := by
    intro p hp1 hp2
    obtain ⟨r, hr1, hr2, e⟩ := hreg.of p hp1 hp2
    have e' : fnOf O2 p = fnOf O1 r := e
    rw [e']
    exact (hcls r f hr1 hr2 (by omega)).2 ⟨Nat.le_refl _, hft⟩
  have s1 : Step wr.heap.size [] [] wr (wr.alloc (.cells #[.int .i64 f, .int .i64 tt] 51)) := (Step.refl _ _ _ wr).alloc (Nat.le_refl _) _
  have hz := hstep.size
  have hz3 := hst.size
  simp at hz3
  have ha3 : ∀ {g : Nat} {t : TypeId} {cs : Array Value}, Blk wr g t cs → t ≠ 3 → g ∉ [a] := by
    intro g t cs hb hne
    obtain ⟨ds, hd, _⟩ := hmem.rO
    simpa using blk_ne hb hd hne
  have carry : ∀ {g : Nat} {t : TypeId} {cs : Array Value}, Blk wr g t cs → t ≠ 3 → Blk w3 g t cs := fun hb hne => hst.blk (s1.blk hb (by simp) (by simp)) (ha3 hb hne) (by simp)
  have hbg : Blk w3 wr.heap.size 51 #[.int .i64 f, .int .i64 tt] := hst.blk (blk_new wr 51 _) (by
    have := hmem.rO.lt
    simp; omega) (by simp)
  have hown : w3.ownsRow w.heap.size 51 2 lv done.length (gflat done) := hst.row (s1.row hmem.left (by simp) (by simp)) (fun j hj => by
    obtain ⟨ds, hd, _⟩ := s1.irow hmem.rO (by simp) (by simp)
    have := row_ne (s1.row hmem.left (by simp) (by simp)) hd (by decide) j hj
    simpa using this) (by simp)
  refine ⟨q2, O2, M1, lv, done, hsta.parted key q2 (fnOf O2) h1 h2 hreg.out hreg.of hreg.has hreg.sorted, hrnd.parted hsta q2 (fnOf O2) h1 h2 hreg.out hreg.of, ?_, ?_, hbg, ?_, ⟨Nat.le_refl _, by omega, by omega⟩, ?_, ?_⟩
  · exact ⟨carry hmem.qo (by decide), carry hmem.qm (by decide), carry hmem.ql (by decide), hrow, hst.irow (s1.irow hmem.rM (by simp) (by simp)) (by simpa using fun e => hmem.ne e.symm) (by simp), hreg.len, hmem.lM, hmem.nco, hmem.ne, hown, hmem.hB.1, hmem.hB.2.1, by omega⟩
  · exact (hstep.trans ((s1.mono (by omega) (by simp) (by simp)))).trans hst
  · intro j hj
    have := (hmem.left.lt j hj).2
    omega
  · intro p hp1 hp2
    rw [show p = f by omega]
  · intro p r hp1 hp2 hr1 hr2
    rw [h2, hsame p hp1 hp2, hsame r hr1 hr2]
    exact ⟨fun h => h.2 rfl, fun h => ⟨rfl, fun _ => h⟩⟩

/-- What is told of a class when it is given its place. -/
theorem inner_give {q2 : Nat → Nat} {O2 M2 M3 : List Nat} {lv lv3 : Value} {done : List (Nat × Nat)} {w3 : World} (hB : B ≤ w.heap.size)
    (hsta : Sta n q2 (fnOf O2) (fnOf M2) done fr tt rest) (hmem : GMem wi w.heap.size a mb bo bm bl n co cm O2 M2 lv done) (hstep : Step B [a] [] w wi)
    (hbg : Blk wi bg 51 #[.int .i64 f, .int .i64 tt]) (hlv : ∀ j, lv.ownBlock = some j → j ≠ bg) (h1 : fr < c) (h2 : c ≤ tt) (heq : ∀ p, fr ≤ p → p < c → q2 (fnOf O2 p) = q2 (fnOf O2 fr)) (hne : c < tt → q2 (fnOf O2 c) ≠ q2 (fnOf O2 fr))
    (hgiv : Given O2 M2 M3 fr c) (hat : lv3.ownBlock = lv.ownBlock ∨ ∀ k, lv3.ownBlock = some k → wi.heap.size ≤ k) (hst : Step w.heap.size (mb :: bl :: lv.ownBlock.toList) [] wi w3) :
    Sta n q2 (fnOf O2) (fnOf M3) (lastOf done fr c) c tt rest ∧ Step B [a] [] w w3 ∧ Blk w3 bg 51 #[.int .i64 f, .int .i64 tt] ∧ (∀ j, lv3.ownBlock = some j → j ≠ bg) := by
  have hbn := hsta.ab.2
  refine ⟨?_, ?_, ?_, ?_⟩
  · refine hsta.give c h1 h2 heq hne (fnOf M3) hgiv.1 fun p hp ho => ?_
    refine hgiv.2 (fnOf O2 p) fun r hr1 hr2 e => ?_
    have := hsta.inj (p := r) (r := p) (by omega) hp e
    omega
  · refine hstep.after hst hB (fun i hi => ?_) (by simp)
    rcases List.mem_cons.1 hi with rfl | hi
    · exact .inr hmem.hB.1
    · rcases List.mem_cons.1 hi with rfl | hi
      · exact .inr hmem.hB.2.1
      · exact .inr (hmem.left.lt i (Option.mem_toList.1 hi)).1
  · refine hst.blk hbg (fun hi => ?_) (by simp)
    rcases List.mem_cons.1 hi with e | hi
    · obtain ⟨ds, hd, _⟩ := hmem.rM
      exact blk_ne hbg hd (by decide) e
    · rcases List.mem_cons.1 hi with e | hi
      · exact blk_ne hbg hmem.ql (by decide) e
      · exact hlv bg (Option.mem_toList.1 hi) rfl
  · intro j hj e
    have hlt := blk_lt hbg
    rcases hat with h | h
    · exact hlv j (by rw [← h]; exact hj) e
    · have := h j hj
      omega
end

/-- What a round leaves. -/
def RoundPost (w : World) (B a rb n t : Nat) (q key : Nat → Nat) (e : Ending) (w' : World) : Prop :=
  ∃ (lv : Value) (mb cm : Nat) (M' O' : List Nat) (G' : List (Nat × Nat)), e = .returned lv ∧ RBlk w' rb mb n cm t ∧ IRow w' mb M' ∧ M'.length = n ∧ IRow w' a O' ∧ O'.length = n ∧ a ≠ mb ∧ w.heap.size ≤ mb ∧
    w'.ownsRow w.heap.size 51 2 lv G'.length (gflat G') ∧ Sta n (fnOf M') (fnOf O') (fnOf M') [] 0 0 G' ∧ Finer n q key (fnOf M') ∧ Step B [a, rb] [] w w'

set_option maxHeartbeats 4000000 in
set_option maxRecDepth 100000 in
theorem round_any (N : Nat) (S : SortOk N) (w : World) (B a rb ob gb n co c cg t : Nat) (R O : List Nat) (G : List (Nat × Nat)) (q : Nat → Nat) (hp : RoundPre w B a rb ob gb n co c cg t R O G) (hN : n ≤ N)
    (hs : Sta n q (fnOf O) (fnOf R) [] 0 0 G) :
    Calls Try.prog 21 #[rp rb, .slice (some ⟨a, 0, none⟩) n co, .slice (some ⟨gb, 0, none⟩) G.length cg] w (RoundPost w B a rb n t q (keyAt n t (fnOf R))) := by
  have HP := Lib.hid hp
  have HS := Lib.hid hs
  clear hp hs
  have r0 := blk_cell HP.out.r 0
  have rlt := blk_lt HP.out.r
  have alt := HP.out.rO.lt
  simp at r0
  go_enter Try.func21, Try.ntmps21
  go_wp2_with fail
  refine (clone_any (w.alloc (.cells #[.slice (some ⟨a, 0, none⟩) n co] 34)) ob n c R (((Step.refl w.heap.size [] [] w).alloc (Nat.le_refl _) _).irow HP.out.rR (by simp) (by simp)) HP.out.lR HP.out.nn.1 HP.out.nn.2.1).mono ?_
  rintro e w1 ⟨mb, cm, rfl, hcm, hmb, hlmb, hb1⟩
  have hz1 := hb1.size
  simp at hlmb hz1
  have HMB := Lib.hid hmb
  have HB1 := Lib.hid hb1
  clear hmb hb1
  go_wp2_with fail
  have start : Outer w B a mb w.heap.size w1.heap.size (w1.heap.size + 1) n co cm q (keyAt n t (fnOf R)) G 0 ((w1.alloc (.cells #[.slice (some ⟨mb, 0, none⟩) n cm] 34)).alloc (.cells #[.slice none 0 0] 52)) := by
    have s0 : Step w.heap.size [] [] w (w.alloc (.cells #[.slice (some ⟨a, 0, none⟩) n co] 34)) := (Step.refl _ _ _ w).alloc (Nat.le_refl _) _
    have s1 : Step (w.alloc (.cells #[.slice (some ⟨a, 0, none⟩) n co] 34)).heap.size [] [] (w.alloc (.cells #[.slice (some ⟨a, 0, none⟩) n co] 34)) w1 := step_of_below HB1.out
    have s2 : Step w1.heap.size [] [] w1 ((w1.alloc (.cells #[.slice (some ⟨mb, 0, none⟩) n cm] 34)).alloc (.cells #[.slice none 0 0] 52)) := ((Step.refl _ _ _ w1).alloc (Nat.le_refl _) _).alloc (by simp) _
    refine ⟨q, O, R, .slice none 0 0, [], 0, HS.out, rnd_start HS.out _, ⟨?_, ?_, ?_, ?_, ?_, HP.out.lO, HP.out.lR, HP.out.nco, by omega, World.ownsRow_nil _ _ _ _, by omega, by omega, ?_⟩, ?_⟩
    · exact s2.blk (s1.blk (blk_new w 34 _) (by simp) (by simp)) (by simp) (by simp)
    · exact (((Step.refl (w1.heap.size + 1) [] [] _).alloc (by simp) _).blk (blk_new w1 34 _) (by simp) (by simp))
    · exact (by simpa using blk_new (w1.alloc (.cells #[.slice (some ⟨mb, 0, none⟩) n cm] 34)) 52 #[.slice none 0 0] : Blk _ (w1.heap.size + 1) 52 _)
    · exact s2.irow (s1.irow (s0.irow HP.out.rO (by simp) (by simp)) (by simp) (by simp)) (by simp) (by simp)
    · exact s2.irow HMB.out (by simp) (by simp)
    · simp; omega
    · have hB := HP.out.hB
      exact ((s0.mono hB.2.2 (by simp) (by simp)).trans (s1.mono (by simp; omega) (by simp) (by simp))).trans (s2.mono (by omega) (by simp) (by simp))
  have ho1 : w.heap.size < w1.heap.size := by omega
  have START := Lib.hid start
  clear start
  generalize (w1.alloc (.cells #[.slice (some ⟨mb, 0, none⟩) n cm] 34)).alloc (.cells #[.slice none 0 0] 52) = W1 at *
  generalize w1.heap.size = bm at *
  obtain ⟨bo, hbo⟩ : ∃ bo, bo = w.heap.size := ⟨_, rfl⟩
  go_loopw [22] (fun x wr => ∃ k : Nat, k ≤ G.length ∧ x = .int .i64 k ∧ Outer w B a mb w.heap.size bm (bm + 1) n co cm q (keyAt n t (fnOf R)) G k wr) (fun x _ => G.length - (intOf x).toNat)
  case atStart => exact ⟨0, Nat.zero_le _, rfl, START.out⟩
  case round =>
    obtain ⟨k, hk, rfl, hout⟩ := hrel
    by_cases hlt : k < G.length
    · obtain ⟨q1, O1, M1, lv, done, x, hsta, hrnd, hmem, hstep⟩ := hout
      obtain ⟨f, hf⟩ : ∃ f, f = G[k].1 := ⟨_, rfl⟩
      obtain ⟨tt, htt⟩ : ∃ tt, tt = G[k].2 := ⟨_, rfl⟩
      obtain ⟨gs, hgb, hgc⟩ := HP.out.g
      have hgb' := hstep.blk hgb (by
        obtain ⟨cs, hb, _⟩ := HP.out.rO
        simpa using blk_ne hgb hb (by decide)) (by simp)
      have g0 : wr.cell? ⟨gb, k * 2, none⟩ = some (.int .i64 f) := by
        rw [blk_cell hgb', Nat.mul_comm, (hgc k hlt).1, hf]; rfl
      have g1 : wr.cell? ⟨gb, k * 2 + 1, none⟩ = some (.int .i64 tt) := by
        rw [blk_cell hgb', Nat.mul_comm, (hgc k hlt).2, htt]; rfl
      have hgg : G[k] = (f, tt) := by rw [hf, htt]
      have hdrop : G.drop k = (f, tt) :: G.drop (k + 1) := by rw [List.drop_eq_getElem_cons hlt, hgg]
      rw [hdrop] at hsta hrnd
      have hgrp := hsta.grp (f, tt) (.inr List.mem_cons_self)
      have hft : f < tt := hgrp.1
      have htn : tt ≤ n := hgrp.2.1
      have HSTA := Lib.hid hsta
      have HRND := Lib.hid hrnd
      have HMEM := Lib.hid hmem
      have HSTEP := Lib.hid hstep
      have HHF := Lib.hid hf
      have HHT := Lib.hid htt
      have b0 := blk_cell hmem.qo 0
      have r1 := hstep.blk HP.out.r (by
        obtain ⟨cs, hb, _⟩ := HP.out.rO
        simpa using blk_ne HP.out.r hb (by decide)) (by simp)
      have r2 := hstep.irow HP.out.rR (by simpa using fun e => HP.out.ne e.symm) (by simp)
      have hlow := hsta.low
      have hinj := fun p r => hsta.inj (p := p) (r := r)
      have hlO := hmem.lO
      have hrO := hmem.rO
      simp at b0
      have s1 : Step wr.heap.size [] [] wr (wr.alloc (.cells #[.int .i64 f, .int .i64 tt] 51)) := (Step.refl _ _ _ wr).alloc (Nat.le_refl _) _
      have hsort := regroup N S (wr.alloc (.cells #[.int .i64 f, .int .i64 tt] 51)) B rb ob a n c t f tt (co - f) R O1 (s1.blk r1 (by simp) (by simp)) (s1.irow r2 (by simp) (by simp)) HP.out.lR (s1.irow hrO (by simp) (by simp)) hlO hlow hinj hft htn (by omega) HP.out.nn.2.2 HP.out.nn.2.1 HP.out.hB.1 HP.out.ne
      have HSORT := Lib.hid hsort
      have hnco := HP.out.nco
      have hn6 := HP.out.nn.2.1
      have hg6 := HP.out.gc.2
      have hcf : ¬ co = f := by omega
      have e1 : (f : Int) ≤ (tt : Int) := by omega
      have e2 : (tt : Int) ≤ (co : Int) := by omega
      have hblt := blk_lt hmem.qo
      clear hsta hrnd hmem hstep hf htt hgg hdrop hgrp hgb hgb' hgc hsort s1 r1 r2 hlow hinj hlO hrO
      go_wp2_with fail
      refine HSORT.out.mono ?_
      rintro e w3 ⟨rfl, O2, hreg, hrow, hst3⟩
      have inner : Inner w B a mb w.heap.size bm (bm + 1) n co cm q (keyAt n t (fnOf R)) (G.drop (k + 1)) f tt wr.heap.size f (f + 1) w3 :=
        inner_start HSTA.out HRND.out HMEM.out HSTEP.out HP.out.hB.2.2 (by obtain ⟨K, hK⟩ := bounded R; exact ⟨K, fun i => hK _⟩) hreg hrow hst3
      have HIN := Lib.hid inner
      have q3 : Blk w3 wr.heap.size 51 #[.int .i64 f, .int .i64 tt] := by
        obtain ⟨_, _, _, _, _, _, _, _, _, h, _⟩ := inner
        exact h
      have q30 := blk_cell q3 0
      have q31 := blk_cell q3 1
      simp at q30 q31
      clear inner hreg hrow hst3 q3
      go_wp2_with fail
      obtain ⟨wo, rfl⟩ : ∃ wo, wo = wr := ⟨_, rfl⟩
      go_loopw [12, 13] (fun x y wi => ∃ fr c : Nat, x = .int .i64 fr ∧ y = .int .i64 c ∧ Inner w B a mb w.heap.size bm (bm + 1) n co cm q (keyAt n t (fnOf R)) (G.drop (k + 1)) f tt wo.heap.size fr c wi) (fun _ y _ => tt - (intOf y).toNat)
      case atStart => exact ⟨f, f + 1, rfl, by go_num, HIN.out⟩
      case round =>
        obtain ⟨fr, cc, rfl, rfl, q2, O2, M2, lv2, done2, hsta, hrnd, hmem, hstep, hbg, hlv, hin, heq, hkey⟩ := hrel
        have hl0 := blk_cell hbg 0
        have hl1 := blk_cell hbg 1
        have b0 := blk_cell hmem.qo 0
        simp at hl0 hl1 b0
        have hbn := hsta.ab.2
        have hfew := hsta.few
        have hlO := hmem.lO
        have ISTA := Lib.hid hsta
        have IRND := Lib.hid hrnd
        have IMEM := Lib.hid hmem
        have ISTEP := Lib.hid hstep
        have IBG := Lib.hid hbg
        have ILV := Lib.hid hlv
        have IEQ := Lib.hid heq
        have IKEY := Lib.hid hkey
        have ILO := Lib.hid hlO
        clear hsta hrnd hmem hstep hbg hlv heq hkey hlO
        by_cases hct : cc < tt
        · have ca := IMEM.out.rO.cell (i := cc) (by rw [ILO.out]; omega)
          have cf := IMEM.out.rO.cell (i := fr) (by rw [ILO.out]; omega)
          obtain ⟨u, hu⟩ : ∃ u, u = O2.getD cc 0 := ⟨_, rfl⟩
          obtain ⟨v, hv⟩ : ∃ v, v = O2.getD fr 0 := ⟨_, rfl⟩
          have hun : u < n := by rw [hu]; exact ISTA.out.low cc (by omega)
          have hvn : v < n := by rw [hv]; exact ISTA.out.low fr (by omega)
          have hke := IKEY.out cc fr (by omega) hct hin.1 (by omega)
          rw [← hu] at ca
          rw [← hv] at cf
          have hke2 : q2 (fnOf O2 cc) = q2 (fnOf O2 fr) ↔ keyAt n t (fnOf R) u = keyAt n t (fnOf R) v := by rw [hu, hv]; exact hke
          have r1 := ISTEP.out.blk HP.out.r (by
            obtain ⟨cs, hb, _⟩ := HP.out.rO
            simpa using blk_ne HP.out.r hb (by decide)) (by simp)
          have r2 := ISTEP.out.irow HP.out.rR (by simpa using fun e => HP.out.ne e.symm) (by simp)
          have HU := Lib.hid fun (i : Nat) (hi : i < n) (W : World) (hW : W.heap = wr.heap) => (further_any W rb ob n c t i R (by unfold RBlk Blk; rw [hW]; exact r1) (by obtain ⟨cs, hb, hc⟩ := r2; exact ⟨cs, by unfold Blk; rw [hW]; exact hb, hc⟩) HP.out.lR hi HP.out.nn.2.2 HP.out.nn.2.1).mono fun e W' h => (⟨h.1, 0, h.2.symm⟩ : e = .returned (.int .i64 (keyAt n t (fnOf R) i : Nat)) ∧ ∃ m, W' = W.drewN m)
          have HUU := Lib.hid hu
          have HVV := Lib.hid hv
          clear hke r1 r2 hu hv
          have d1 : decide ((cc : Int) < (tt : Int)) = true := decide_eq_true (by omega)
          obtain ⟨ku, hku⟩ : ∃ ku, ku = keyAt n t (fnOf R) u := ⟨_, rfl⟩
          obtain ⟨kv, hkv⟩ : ∃ kv, kv = keyAt n t (fnOf R) v := ⟨_, rfl⟩
          rw [← hku, ← hkv] at hke2
          have HKU := Lib.hid hku
          have HKV := Lib.hid hkv
          clear hku hkv
          by_cases hk2 : ku = kv
          · have hq2 := hke2.2 hk2
            have HQ2 := Lib.hid hq2
            have d2 : ((ku : Int) != (kv : Int)) = false := by rw [hk2]; simp
            have d3 : ((ku : Int) == (kv : Int)) = true := by rw [hk2]; simp
            clear hke2 hq2 hk2
            go_wp2_with fail
            rw [HKU.out, HKV.out] at d2 d3
            go_quiet ((go_at_call 31; exact Calls.quiet_of (HU.out _ (by assumption) _ rfl)))
            go_wp2_with fail
            have HIN2 := Lib.hid (show Inner w B a mb w.heap.size bm (bm + 1) n co cm q (keyAt n t (fnOf R)) (G.drop (k + 1)) f tt wo.heap.size fr (cc + 1) (wr.drewN nq) from
              ⟨q2, O2, M2, lv2, done2, ISTA.out, IRND.out, IMEM.out.drewN nq, ISTEP.out.drewN nq, IBG.out, ILV.out, ⟨hin.1, by omega, by omega⟩, fun p hp1 hp2 => by
                by_cases e : p = cc
                · rw [e]; exact HQ2.out
                · exact IEQ.out p hp1 (by omega), IKEY.out⟩)
            go_roundw
            case rel => exact ⟨fr, cc + 1, rfl, by go_num, HIN2.out⟩
            case measure => simp [intOf]; omega
          · have hq2 : q2 (fnOf O2 cc) ≠ q2 (fnOf O2 fr) := fun e => hk2 (hke2.1 e)
            have HQ2 := Lib.hid hq2
            have d2 : ((ku : Int) != (kv : Int)) = true := by simp; omega
            have d3 : ((ku : Int) == (kv : Int)) = false := by simp; omega
            clear hke2 hq2 hk2
            go_wp2_with fail
            rw [HKU.out, HKV.out] at d2 d3
            go_quiet ((go_at_call 31; exact Calls.quiet_of (HU.out _ (by assumption) _ rfl)))
            have hgive := give_any (wr.drewN nq) w.heap.size a mb w.heap.size bm (bm + 1) n co cm fr cc O2 M2 lv2 done2 (IMEM.out.drewN nq) ISTA.out.low hin.2.1 (by omega) HP.out.nn.2.1 (by omega)
            have HGIVE := Lib.hid hgive
            clear hgive
            go_wp2_with fail
            refine HGIVE.out.mono ?_
            rintro e w4 ⟨M3, lv3, rfl, hm4, hgiv, hat, hst4⟩
            obtain ⟨s4, st4, bg4, lv4⟩ := inner_give HP.out.hB.2.2 ISTA.out (IMEM.out.drewN nq) (ISTEP.out.drewN nq) IBG.out ILV.out hin.2.1 hin.2.2 IEQ.out (fun _ => HQ2.out) hgiv hat hst4
            have HIN2 := Lib.hid (show Inner w B a mb w.heap.size bm (bm + 1) n co cm q (keyAt n t (fnOf R)) (G.drop (k + 1)) f tt wo.heap.size cc (cc + 1) w4 from
              ⟨q2, O2, M3, lv3, _, s4, IRND.out, hm4, st4, bg4, lv4, ⟨by omega, by omega, by omega⟩, fun p hp1 hp2 => by rw [show p = cc by omega], IKEY.out⟩)
            clear hm4 hgiv hat hst4 s4 st4 bg4 lv4
            go_wp2_with fail
            go_roundw
            case rel => exact ⟨cc, cc + 1, rfl, by go_num, HIN2.out⟩
            case measure => simp [intOf]; omega
        · have d1 : decide ((cc : Int) < (tt : Int)) = false := decide_eq_false (by omega)
          have hgive := give_any wr w.heap.size a mb w.heap.size bm (bm + 1) n co cm fr cc O2 M2 lv2 done2 IMEM.out ISTA.out.low hin.2.1 (by omega) HP.out.nn.2.1 (by omega)
          have HGIVE := Lib.hid hgive
          obtain rfl : cc = tt := by omega
          clear hgive
          go_wp2_with fail
          refine HGIVE.out.mono ?_
          rintro e w4 ⟨M3, lv3, rfl, hm4, hgiv, hat, hst4⟩
          obtain ⟨s4, st4, _, _⟩ := inner_give HP.out.hB.2.2 ISTA.out IMEM.out ISTEP.out IBG.out ILV.out hin.2.1 (Nat.le_refl _) IEQ.out (fun h => absurd h (Nat.lt_irrefl _)) hgiv hat hst4
          have HOUT := Lib.hid (show Outer w B a mb w.heap.size bm (bm + 1) n co cm q (keyAt n t (fnOf R)) G (k + 1) w4 from ⟨q2, O2, M3, lv3, _, cc, s4, IRND.out, hm4, st4⟩)
          clear hm4 hgiv hat hst4 s4 st4
          go_wp2_with fail
          go_roundw
          case rel => exact ⟨k + 1, by omega, by go_num, HOUT.out⟩
          case measure => simp [intOf]; omega
    · obtain ⟨q1, O1, M1, lv, done, x, hsta, hrnd, hmem, hstep⟩ := hout
      have hd : G.drop k = [] := List.drop_eq_nil_of_le (by omega)
      rw [hd] at hsta hrnd
      have hfin := hrnd.finer hsta
      have hagain := hsta.again
      have r1 := hstep.blk HP.out.r (by
        obtain ⟨cs, hb, _⟩ := HP.out.rO
        simpa using blk_ne HP.out.r hb (by decide)) (by simp)
      have m0 := blk_cell hmem.qm 0
      have l0 := blk_cell hmem.ql 0
      have c0 := blk_cell r1 0
      have c1 := blk_frozen r1 0
      simp at m0 l0 c0
      obtain ⟨A2, c2, rfl, _, _, _⟩ := own_slice hmem.left
      have hrl : rb ≠ bm + 1 := by omega
      have l1 : ∀ v, (wr.setCell ⟨rb, 0, none⟩ v).cell? ⟨bm + 1, 0, none⟩ = some (.slice A2 done.length c2) := fun v => by
        rw [World.cell?_setCell_other _ _ _ _ (by intro e; simp only [Addr.mk.injEq] at e; omega)]
        exact l0
      have L1 := l1 (.slice (some ⟨mb, 0, none⟩) n cm)
      have HMEM := Lib.hid hmem
      have HSTEP := Lib.hid hstep
      have HAGAIN := Lib.hid hagain
      have HFIN := Lib.hid hfin
      have HR1 := Lib.hid r1
      have d1 : decide ((k : Int) < (G.length : Int)) = false := decide_eq_false (by omega)
      clear hsta hrnd hmem hstep hfin hagain r1 hd l1 l0
      go_wp2_with fail
      go_ret
      have sx : Step B [rb] [] wr (wr.setCell ⟨rb, 0, none⟩ (.slice (some ⟨mb, 0, none⟩) n cm)) := (Step.refl B _ _ wr).set HP.out.hB.2.1 (by simp) _
      refine ⟨_, mb, cm, M1, O1, done, rfl, ?_, ?_, HMEM.out.lM, ?_, HMEM.out.lO, HMEM.out.ne, by omega, ?_, HAGAIN.out, HFIN.out, ?_⟩
      · exact blk_set HR1.out 0 _
      · exact sx.irow HMEM.out.rM (by
          obtain ⟨cs, hb, _⟩ := HMEM.out.rM
          simpa using fun e => blk_ne HR1.out hb (by decide) e.symm) (by simp)
      · exact sx.irow HMEM.out.rO (by
          obtain ⟨cs, hb, _⟩ := HMEM.out.rO
          simpa using fun e => blk_ne HR1.out hb (by decide) e.symm) (by simp)
      · exact sx.row HMEM.out.left (fun j hj => by
          have := row_ne HMEM.out.left HR1.out (by decide) j hj
          simpa using this) (by simp)
      · exact (HSTEP.out.mono (Nat.le_refl _) (by simp) (by simp)).trans (sx.mono (Nat.le_refl _) (by simp) (by simp))

end Go.Proofs.Ytglcideecelemaa
