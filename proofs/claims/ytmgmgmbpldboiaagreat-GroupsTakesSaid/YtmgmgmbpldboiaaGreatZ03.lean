/- Hb Ya Yb: texts laid together, what is not used left out. -/
import Derived.Test.YtmgmgmbpldboiaaGreatZ02
import Derived.Test.YtmgmgmbpldboiaaGreatZ01
import Derived.Deep.LoopGhost
import Derived.Laws.OwnMore
import Derived.Laws.MakeOwn
import Derived.Maps.AppendAt
import Derived.Deep.Onto
namespace Go.Proofs.YtmgmgmbpldboiaaGreat

/-- From a tree up: d times the tree that it is in. -/
inductive Up (ov : Nat → Nat) : Nat → Nat → Nat → Prop
  | here (i : Nat) : Up ov i i 0
  | next {i j d : Nat} (h : Up ov i j d) (h0 : ov j ≠ 0) : Up ov i (ov j) (d + 1)
theorem Up.keep {ov ov2 : Nat → Nat} {i j d : Nat} (h : Up ov i j d) (hk : ∀ x, ov x ≠ 0 → ov2 x = ov x) : Up ov2 i j d := by
  induction h with
  | here => exact .here _
  | next h h0 ih =>
    rename_i j0 d0
    have := hk j0 h0
    rw [← this]
    exact .next ih (by rw [this]; exact h0)
theorem Up.of_eq {ov : Nat → Nat} {i j p d : Nat} (h : Up ov i j d) (hp : ov j = p) (h0 : p ≠ 0) : Up ov i p (d + 1) := by
  subst hp
  exact .next h h0
/-- The way up is one: whoever is d times up. -/
theorem Up.one {ov : Nat → Nat} {i j d : Nat} (h : Up ov i j d) : ∀ {j2 : Nat}, Up ov i j2 d → j = j2 := by
  induction h with
  | here =>
    intro j2 k
    cases k
    rfl
  | next h h0 ih =>
    intro j2 k
    cases k with
    | next k k0 => rw [ih k]
set_option maxRecDepth 100000 in
/-- Two roots above one tree are one, equally far up. -/
theorem Up.root {ov : Nat → Nat} {i j d : Nat} (h : Up ov i j d) (hj : ov j = 0) : ∀ {j2 d2 : Nat}, Up ov i j2 d2 → d2 ≤ d := by
  intro j2 d2 k
  induction k with
  | here => exact Nat.zero_le _
  | next k k0 ih =>
    rename_i j3 d3
    rcases Nat.lt_or_ge d3 d with h1 | h1
    · exact h1
    · exfalso
      have e : d3 = d := by omega
      subst e
      rw [h.one k] at hj
      exact k0 hj
theorem Up.ends {ov : Nat → Nat} {i j d j2 d2 : Nat} (h : Up ov i j d) (hj : ov j = 0) (k : Up ov i j2 d2) (hj2 : ov j2 = 0) : d = d2 :=
  Nat.le_antisymm (k.root hj2 h) (h.root hj k)

/-- n leaves; k trees, of weights ws, each in the tree ov; those that are in none: act; so far the lengths len. -/
structure Grown (n : Nat) (w : List Nat) (k : Nat) (ws ov : Nat → Nat) (act : List Tr) (len : Nat → Nat) : Prop where
  ge : n ≤ k
  pos : 0 < n
  nodup : (act.map Tr.n).Nodup
  root : ∀ t ∈ act, t.n < k ∧ ov t.n = 0 ∧ t.w = ws t.n ∧ ∀ i ∈ t.ms, Up ov i t.n (len i)
  all : ∀ j, j < k → ov j = 0 → ∃ t ∈ act, t.n = j
  par : ∀ j, ov j ≠ 0 → j < ov j ∧ ov j < k
  ms : (act.flatMap Tr.ms).Perm (List.range n)
  count : act.length + k = 2 * n
  run : ∀ L, HRun act k len L → HLen w L
  sum : wsum act = w.sum

theorem grown_start (w : List Nat) (h : 0 < w.length) : Grown w.length w w.length (fun j => w.getD j 0) (fun _ => 0) (leaves w) (fun _ => 0) where
  ge := Nat.le_refl _
  pos := h
  nodup := by
    unfold leaves
    rw [List.map_map]
    have : (Tr.n ∘ fun i => (⟨w.getD i 0, i, [i]⟩ : Tr)) = id := rfl
    rw [this, List.map_id]
    exact List.nodup_range
  root := by
    intro t ht
    obtain ⟨i, hi, rfl⟩ := List.mem_map.1 ht
    refine ⟨List.mem_range.1 hi, rfl, rfl, fun j hj => ?_⟩
    have : j = i := List.mem_singleton.1 hj
    subst this
    exact .here _
  all := by
    intro j hj _
    exact ⟨⟨w.getD j 0, j, [j]⟩, List.mem_map.2 ⟨j, List.mem_range.2 hj, rfl⟩, rfl⟩
  par := fun j h0 => absurd rfl h0
  ms := by rw [leaves_ms]
  count := by
    unfold leaves
    rw [List.length_map, List.length_range]
    omega
  run := fun L h => h
  sum := by
    unfold wsum
    rw [leaves_w]

/-- The tree that stands first among those that are in none. -/
def Least (k : Nat) (ws ov : Nat → Nat) (a : Nat) : Prop := a < k ∧ ov a = 0 ∧ ∀ j, j < k → ov j = 0 → j ≠ a → ws a < ws j ∨ (ws a = ws j ∧ a < j)

set_option maxRecDepth 100000 in
/-- Two trees are joined. -/
theorem grown_next {n k : Nat} {w : List Nat} {ws ov ov1 ov2 : Nat → Nat} {act : List Tr} {len : Nat → Nat} (h : Grown n w k ws ov act len) {a b : Nat}
    (ha : Least k ws ov a) (h1 : ov1 = fun j => if j = a then k else ov j) (hb : Least k ws ov1 b) (h2 : ov2 = fun j => if j = b then k else if j = a then k else ov j) :
    ∃ act2 len2, Grown n w (k + 1) (fun j => if j = k then ws a + ws b else ws j) ov2 act2 len2 := by
  have hk : k ≠ 0 := by have := h.pos; have := h.ge; omega
  obtain ⟨ta, hta, hna⟩ := h.all a ha.1 ha.2.1
  have hba : b ≠ a := by
    intro e
    have := hb.2.1
    rw [h1] at this
    simp [e] at this
    exact hk this
  have hob : ov b = 0 := by
    have := hb.2.1
    rw [h1] at this
    simpa [hba] using this
  obtain ⟨tb, htb, hnb⟩ := h.all b hb.1 hob
  have hok : ov k = 0 := by
    by_cases e : ov k = 0
    · exact e
    · have := h.par k e
      omega
  have split : ∀ {l : List Tr} {x : Tr}, x ∈ l → ∃ r, l.Perm (x :: r) := by
    intro l x hx
    obtain ⟨s, u, rfl⟩ := List.append_of_mem hx
    exact ⟨s ++ u, List.perm_middle⟩
  obtain ⟨r1, hr1⟩ := split hta
  have htb1 : tb ∈ r1 := by
    rcases List.mem_cons.1 (hr1.mem_iff.1 htb) with e | e
    · exfalso
      rw [e, hna] at hnb
      exact hba hnb.symm
    · exact e
  obtain ⟨r, hr⟩ := split htb1
  have hp : act.Perm (ta :: tb :: r) := hr1.trans (hr.cons ta)
  have hnd := (hp.map Tr.n).nodup_iff.1 h.nodup
  rw [List.map_cons, List.map_cons, List.nodup_cons, List.nodup_cons] at hnd
  obtain ⟨hnd1, hnd2, hnd3⟩ := hnd
  have hra : ∀ t ∈ r, t ∈ act ∧ t.n ≠ a ∧ t.n ≠ b := by
    intro t ht
    refine ⟨hp.mem_iff.2 (List.mem_cons_of_mem _ (List.mem_cons_of_mem _ ht)), fun e => ?_, fun e => ?_⟩
    · exact hnd1 (by rw [hna, ← e]; exact List.mem_cons_of_mem _ (List.mem_map_of_mem ht))
    · exact hnd2 (by rw [hnb, ← e]; exact List.mem_map_of_mem ht)
  have hta2 := h.root ta hta
  have htb2 := h.root tb htb
  rw [hna] at hta2
  rw [hnb] at htb2
  have hA : ∀ t ∈ tb :: r, Ahead ta t := by
    intro t ht
    have h3 : t ∈ act ∧ t.n ≠ a := by
      rcases List.mem_cons.1 ht with rfl | ht
      · exact ⟨htb, by rw [hnb]; exact hba⟩
      · exact ⟨(hra t ht).1, (hra t ht).2.1⟩
    have h4 := h.root t h3.1
    have h5 := ha.2.2 t.n h4.1 h4.2.1 h3.2
    unfold Ahead
    rw [hta2.2.2.1, h4.2.2.1, hna]
    exact h5
  have hB : ∀ t ∈ r, Ahead tb t := by
    intro t ht
    have h3 := hra t ht
    have h4 := h.root t h3.1
    have h5 := hb.2.2 t.n h4.1 (by rw [h1]; simp [h3.2.1, h4.2.1]) h3.2.2
    unfold Ahead
    rw [htb2.2.2.1, h4.2.2.1, hnb]
    exact h5
  have hov2 : ∀ x, ov x ≠ 0 → ov2 x = ov x := by
    intro x hx
    have e1 : x ≠ a := fun e => hx (by rw [e]; exact ha.2.1)
    have e2 : x ≠ b := fun e => hx (by rw [e]; exact hob)
    rw [h2]
    simp [e1, e2]
  have hms := hp.flatMap_right Tr.ms
  have hnodup : ((ta :: tb :: r).flatMap Tr.ms).Nodup := hms.nodup_iff.1 (h.ms.nodup_iff.2 List.nodup_range)
  rw [List.flatMap_cons, List.flatMap_cons, ← List.append_assoc, List.nodup_append] at hnodup
  refine ⟨joined ta tb k :: r, more (ta.ms ++ tb.ms) len, ?_⟩
  constructor
  case ge => have := h.ge; omega
  case pos => exact h.pos
  case nodup =>
    rw [List.map_cons, List.nodup_cons]
    refine ⟨fun hk2 => ?_, hnd3⟩
    obtain ⟨t, ht, e⟩ := List.mem_map.1 hk2
    have h4 := (h.root t (hra t ht).1).1
    rw [e] at h4
    exact absurd h4 (Nat.lt_irrefl _)
  case root =>
    intro t ht
    rcases List.mem_cons.1 ht with rfl | ht
    · refine ⟨Nat.lt_succ_self k, ?_, ?_, ?_⟩
      · show ov2 k = 0
        have e1 : k ≠ a := fun e => by have := ha.1; omega
        have e2 : k ≠ b := fun e => by have := hb.1; omega
        rw [h2]
        simp [e1, e2, hok]
      · show ta.w + tb.w = if k = k then ws a + ws b else ws k
        rw [if_pos rfl, hta2.2.2.1, htb2.2.2.1]
      · intro i hi
        have hi2 : i ∈ ta.ms ++ tb.ms := hi
        show Up ov2 i k (more (ta.ms ++ tb.ms) len i)
        unfold more
        rw [if_pos hi2]
        rcases List.mem_append.1 hi2 with hi | hi
        · exact ((hta2.2.2.2 i hi).keep hov2).of_eq (by rw [h2]; simp [hba.symm]) hk
        · exact ((htb2.2.2.2 i hi).keep hov2).of_eq (by rw [h2]; simp) hk
    · have h3 := hra t ht
      have h4 := h.root t h3.1
      refine ⟨by omega, ?_, ?_, ?_⟩
      · rw [h2]
        simp [h3.2.1, h3.2.2, h4.2.1]
      · show t.w = if t.n = k then ws a + ws b else ws t.n
        rw [if_neg (by omega)]
        exact h4.2.2.1
      · intro i hi
        have hni : i ∉ ta.ms ++ tb.ms := fun hm => hnodup.2.2 i hm i (List.mem_flatMap.2 ⟨t, ht, hi⟩) rfl
        unfold more
        rw [if_neg hni]
        exact (h4.2.2.2 i hi).keep hov2
  case all =>
    intro j hj h0
    by_cases e : j = k
    · exact ⟨_, List.mem_cons_self, e.symm⟩
    · have hja : j ≠ a := fun e2 => hk (by rw [h2, e2] at h0; simpa [hba.symm] using h0)
      have hjb : j ≠ b := fun e2 => hk (by rw [h2, e2] at h0; simpa using h0)
      have h0' : ov j = 0 := by
        rw [h2] at h0
        simpa [hja, hjb] using h0
      obtain ⟨t, ht, e3⟩ := h.all j (by omega) h0'
      rcases List.mem_cons.1 (hp.mem_iff.1 ht) with e4 | e4
      · exfalso
        rw [e4, hna] at e3
        exact hja e3.symm
      · rcases List.mem_cons.1 e4 with e5 | e5
        · exfalso
          rw [e5, hnb] at e3
          exact hjb e3.symm
        · exact ⟨t, List.mem_cons_of_mem _ e5, e3⟩
  case par =>
    intro j h0
    by_cases hja : j = a
    · have : ov2 j = k := by rw [h2, hja]; simp [hba.symm]
      rw [this, hja]
      exact ⟨ha.1, Nat.lt_succ_self k⟩
    · by_cases hjb : j = b
      · have : ov2 j = k := by rw [h2, hjb]; simp
        rw [this, hjb]
        exact ⟨hb.1, Nat.lt_succ_self k⟩
      · have : ov2 j = ov j := by rw [h2]; simp [hja, hjb]
        rw [this] at h0 ⊢
        have := h.par j h0
        omega
  case ms =>
    rw [List.flatMap_cons]
    have h3 := hms.symm.trans h.ms
    rw [List.flatMap_cons, List.flatMap_cons, ← List.append_assoc] at h3
    exact h3
  case count =>
    have h3 := hp.length_eq
    have h4 := h.count
    rw [List.length_cons, List.length_cons] at h3
    rw [List.length_cons]
    omega
  case run =>
    intro L hL
    exact h.run L (.step hp hA hB hL)
  case sum =>
    have h3 := wsum_perm hp
    rw [h.sum] at h3
    rw [h3]
    unfold wsum
    rw [List.map_cons, List.map_cons, List.map_cons, List.sum_cons, List.sum_cons, List.sum_cons]
    show ta.w + tb.w + _ = _
    omega

set_option maxRecDepth 100000 in
/-- When every tree but one is in one, the way up tells the lengths. -/
theorem grown_end {n k : Nat} {w : List Nat} {ws ov : Nat → Nat} {act : List Tr} {len : Nat → Nat} (h : Grown n w k ws ov act len) (hk : k + 1 = 2 * n) :
    HLen w len ∧ ∀ i, i < n → ∃ r, Up ov i r (len i) ∧ ov r = 0 := by
  have hc := h.count
  match act, hc, h with
  | [], hc, h =>
    simp at hc
    omega
  | [t], _, h =>
    refine ⟨h.run len (.one t k len), fun i hi => ?_⟩
    have hm : i ∈ [t].flatMap Tr.ms := h.ms.mem_iff.2 (List.mem_range.2 hi)
    have hi2 : i ∈ t.ms := by simpa using hm
    have h4 := h.root t List.mem_cons_self
    exact ⟨t.n, h4.2.2.2 i hi2, h4.2.1⟩
  | t :: u :: r, hc, h =>
    simp at hc
    omega
set_option maxRecDepth 100000 in
/-- There are two trees still that are in none. -/
theorem grown_two {n k : Nat} {w : List Nat} {ws ov : Nat → Nat} {act : List Tr} {len : Nat → Nat} (h : Grown n w k ws ov act len) (hk : k + 1 < 2 * n) :
    ∃ a b, a < k ∧ b < k ∧ a ≠ b ∧ ov a = 0 ∧ ov b = 0 := by
  have hc := h.count
  match act, hc, h with
  | [], hc, h =>
    simp at hc
    omega
  | [t], hc, h =>
    simp at hc
    omega
  | t :: u :: r, hc, h =>
    have h1 := h.root t List.mem_cons_self
    have h2 := h.root u (List.mem_cons_of_mem _ List.mem_cons_self)
    have hnd := h.nodup
    rw [List.map_cons, List.nodup_cons] at hnd
    refine ⟨t.n, u.n, h1.1, h2.1, fun e => hnd.1 ?_, h1.2.1, h2.2.1⟩
    rw [e]
    exact List.mem_cons_self

set_option maxRecDepth 100000 in
/-- Two trees that are in none weigh no more than all. -/
theorem grown_weigh {n k : Nat} {w : List Nat} {ws ov : Nat → Nat} {act : List Tr} {len : Nat → Nat} (h : Grown n w k ws ov act len) {a b : Nat} (ha : a < k) (hb : b < k) (hab : a ≠ b) (ha0 : ov a = 0) (hb0 : ov b = 0) : ws a + ws b ≤ w.sum := by
  obtain ⟨ta, hta, hna⟩ := h.all a ha ha0
  obtain ⟨tb, htb, hnb⟩ := h.all b hb hb0
  obtain ⟨s, u, hsu⟩ := List.append_of_mem hta
  have hp : act.Perm (ta :: (s ++ u)) := by rw [hsu]; exact List.perm_middle
  have htb1 : tb ∈ s ++ u := by
    rcases List.mem_cons.1 (hp.mem_iff.1 htb) with e | e
    · exfalso
      rw [e, hna] at hnb
      exact hab hnb
    · exact e
  obtain ⟨s2, u2, hsu2⟩ := List.append_of_mem htb1
  have hp2 : (s ++ u).Perm (tb :: (s2 ++ u2)) := by rw [hsu2]; exact List.perm_middle
  have h3 := wsum_perm (hp.trans (hp2.cons ta))
  rw [h.sum] at h3
  rw [h3]
  unfold wsum
  rw [List.map_cons, List.map_cons, List.sum_cons, List.sum_cons, (h.root ta hta).2.2.1, (h.root tb htb).2.2.1, hna, hnb]
  omega

end Go.Proofs.YtmgmgmbpldboiaaGreat
namespace Go.Proofs.YtmgmgmbpldboiaaGreat
open Go.RowKit

/-- Weights may be. -/
def MayW (L : List Int) : Prop := 2 ≤ L.length ∧ L.length ≤ 258 ∧ ∀ x ∈ L, 0 ≤ x ∧ x ≤ 1073741824
instance (L : List Int) : Decidable (MayW L) := inferInstanceAs (Decidable (_ ∧ _))
theorem take_snoc_int (L : List Int) (q : Nat) (h : q < L.length) : L.take (q + 1) = L.take q ++ [L.getD q 0] := by
  rw [List.take_succ_eq_append_getElem h, List.getD_eq_getElem?_getD, List.getElem?_eq_getElem h]
  rfl
theorem getD_mem_int (L : List Int) (q : Nat) (h : q < L.length) : L.getD q 0 ∈ L := by
  rw [List.getD_eq_getElem?_getD, List.getElem?_eq_getElem h]
  exact List.getElem_mem h

set_option maxHeartbeats 1600000 in
set_option maxRecDepth 100000 in
theorem may_any (w : World) (A : Option Addr) (n c : Nat) (L : List Int) (hL : ZIn w A n L) (hn : n ≤ maxLen) : Calls Tryz.prog 77 #[.slice A n c] w fun e w' => e = .returned (.bool (decide (MayW L))) ∧ w' = w := by
  unfold maxLen at hn
  have hlm := hL.1
  have HL := Lib.hid hL
  have HLM := Lib.hid hlm
  have HNO : Hid (∀ x ∈ L, (x < 0 ∨ 1073741824 < x) → decide (MayW L) = false) := Lib.hid fun x hx h => decide_eq_false fun hm => by
    have := hm.2.2 x hx
    omega
  have HYES : Hid ((∀ x ∈ L, 0 ≤ x ∧ x ≤ 1073741824) → decide (MayW L) = (decide (2 ≤ n) && decide (n ≤ 258))) := Lib.hid fun h => by
    rw [← Bool.decide_and]
    refine decide_eq_decide.2 ⟨fun hm => ?_, fun hm => ?_⟩
    · have := hm.1
      have := hm.2.1
      omega
    · exact ⟨by omega, by omega, h⟩
  clear hL hlm
  generalize decide (MayW L) = ans at *
  go_enter Tryz.func77, Tryz.ntmps77
  go_wp2_with fail
  go_loopw [3] (fun i wx => ∃ q : Nat, q ≤ n ∧ i = .int .i64 q ∧ Hid (∀ x ∈ L.take q, 0 ≤ x ∧ x ≤ 1073741824) ∧ wx = w) (fun i _ => n - (intOf i).toNat)
  case atStart => exact ⟨0, Nat.zero_le _, rfl, by simp [Hid], rfl⟩
  case round =>
    obtain ⟨q, hq, rfl, hv, rfl⟩ := hrel
    by_cases e : q < n
    · have dq : decide ((q : Int) < (n : Int)) = true := decide_eq_true (by omega)
      obtain ⟨b, off, rfl, hc⟩ := HL.out.2 (by omega)
      have hcw := hc q e
      have htk := take_snoc_int L q (by rw [HLM.out]; exact e)
      have hmem := getD_mem_int L q (by rw [HLM.out]; exact e)
      obtain ⟨x, hx⟩ : ∃ x, x = L.getD q 0 := ⟨_, rfl⟩
      rw [← hx] at hcw htk hmem
      have HTK := Lib.hid htk
      have HM := Lib.hid hmem
      clear hc hx htk hmem
      by_cases e1 : x < 0
      · have d1 : decide (x < 0) = true := decide_eq_true e1
        have hans := HNO.out x HM.out (.inl e1)
        subst hans
        go_wp2_with fail
        go_ret
        exact ⟨rfl, rfl⟩
      · have d1 : decide (x < 0) = false := decide_eq_false e1
        by_cases e2 : 1073741824 < x
        · have d2 : decide (1073741824 < x) = true := decide_eq_true e2
          have hans := HNO.out x HM.out (.inr e2)
          subst hans
          go_wp2_with fail
          go_ret
          exact ⟨rfl, rfl⟩
        · have d2 : decide (1073741824 < x) = false := decide_eq_false e2
          have hv2 : ∀ y ∈ L.take (q + 1), 0 ≤ y ∧ y ≤ 1073741824 := by
            rw [HTK.out]
            intro y hy
            rcases List.mem_append.1 hy with hy | hy
            · exact hv.out y hy
            · rw [List.mem_singleton.1 hy]
              omega
          have HV2 := Lib.hid hv2
          clear hv2
          go_wp2_with fail
          go_roundw
          case rel => exact ⟨q + 1, by omega, by go_num, HV2, trivial⟩
          case measure => simp [intOf]; omega
    · obtain rfl : q = n := by omega
      have dq : decide ((q : Int) < (q : Int)) = false := decide_eq_false (by omega)
      have hv2 := hv.out
      rw [List.take_of_length_le (Nat.le_of_eq HLM.out)] at hv2
      have hans := HYES.out hv2
      have d1 : decide ((2 : Int) ≤ (q : Int)) = decide (2 ≤ q) := decide_eq_decide.2 (by omega)
      have d2 : decide ((q : Int) ≤ 258) = decide (q ≤ 258) := decide_eq_decide.2 (by omega)
      subst hans
      clear hv2 HNO HYES
      by_cases h1 : 2 ≤ q
      · have d3 : decide (2 ≤ q) = true := decide_eq_true h1
        go_wp2_with fail
        go_ret
        exact ⟨by simp [h1], rfl⟩
      · have d3 : decide (2 ≤ q) = false := decide_eq_false h1
        go_wp2_with fail
        go_ret
        exact ⟨by simp [h1], rfl⟩

/-- The first of those that are gone over. -/
def LeastTo (q : Nat) (ws ov : Nat → Nat) (at_ : Int) : Prop := (at_ = -1 ∧ ∀ j, j < q → ov j ≠ 0) ∨ ∃ a : Nat, at_ = a ∧ a < q ∧ ov a = 0 ∧ ∀ j, j < q → ov j = 0 → j ≠ a → ws a < ws j ∨ (ws a = ws j ∧ a < j)

set_option maxHeartbeats 3200000 in
set_option maxRecDepth 100000 in
theorem least_any (w : World) (A B : Option Addr) (k c d : Nat) (W O : List Nat) (hW : IntsIn w A k W) (hO : IntsIn w B k O) (hk : k ≤ 10000) (h0 : ∃ j, j < k ∧ O.getD j 0 = 0) :
    Calls Tryz.prog 121 #[.slice A k c, .slice B k d] w fun e w' => ∃ a : Nat, e = .returned (.int .i64 a) ∧ Least k (fun j => W.getD j 0) (fun j => O.getD j 0) a ∧ ∃ m, w' = w.drewN m := by
  have HW := Lib.hid hW
  have HO := Lib.hid hO
  have H0 := Lib.hid h0
  obtain ⟨ws, hws⟩ : ∃ ws : Nat → Nat, ws = fun j => W.getD j 0 := ⟨_, rfl⟩
  obtain ⟨ov, hov⟩ : ∃ ov : Nat → Nat, ov = fun j => O.getD j 0 := ⟨_, rfl⟩
  have HWS := Lib.hid hws
  have HOV := Lib.hid hov
  have hP : Hid (∀ (a : Nat) (m : Nat), Least k ws ov a → (fun e w' => ∃ a : Nat, e = Ending.returned (.int .i64 a) ∧ Least k (fun j => W.getD j 0) (fun j => O.getD j 0) a ∧ ∃ m, w' = w.drewN m) (.returned (.int .i64 a)) (w.drewN m)) := Lib.hid fun a m h => ⟨a, rfl, by rw [← hws, ← hov]; exact h, m, rfl⟩
  generalize (fun e w' => ∃ a : Nat, e = Ending.returned (.int .i64 a) ∧ Least k (fun j => W.getD j 0) (fun j => O.getD j 0) a ∧ ∃ m, w' = w.drewN m) = PO at *
  clear hW hO h0 hws hov
  go_enter Tryz.func121, Tryz.ntmps121
  go_wp2_with fail
  go_loopw [5, 6] (fun v i wx => ∃ (q : Nat) (at_ : Int), q ≤ k ∧ i = .int .i64 q ∧ v = .int .i64 at_ ∧ Hid (LeastTo q ws ov at_) ∧ ∃ m, wx = w.drewN m) (fun _ i _ => k - (intOf i).toNat)
  case atStart => exact ⟨0, -1, Nat.zero_le _, rfl, rfl, .inl ⟨rfl, fun j hj => by omega⟩, 0, rfl⟩
  case round =>
    obtain ⟨q, at_, hq, rfl, rfl, hl, hd⟩ := hrel
    have HD := Lib.hid hd
    by_cases e : q < k
    · have dq : decide ((q : Int) < (k : Int)) = true := decide_eq_true (by omega)
      obtain ⟨b1, o1, rfl, hc1⟩ := HW.out.2 (by omega)
      obtain ⟨b2, o2, rfl, hc2⟩ := HO.out.2 (by omega)
      have c1 : wr.cell? ⟨b1, o1 + q, none⟩ = some (.int .i64 (ws q : Nat)) := by rw [HWS.out]; obtain ⟨m, rfl⟩ := hd; exact hc1 q e
      have c2 : wr.cell? ⟨b2, o2 + q, none⟩ = some (.int .i64 (ov q : Nat)) := by rw [HOV.out]; obtain ⟨m, rfl⟩ := hd; exact hc2 q e
      obtain ⟨x, hx⟩ : ∃ x, x = ov q := ⟨_, rfl⟩
      obtain ⟨y, hy⟩ : ∃ y, y = ws q := ⟨_, rfl⟩
      rw [← hx] at c2
      rw [← hy] at c1
      have HX := Lib.hid hx
      have HY := Lib.hid hy
      have hc1' : ∀ a : Nat, a < k → wr.cell? ⟨b1, o1 + a, none⟩ = some (.int .i64 (ws a : Nat)) := by
        intro a ha
        rw [HWS.out]
        obtain ⟨m, rfl⟩ := hd
        exact hc1 a ha
      have HC1 := Lib.hid hc1'
      clear hx hy hc1 hc2 hd hc1'
      by_cases e1 : x = 0
      · subst e1
        rcases hl.out with ⟨rfl, hno⟩ | ⟨a, rfl, ha, hoa, hall⟩
        · have d1 : ((((0 : Nat) : Int)) == 0) = true := rfl
          have HL2 : Hid (LeastTo (q + 1) ws ov (q : Int)) := Lib.hid (.inr ⟨q, rfl, Nat.lt_succ_self q, HX.out.symm, fun j hj h0 hne => absurd h0 (hno j (by omega))⟩)
          clear hno hl
          go_wp2_with fail
          go_quiet (fail)
          go_wp2_with fail
          go_roundw
          case rel =>
            obtain ⟨m, hm⟩ := HD.out
            exact ⟨q + 1, q, by omega, by go_num, rfl, HL2, m + nq, by rw [hm]; simp⟩
          case measure => simp [intOf]; omega
        · have d1 : ((((0 : Nat) : Int)) == 0) = true := rfl
          have ca := HC1.out a (by omega)
          obtain ⟨z, hz⟩ : ∃ z, z = ws a := ⟨_, rfl⟩
          rw [← hz] at ca
          have HZ := Lib.hid hz
          have d2 : decide ((a : Int) < 0) = false := decide_eq_false (by omega)
          have hak : (a : Int) < (k : Int) := by omega
          clear hz
          by_cases e2 : y < z
          · have d3 : decide ((y : Int) < (z : Int)) = true := decide_eq_true (by omega)
            have HL2 : Hid (LeastTo (q + 1) ws ov (q : Int)) := Lib.hid (.inr ⟨q, rfl, Nat.lt_succ_self q, HX.out.symm, fun j hj h0 hne => by
              left
              rw [← HY.out]
              by_cases ej : j = a
              · rw [ej, ← HZ.out]
                exact e2
              · have := hall j (by omega) h0 ej
                rw [← HZ.out] at this
                omega⟩)
            clear hall hl
            go_wp2_with fail
            go_quiet (fail)
            go_wp2_with fail
            go_roundw
            case rel =>
              obtain ⟨m, hm⟩ := HD.out
              exact ⟨q + 1, q, by omega, by go_num, rfl, HL2, m + nq, by rw [hm]; simp⟩
            case measure => simp [intOf]; omega
          · have d3 : decide ((y : Int) < (z : Int)) = false := decide_eq_false (by omega)
            have HL2 : Hid (LeastTo (q + 1) ws ov (a : Int)) := Lib.hid (.inr ⟨a, rfl, by omega, hoa, fun j hj h0 hne => by
              by_cases ej : j = q
              · rw [ej, ← HY.out, ← HZ.out]
                omega
              · exact hall j (by omega) h0 hne⟩)
            clear hall hl
            go_wp2_with fail
            go_quiet (fail)
            go_wp2_with fail
            go_roundw
            case rel =>
              obtain ⟨m, hm⟩ := HD.out
              exact ⟨q + 1, a, by omega, by go_num, rfl, HL2, m + nq, by rw [hm]; simp⟩
            case measure => simp [intOf]; omega
      · have d1 : ((x : Int) == 0) = false := by
          rw [beq_eq_false_iff_ne]
          omega
        have HL2 : Hid (LeastTo (q + 1) ws ov at_) := Lib.hid (by
          rcases hl.out with ⟨rfl, hno⟩ | ⟨a, rfl, ha, hoa, hall⟩
          · exact .inl ⟨rfl, fun j hj => by
              by_cases ej : j = q
              · rw [ej, ← HX.out]
                exact e1
              · exact hno j (by omega)⟩
          · exact .inr ⟨a, rfl, by omega, hoa, fun j hj h0 hne => by
              by_cases ej : j = q
              · rw [ej, ← HX.out] at h0
                exact absurd h0 e1
              · exact hall j (by omega) h0 hne⟩)
        clear hl
        go_wp2_with fail
        go_quiet (fail)
        go_wp2_with fail
        go_roundw
        case rel =>
          obtain ⟨m, hm⟩ := HD.out
          exact ⟨q + 1, at_, by omega, by go_num, rfl, HL2, m + nq, by rw [hm]; simp⟩
        case measure => simp [intOf]; omega
    · obtain rfl : q = k := by omega
      have dq : decide ((q : Int) < (q : Int)) = false := decide_eq_false (by omega)
      rcases hl.out with ⟨rfl, hno⟩ | ⟨a, rfl, ha, hoa, hall⟩
      · exfalso
        obtain ⟨j, hj, hj0⟩ := H0.out
        exact hno j hj (by rw [HOV.out]; exact hj0)
      · have HLE : Hid (Least q ws ov a) := Lib.hid ⟨ha, hoa, hall⟩
        obtain ⟨m, rfl⟩ := hd
        clear hall hl
        go_wp2_with fail
        exact hP.out a m HLE.out

end Go.Proofs.YtmgmgmbpldboiaaGreat
namespace Go.Proofs.YtmgmgmbpldboiaaGreat
open Go.RowKit

/-- The numbers of a row, by their places. -/
def rowF (n : Nat) (f : Nat → Nat) : List Value := (List.range n).map fun j => iv (f j)
set_option maxRecDepth 100000 in
theorem rowF_length (n : Nat) (f : Nat → Nat) : (rowF n f).length = n := by simp [rowF]
theorem rowF_get (n : Nat) (f : Nat → Nat) (i : Nat) (h : i < n) : (rowF n f)[i]? = some (iv (f i)) := by
  unfold rowF
  rw [List.getElem?_map, List.getElem?_range h]
  rfl
theorem rowF_set (n : Nat) (f : Nat → Nat) (i v : Nat) : (rowF n f).set i (iv v) = rowF n fun j => if j = i then v else f j := by
  apply List.ext_getElem?
  intro j
  by_cases hj : j < n
  · rw [rowF_get n _ j hj]
    by_cases e : i = j
    · subst e
      rw [List.getElem?_set_self (by rw [rowF_length]; exact hj), if_pos rfl]
    · rw [List.getElem?_set_ne e, rowF_get n f j hj, if_neg (fun h => e h.symm)]
  · rw [List.getElem?_eq_none (by rw [List.length_set, rowF_length]; omega), List.getElem?_eq_none (by rw [rowF_length]; omega)]
theorem rowF_same (n : Nat) (f g : Nat → Nat) (h : ∀ j, j < n → f j = g j) : rowF n f = rowF n g := by
  unfold rowF
  refine List.map_congr_left fun j hj => ?_
  rw [h j (List.mem_range.1 hj)]
set_option maxRecDepth 100000 in
theorem rowF_snoc (n : Nat) (f : Nat → Nat) (v : Nat) : rowF n f ++ [iv v] = rowF (n + 1) fun j => if j = n then v else f j := by
  unfold rowF
  rw [List.range_succ, List.map_append]
  congr 1
  · refine List.map_congr_left fun j hj => ?_
    have := List.mem_range.1 hj
    show iv (f j) = iv (if j = n then v else f j)
    rw [if_neg (by omega)]
  · simp
theorem rowF_list (L : List Nat) : L.map iv = rowF L.length fun j => L.getD j 0 := by
  apply List.ext_getElem?
  intro j
  by_cases hj : j < L.length
  · rw [rowF_get _ _ j hj, List.getElem?_map, List.getElem?_eq_getElem hj, List.getD_eq_getElem?_getD, List.getElem?_eq_getElem hj]
    rfl
  · rw [List.getElem?_eq_none (by rw [List.length_map]; omega), List.getElem?_eq_none (by rw [rowF_length]; omega)]

/-- A row of n numbers that is the call's own, at block g. -/
def FRow (w : World) (B g c n : Nat) (f : Nat → Nat) : Prop := w.ownsRow B 3 1 (.slice (some ⟨g, 0, none⟩) n c) n (rowF n f)
theorem FRow.cell {w : World} {B g c n : Nat} {f : Nat → Nat} (h : FRow w B g c n f) (i : Nat) (hi : i < n) : w.cell? ⟨g, i, none⟩ = some (.int .i64 (f i : Nat)) := by
  rw [World.ownsRow.cellAt h i (by omega), rowF_get n f i hi]
  rfl
theorem FRow.frozen {w : World} {B g c n : Nat} {f : Nat → Nat} (h : FRow w B g c n f) (i : Nat) : w.frozen? ⟨g, i, none⟩ = false := World.ownsRow.frozenAt h i
theorem FRow.set {w : World} {B g c n : Nat} {f : Nat → Nat} (h : FRow w B g c n f) (i v : Nat) : FRow (w.setCell ⟨g, i, none⟩ (.int .i64 v)) B g c n fun j => if j = i then v else f j := by
  have := (World.ownsRow.stored h i (iv v)).1
  rw [rowF_set] at this
  exact this
set_option maxRecDepth 100000 in
theorem FRow.other {w : World} {B g c n : Nat} {f : Nat → Nat} (h : FRow w B g c n f) {g2 : Nat} (hne : g2 ≠ g) (i : Nat) (v : Value) : FRow (w.setCell ⟨g2, i, none⟩ v) B g c n f := by
  refine World.ownsRow.kept (row := some g2) h ⟨rfl, rfl, rfl, by simp, fun k _ hk => heap_setCell_other w ⟨g2, i, none⟩ k v (fun e => hk (by simp [e]))⟩ (.inr ?_)
  intro e
  exact hne (by simpa [Value.ownBlock] using e.symm)
theorem FRow.grown {w w' : World} {B g c n : Nat} {f : Nat → Nat} (h : FRow w B g c n f) {row : Option Nat} (hg : w.grownBy w' row) (hne : some g ≠ row) : FRow w' B g c n f :=
  World.ownsRow.kept h hg (.inr hne)
theorem FRow.lt {w : World} {B g c n : Nat} {f : Nat → Nat} (h : FRow w B g c n f) : B ≤ g ∧ g < w.heap.size := World.ownsRow.lt h g rfl
theorem FRow.drew {w : World} {B g c n : Nat} {f : Nat → Nat} (h : FRow w B g c n f) (m : Nat) : FRow (w.drewN m) B g c n f := h
theorem FRow.alloc {w : World} {B g c n : Nat} {f : Nat → Nat} (h : FRow w B g c n f) (o : Obj) : FRow (w.alloc o) B g c n f := World.ownsRow.alloc h o
theorem FRow.ints {w : World} {B g c n : Nat} {f : Nat → Nat} (h : FRow w B g c n f) : IntsIn w (some ⟨g, 0, none⟩) n ((List.range n).map f) := by
  refine ints_of_own (B := B) (cap := c) ?_
  rw [List.map_map]
  exact h
set_option maxRecDepth 100000 in
theorem FRow.below {w w' : World} {B C g c n : Nat} {f : Nat → Nat} (h : FRow w B g c n f) (hb : Below C w w') (hg : g < C) : FRow w' B g c n f := by
  rcases h.2 with ⟨h', _⟩ | ⟨g', cap', cur, h', hB, hgg, rest⟩
  · simp at h'
  · simp only [Value.slice.injEq, Option.some.injEq, Addr.mk.injEq, and_true, true_and] at h'
    obtain ⟨rfl, rfl⟩ := h'
    exact ⟨h.1, .inr ⟨g, c, cur, rfl, hB, (hb.block g hg).trans hgg, rest⟩⟩
theorem range_getD (n : Nat) (f : Nat → Nat) (j : Nat) (h : j < n) : ((List.range n).map f).getD j 0 = f j := by
  rw [List.getD_eq_getElem?_getD, List.getElem?_map, List.getElem?_range h]
  rfl
set_option maxRecDepth 100000 in
/-- A row of noughts that is made. -/
theorem made_noughts (w : World) (B n : Nat) (hB : B ≤ w.heap.size) (hn : n ≤ 1000000) : FRow (w.alloc (.cells (madeCells #[.int .i64 0] n) 3)) B w.heap.size n n fun _ => 0 := by
  refine ⟨by rw [rowF_length, Nat.mul_one], .inr ⟨w.heap.size, n, _, rfl, hB, heap_alloc_new w _, Nat.le_refl _, by unfold maxLen; omega, by rw [size_madeCells, Nat.mul_one], ?_⟩⟩
  rw [toList_madeCells_one, Nat.mul_one, List.take_of_length_le (by simp)]
  unfold rowF
  rw [List.map_const', List.length_range]
  rfl
theorem make_noughts (w : World) (n : Nat) (hn : n ≤ 1000000) : (Instr.makeSlice 22 (.int .i64 n) (.int .i64 n)).run Tryz.prog w = .ok (.slice (some ⟨w.heap.size, 0, none⟩) n n) (w.alloc (.cells (madeCells #[.int .i64 0] n) 3)) := by
  obtain ⟨i3, h3, hz0, hz1, hz2⟩ := info_parts Tryz.info3
  have h := run_make (P := Tryz.prog) w 22 3 i3 (.int .i64 0) Tryz.underlying22 h3 hz0 .i64 .i64 (n : Int) (n : Int) (by omega) (by omega) (by rw [hz2]; omega) (by omega)
  rw [hz1, Int.toNat_natCast, Nat.mul_one] at h
  exact h
set_option maxRecDepth 100000 in
/-- One number appended to such a row. -/
theorem append_one (w : World) (B g c n : Nat) (f : Nat → Nat) (h : FRow w B g c n f) (x : Nat) (hn : n ≤ 1000000) (hB : B ≤ w.heap.size) :
    ∃ g2 c2 w2, (Builtin.append_ #[22, 22] 22 #[.slice (some ⟨g, 0, none⟩) n c, .slice (some ⟨w.heap.size, 0, none⟩) 1 1]).run Tryz.prog (w.alloc (.cells #[.int .i64 x] 3)) = .ok (.slice (some ⟨g2, 0, none⟩) (n + 1) c2) w2 ∧
      FRow w2 B g2 c2 (n + 1) (fun j => if j = n then x else f j) ∧ (w.alloc (.cells #[.int .i64 x] 3)).grownBy w2 (some g) ∧ (g2 = g ∨ w.heap.size < g2) := by
  obtain ⟨i3, h3, hz0, hz1, hz2⟩ := info_parts Tryz.info3
  obtain ⟨v2, w2, hr, ho, hg, _, hat⟩ := run_append_own_at (P := Tryz.prog) (w.alloc (.cells #[.int .i64 x] 3)) B 22 22 3 i3 (.int .i64 0) 1 8 Tryz.underlying22 h3 hz0 hz1 hz2 rfl (by decide) _ _ _ (h.alloc _) ⟨w.heap.size, 0, none⟩ 1 1 [iv x] rfl (cell_one w (iv x) 3)
    (fun u hu => by rw [List.mem_singleton.1 hu]; rfl) (by unfold maxLen; omega) (by omega) (by simp; omega)
  obtain ⟨A, c2, rfl, hc, hm, hA⟩ := own_slice ho
  obtain ⟨g2, rfl⟩ := hA (by omega)
  rw [rowF_snoc] at ho
  refine ⟨g2, c2, w2, hr, ho, hg, ?_⟩
  rcases hat with e | e
  · left
    simpa [Value.ownBlock] using e
  · right
    have : g2 = (w.alloc (.cells #[.int .i64 x] 3)).heap.size := by simpa [Value.ownBlock] using e
    rw [this]
    simp

/-- The greatest of numbers. -/
def IsMax (n : Nat) (f : Nat → Nat) (g : Nat) : Prop := (∀ i, i < n → f i ≤ g) ∧ ∃ i, i < n ∧ f i = g
set_option maxHeartbeats 1600000 in
set_option maxRecDepth 100000 in
theorem greatest_any (w : World) (A : Option Addr) (n c : Nat) (L : List Nat) (hL : IntsIn w A n L) (h1 : 1 ≤ n) (hn : n ≤ 1000000) : Calls Tryz.prog 79 #[.slice A n c] w fun e w' => ∃ g : Nat, e = .returned (.int .i64 g) ∧ IsMax n (fun i => L.getD i 0) g ∧ w' = w := by
  obtain ⟨b, off, rfl, hc⟩ := hL.2 (by omega)
  obtain ⟨f, hf⟩ : ∃ f : Nat → Nat, f = fun i => L.getD i 0 := ⟨_, rfl⟩
  have hc' : ∀ i, i < n → w.cell? ⟨b, off + i, none⟩ = some (.int .i64 (f i : Nat)) := by rw [hf]; exact hc
  rw [← hf]
  have HC := Lib.hid hc'
  have c0 := hc' 0 (by omega)
  rw [Nat.add_zero] at c0
  obtain ⟨y, hy⟩ : ∃ y, y = f 0 := ⟨_, rfl⟩
  rw [← hy] at c0
  have HY := Lib.hid hy
  have hnI : (0 : Int) < (n : Int) := by omega
  have hP : Hid (∀ g : Nat, IsMax n f g → (fun e w' => ∃ g : Nat, e = Ending.returned (.int .i64 g) ∧ IsMax n f g ∧ w' = w) (.returned (.int .i64 g)) w) := Lib.hid fun g h => ⟨g, rfl, h, rfl⟩
  generalize (fun e w' => ∃ g : Nat, e = Ending.returned (.int .i64 g) ∧ IsMax n f g ∧ w' = w) = PO at *
  clear hL hc hf hc' hy
  go_enter Tryz.func79, Tryz.ntmps79
  go_wp2_with fail
  go_loopw [3, 4] (fun v i wx => ∃ q g : Nat, q ≤ n ∧ i = .int .i64 q ∧ v = .int .i64 g ∧ Hid ((∀ i, i < q → f i ≤ g) ∧ ∃ i, i < n ∧ f i = g) ∧ wx = w) (fun _ i _ => n - (intOf i).toNat)
  case atStart => exact ⟨0, y, Nat.zero_le _, rfl, rfl, ⟨fun i hi => by omega, 0, by omega, HY.out.symm⟩, rfl⟩
  case round =>
    obtain ⟨q, g, hq, rfl, rfl, hm, rfl⟩ := hrel
    by_cases e : q < n
    · have dq : decide ((q : Int) < (n : Int)) = true := decide_eq_true (by omega)
      have cq := HC.out q e
      obtain ⟨x, hx⟩ : ∃ x, x = f q := ⟨_, rfl⟩
      rw [← hx] at cq
      have HX := Lib.hid hx
      clear hx
      by_cases e2 : g < x
      · have d2 : decide ((g : Int) < (x : Int)) = true := decide_eq_true (by omega)
        have HM : Hid ((∀ i, i < q + 1 → f i ≤ x) ∧ ∃ i, i < n ∧ f i = x) := Lib.hid ⟨fun i hi => by
          by_cases ei : i = q
          · rw [ei, ← HX.out]
            exact Nat.le_refl _
          · have := hm.out.1 i (by omega)
            omega, q, e, HX.out.symm⟩
        have hmx : (if (g : Int) < (x : Int) then (x : Int) else (g : Int)) = (x : Int) := if_pos (by omega)
        have hmx2 : (if (g : Int) ≤ (x : Int) then (x : Int) else (g : Int)) = (x : Int) := if_pos (by omega)
        clear hm
        go_wp2_with fail
        go_roundw
        case rel => exact ⟨q + 1, x, by omega, by go_num, by go_num, HM, trivial⟩
        case measure => simp [intOf]; omega
      · have d2 : decide ((g : Int) < (x : Int)) = false := decide_eq_false (by omega)
        have HM : Hid ((∀ i, i < q + 1 → f i ≤ g) ∧ ∃ i, i < n ∧ f i = g) := Lib.hid ⟨fun i hi => by
          by_cases ei : i = q
          · rw [ei, ← HX.out]
            omega
          · exact hm.out.1 i (by omega), hm.out.2⟩
        clear hm
        go_wp2_with fail
        go_roundw
        case rel => exact ⟨q + 1, g, by omega, by go_num, by go_num, HM, trivial⟩
        case measure => simp [intOf]; omega
    · obtain rfl : q = n := by omega
      have dq : decide ((q : Int) < (q : Int)) = false := decide_eq_false (by omega)
      have HM : Hid (IsMax q f g) := Lib.hid hm.out
      clear hm
      go_wp2_with fail
      exact hP.out g HM.out

end Go.Proofs.YtmgmgmbpldboiaaGreat
