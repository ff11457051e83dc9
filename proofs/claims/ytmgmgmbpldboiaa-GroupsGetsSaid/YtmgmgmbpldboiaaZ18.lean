/- Grb Ad: texts laid together, what is not used left out. -/
import Derived.Test.YtmgmgmbpldboiaaZ17
import Derived.Test.YtmgmgmbpldboiaaZ05
import Derived.Test.YtmgmgmbpldboiaaZ00
import Derived.Laws.IdiomCopy
import Derived.Test.YtmgmgmbpldboiaaZ04
namespace Go.Proofs.Ytmgmgmbpldboiaa
open Go.RowKit

theorem ZIn.cut {w : World} {A : Option Addr} {n k a : Nat} {L : List Int} (h : ZIn w A n L) (hak : a + k ≤ n) : ZIn w (Option.map (fun x => x.add a) A) k ((L.drop a).take k) := by
  refine ⟨by rw [List.length_take, List.length_drop, h.1]; omega, fun hk => ?_⟩
  obtain ⟨b, off, rfl, hc⟩ := h.2 (by omega)
  refine ⟨b, off + a, by rw [Option.map_some, Addr.add_lit], fun i hi => ?_⟩
  rw [Nat.add_assoc, hc (a + i) (by omega), List.getD_eq_getElem?_getD, List.getD_eq_getElem?_getD, List.getElem?_take, if_pos hi, List.getElem?_drop]

theorem place_before {l : List Nat} {x q : Nat} (h : q < placeOf l x) : l.getD q 0 ≠ x := by
  induction l generalizing q with
  | nil => exact absurd h (Nat.not_lt_zero _)
  | cons y l ih =>
    rw [placeOf] at h
    by_cases e : y = x
    · rw [if_pos e] at h
      exact absurd h (Nat.not_lt_zero _)
    · rw [if_neg e] at h
      match q with
      | 0 => exact e
      | q + 1 => exact ih (by omega)

set_option maxHeartbeats 1600000 in
set_option maxRecDepth 100000 in
theorem cindex_any (w : World) (A : Option Addr) (n c : Nat) (L : List Nat) (x : Nat) (hL : IntsIn w A n L) (hx : x ∈ L) (hn : n ≤ 1000000) :
    Calls Try.prog 43 #[.slice A n c, .int .i64 x] w fun e w' => e = .returned (.int .i64 (placeOf L x : Nat)) ∧ w' = w := by
  have hp := place_lt L x hx
  rw [hL.1] at hp
  have HB : Hid (∀ q, q < placeOf L x → L.getD q 0 ≠ x) := Lib.hid fun q hq => place_before hq
  obtain ⟨p, hpp⟩ : ∃ p, p = placeOf L x := ⟨_, rfl⟩
  rw [← hpp] at hp HB ⊢
  obtain ⟨hpn, hpx⟩ := hp
  obtain ⟨b, off, rfl, hc⟩ := hL.2 (by omega)
  have HC := Lib.hid hc
  have HPX := Lib.hid hpx
  clear hL hx hc hpp hpx
  go_enter Try.func43, Try.ntmps43
  go_wp2_with fail
  go_loopw [5, 8] (fun s5 iv' wx => ∃ q : Nat, q ≤ p ∧ iv' = .int .i64 q ∧ wx = w) (fun _ iv' _ => n - (intOf iv').toNat)
  case atStart => exact ⟨0, Nat.zero_le _, rfl, rfl⟩
  case round =>
    obtain ⟨q, hq, rfl, rfl⟩ := hrel
    have hqn : q < n := by omega
    have dq : decide ((q : Int) < (n : Int)) = true := decide_eq_true (by omega)
    have cq := HC.out q hqn
    by_cases e : q = p
    · subst e
      rw [HPX.out] at cq
      have d2 : ((x : Int) == (x : Int)) = true := beq_self_eq_true _
      go_wp2_with fail
      go_ret
      exact ⟨rfl, rfl⟩
    · have hne := HB.out q (by omega)
      obtain ⟨y, hy⟩ : ∃ y, y = L.getD q 0 := ⟨_, rfl⟩
      rw [← hy] at cq hne
      have d2 : ((x : Int) == (y : Int)) = false := by rw [beq_eq_false_iff_ne]; omega
      have d3 : (x == y) = false := by rw [beq_eq_false_iff_ne]; exact fun h => hne h.symm
      have e2 : q + 1 ≤ p := by omega
      clear hy hne
      go_wp2_with fail
      go_roundw
      case rel => exact ⟨q + 1, e2, by go_num, trivial⟩
      case measure => simp [intOf]; omega

set_option maxHeartbeats 1600000 in
set_option maxRecDepth 100000 in
theorem cinorder_any (w : World) (n : Nat) (hn : n ≤ 1000) :
    Calls Try.prog 42 #[.int .i64 n] w fun e w' => e = .returned (.slice (some ⟨w.heap.size, 0, none⟩) n n) ∧ FRow w' w.heap.size w.heap.size n n (fun j => j) ∧ Below w.heap.size w w' := by
  have hmk := make_noughts w n (by omega)
  have HM := Lib.hid (made_noughts w w.heap.size n (Nat.le_refl _) (by omega))
  have HB0 := Lib.hid ((Below.refl w.heap.size w).alloc (Nat.le_refl _) (.cells (madeCells #[.int .i64 0] n) 3))
  go_enter Try.func42, Try.ntmps42
  go_wp2_with fail
  go_loopw [4, 9] (fun s4 iv' wx => ∃ i : Nat, i ≤ n ∧ iv' = .int .i64 i ∧ FRow wx w.heap.size w.heap.size n n (fun j => if j < i then j else 0) ∧ Below w.heap.size w wx) (fun _ iv' _ => n - (intOf iv').toNat)
  case atStart =>
    refine ⟨0, Nat.zero_le _, rfl, ?_, HB0.out⟩
    have e : (fun j => if j < 0 then j else 0) = fun _ => 0 := by
      funext j
      rw [if_neg (by omega)]
    rw [e]
    exact HM.out
  case round =>
    clear HM HB0 hmk
    obtain ⟨i, hi, rfl, hf, hb⟩ := hrel
    by_cases e : i < n
    · have di : decide ((i : Int) < (n : Int)) = true := decide_eq_true (by omega)
      have hiI : (0 : Int) ≤ (i : Int) := by omega
      have c3 := hf.cell i e
      have f3 := hf.frozen i
      have hs := hf.set i i
      have hfn : (fun s => if s = i then i else if s < i then s else 0) = fun s => if s < i + 1 then s else 0 := by
        funext s
        by_cases es : s = i
        · rw [if_pos es, if_pos (by omega), es]
        · rw [if_neg es]
          by_cases e2 : s < i
          · rw [if_pos e2, if_pos (by omega)]
          · rw [if_neg e2, if_neg (by omega)]
      rw [hfn] at hs
      have HS := Lib.hid hs
      have HBS := Lib.hid (hb.setCell (p := ⟨w.heap.size, i, none⟩) (Nat.le_refl _) (.int .i64 (i : Nat)))
      clear hf hb hs hfn
      go_wp2_with fail
      go_roundw
      case rel => exact ⟨i + 1, by omega, by go_num, HS.out, HBS.out⟩
      case measure => simp [intOf]; omega
    · obtain rfl : i = n := by omega
      have di : decide ((i : Int) < (i : Int)) = false := decide_eq_false (by omega)
      have h3 : wr.ownsRow w.heap.size 3 1 (.slice (some ⟨w.heap.size, 0, none⟩) i i) i (rowF i fun j => if j < i then j else 0) := hf
      rw [rowF_same i _ (fun j => j) fun j hj => if_pos hj] at h3
      have HS := Lib.hid h3
      have HBS := Lib.hid hb
      clear hf hb h3
      go_wp2_with fail
      go_ret
      exact ⟨rfl, HS.out, HBS.out⟩

set_option maxRecDepth 100000 in
theorem frow_setCells {B g c n : Nat} : ∀ (vs : List Nat) (o : Nat) (w : World) (f : Nat → Nat), FRow w B g c n f → FRow (w.setCells g o (vs.map iv)) B g c n (fun j => if o ≤ j ∧ j < o + vs.length then vs.getD (j - o) 0 else f j)
  | [], o, w, f, h => by
    have e : (fun j => if o ≤ j ∧ j < o + ([] : List Nat).length then ([] : List Nat).getD (j - o) 0 else f j) = f := by
      funext j
      rw [if_neg (by simp)]
    rw [e]
    exact h
  | v :: vs, o, w, f, h => by
    have h2 := frow_setCells vs (o + 1) _ _ (h.set o v)
    have e : (fun j => if o + 1 ≤ j ∧ j < o + 1 + vs.length then vs.getD (j - (o + 1)) 0 else if j = o then v else f j) = fun j => if o ≤ j ∧ j < o + (v :: vs).length then (v :: vs).getD (j - o) 0 else f j := by
      funext j
      by_cases e1 : j = o
      · rw [if_neg (by omega), if_pos e1, if_pos (by simp; omega), e1, Nat.sub_self]
        rfl
      · by_cases e2 : o + 1 ≤ j ∧ j < o + 1 + vs.length
        · rw [if_pos e2, if_pos (by simp; omega), show j - o = (j - (o + 1)) + 1 by omega]
          rfl
        · rw [if_neg e2, if_neg e1, if_neg (by simp; omega)]
    rw [e] at h2
    exact h2
set_option maxRecDepth 100000 in
theorem gcell_lit (w : World) (g i : Nat) (j : Nat) : w.cell? ((⟨g, i, none⟩ : Addr).add j) = w.cell? ⟨g, i + j, none⟩ := by
  congr 1
  unfold Addr.add
  split <;> simp_all
set_option maxRecDepth 100000 in
theorem gcopy_run {P : Program} {w w' : World} {ops : Array Oper} {rest : List Oper} {o : Oper} {a : Act} {Q : Exit → Act → World → Prop} (hgd : o.guard = none) (d s : Operand) (dT sT : TypeId)
    (ho : o.op = .call { callee := .builtin .copy, args := #[d, s], argTypes := #[dT, sT] }) (dv sv : Value) (k : Nat) (hd : a.eval d = dv) (hs : a.eval s = sv) (hrun : (Builtin.copy_ #[dT, sT] o.type #[dv, sv]).run P w = .ok (goInt k) w')
    (h : wpList P ops Q rest (a.put o.dst (goInt k)) w') : wpList P ops Q (o :: rest) a w := by
  refine wpList_plain hgd fun K hK => ?_
  unfold Oper.wp
  simp [execOp, ho, resolve, invoke, builtin, hd, hs, hrun, Result.andThen]
  exact hK _ _ h
/-- A row behind what stands at a place was moved to the front. -/
def moveR (f : Nat → Nat) (p j : Nat) : Nat := if j = 0 then f p else if j ≤ p then f (j - 1) else f j

def MtfR (B : Nat) (w : World) (g n c : Nat) (f : Nat → Nat) (p : Nat) (e : Ending) (w' : World) : Prop := e = .returned (.tuple #[]) ∧ FRow w' B g c n (moveR f p) ∧ Step B [g] [] w w'
set_option maxHeartbeats 1600000 in
set_option maxRecDepth 100000 in
theorem cmtf_any (B : Nat) (w : World) (g n c : Nat) (f : Nat → Nat) (p : Nat) (hf : FRow w B g c n f) (hp : p < n) (hn6 : n ≤ 1000000) :
    Calls Try.prog 44 #[.slice (some ⟨g, 0, none⟩) n c, .int .i64 p] w (MtfR B w g n c f p) := by
  have hB := hf.lt.1
  obtain ⟨A9, c9, hA, hnc, _, _⟩ := own_slice hf
  simp only [Value.slice.injEq] at hA
  obtain ⟨rfl, _, rfl⟩ := hA
  obtain ⟨i5, h5, hz0, hz1, hz2⟩ := info_parts Try.info3
  have hcs : (rowF p f).length = p := rowF_length p f
  have hget : ∀ j v, (rowF p f)[j]? = some v → w.drew.cell? ((⟨g, 0, none⟩ : Addr).add j) = some v := by
    intro j v hv
    have hj : j < p := by have := (List.getElem?_eq_some_iff.1 hv).1; omega
    rw [gcell_lit, Nat.zero_add]
    show w.cell? _ = _
    rw [hf.cell j (by omega), ← hv, rowF_get p f j hj]
    rfl
  have hone : ∀ v ∈ rowF p f, v.oneCell' = true := by
    intro v hv
    unfold rowF at hv
    obtain ⟨x, _, rfl⟩ := List.mem_map.1 hv
    rfl
  have hrun : ∀ ty, (Builtin.copy_ #[30, 30] ty #[.slice (if c = 1 then some ⟨g, 0, none⟩ else some ⟨g, 1, none⟩) (n - 1) (c - 1), .slice (some ⟨g, 0, none⟩) p c]).run Try.prog w.drew = .ok (goInt p) (w.drew.setCells g 1 (rowF p f)) := by
    intro ty
    have h1 : (Try.prog.info? 3).map (·.size) = some 1 := by rw [h5]; exact congrArg some hz1
    by_cases h0 : p = 0
    · subst h0
      have := fun d => run_copy_none (P := Try.prog) w.drew 30 30 ty 3 d (some ⟨g, 0, none⟩) (n - 1) (c - 1) 0 c Try.underlying30 h1 (Nat.zero_min _)
      exact this _
    · rw [if_neg (by omega)]
      have := run_copy_cells (P := Try.prog) w.drew 30 30 ty 3 g 1 (n - 1) (c - 1) ⟨g, 0, none⟩ p c (rowF p f) Try.underlying30 h1 (by rw [hcs]; exact (Nat.min_eq_left (by omega)).symm) hget
        (fun j hj => by
          rw [hcs] at hj
          show (w.cell? _).isSome = true
          rw [hf.cell (1 + j) (by omega)]
          rfl) (fun j hj => hf.frozen (1 + j)) hone
      rw [hcs] at this
      exact this
  obtain ⟨x, hx⟩ : ∃ x, x = f p := ⟨_, rfl⟩
  have hcp := hf.cell p hp
  rw [← hx] at hcp
  have hpI : (0 : Int) ≤ (p : Int) := by omega
  have hpJ : (p : Int) < (n : Int) := by omega
  have hpK : (p : Int) ≤ (c : Int) := by omega
  have hnI : (1 : Int) ≤ (n : Int) := by omega
  have hnJ : (0 : Int) < (n : Int) := by omega
  have hnK : (n : Int) ≤ (c : Int) := by omega
  obtain ⟨w2, hw2⟩ : ∃ w2, w2 = w.drew.setCells g 1 (rowF p f) := ⟨_, rfl⟩
  have hrow2 : FRow w2 B g c n (fun j => if 1 ≤ j ∧ j < 1 + p then f (j - 1) else f j) := by
    have h := frow_setCells ((List.range p).map f) 1 w.drew f (hf.drew 1)
    have e : ((List.range p).map f).map iv = rowF p f := by unfold rowF; rw [List.map_map]; rfl
    rw [e, ← hw2] at h
    have e2 : (fun j => if 1 ≤ j ∧ j < 1 + ((List.range p).map f).length then ((List.range p).map f).getD (j - 1) 0 else f j) = fun j => if 1 ≤ j ∧ j < 1 + p then f (j - 1) else f j := by
      funext j
      rw [List.length_map, List.length_range]
      by_cases e3 : 1 ≤ j ∧ j < 1 + p
      · rw [if_pos e3, if_pos e3, range_getD p f (j - 1) (by omega)]
      · rw [if_neg e3, if_neg e3]
    rw [e2] at h
    exact h
  have hstep2 : Step B [g] [] w w2 := by
    rw [hw2]
    have hgen : ∀ (vs : List Value) (o : Nat) (w' : World), Step B [g] [] w w' → Step B [g] [] w (w'.setCells g o vs) := by
      intro vs
      induction vs with
      | nil => exact fun _ _ h => h
      | cons v r ih => exact fun o w' h => ih (o + 1) _ (h.set (p := ⟨g, o, none⟩) hB (List.mem_singleton.2 rfl) v)
    exact hgen _ _ _ (Step.refl B [g] [] w).drew
  rw [← hw2] at hrun
  have h0 := hrow2.cell 0 (by omega)
  have f0 := hrow2.frozen 0
  have hend : MtfR B w g n c f p (.returned (.tuple #[])) (w2.setCell ⟨g, 0, none⟩ (.int .i64 x)) := by
    refine ⟨rfl, ?_, hstep2.set (p := ⟨g, 0, none⟩) hB (List.mem_singleton.2 rfl) _⟩
    have h := hrow2.set 0 x
    have e : (fun j => if j = 0 then x else if 1 ≤ j ∧ j < 1 + p then f (j - 1) else f j) = moveR f p := by
      funext j
      unfold moveR
      by_cases e1 : j = 0
      · rw [if_pos e1, if_pos e1, hx]
      · rw [if_neg e1, if_neg e1]
        by_cases e2 : j ≤ p
        · rw [if_pos (by omega), if_pos e2]
        · rw [if_neg (by omega), if_neg e2]
    rw [e] at h
    exact h
  obtain ⟨z, hz⟩ : ∃ z : Nat, z = (if 1 ≤ 0 ∧ 0 < 1 + p then f (0 - 1) else f 0) := ⟨_, rfl⟩
  rw [← hz] at h0
  have HEND := Lib.hid hend
  have HRUN := Lib.hid hrun
  clear hend hrun hw2 hget hone hcs hf hrow2 hstep2 hz hx
  generalize MtfR B w g n c f p = PO at *
  go_enter Try.func44, Try.ntmps44
  go_upto_region 1 with fail
  go_still_tail 5, (by kernel_rfl)
  change wpList _ _ _ _ _ w.drew
  generalize (if c = 1 then some (⟨g, 0, none⟩ : Addr) else some ⟨g, 1, none⟩) = dA at *
  refine gcopy_run rfl _ _ 30 30 rfl _ _ p rfl rfl (HRUN.out _) ?_
  go_wp2_with fail
  (try simp only [Exit.inBlock, Exit.then])
  refine bodyPost_ret (results_none rfl _ _ _) rfl ?_
  exact HEND.out

end Go.Proofs.Ytmgmgmbpldboiaa
namespace Go.Proofs.Ytmgmgmbpldboiaa
open Go.RowKit

/-- Lengths, whether they leave room or take too much. -/
def AreLens (L : List Int) : Prop := 2 ≤ L.length ∧ L.length ≤ 258 ∧ ∀ x ∈ L, 1 ≤ x ∧ x ≤ 20
instance (L : List Int) : Decidable (AreLens L) := inferInstanceAs (Decidable (_ ∧ _))
def takenAns (L : List Int) : Nat × Bool := if AreLens L then (kraftL L, true) else (0, false)

theorem shr_room (y : Nat) (h : y ≤ 20) : 1048576 / 2 ^ y = 2 ^ (20 - y) := by
  have h1 : (1048576 : Nat) = 2 ^ (20 - y) * 2 ^ y := by rw [← Nat.pow_add, show 20 - y + y = 20 by omega]
  rw [h1, Nat.mul_div_cancel _ (Nat.pow_pos (by omega))]

set_option maxHeartbeats 1600000 in
set_option maxRecDepth 100000 in
theorem taken_any (w : World) (A : Option Addr) (n c : Nat) (L : List Int) (hL : ZIn w A n L) (hn : n ≤ maxLen) :
    Calls Try.prog 84 #[.slice A n c] w fun e w' => e = .returned (.tuple #[.int .i64 (takenAns L).1, .bool (takenAns L).2]) ∧ w' = w := by
  have hln := hL.1
  have HNO : Hid (∀ i, i < n → (L.getD i 0 < 1 ∨ 20 < L.getD i 0) → takenAns L = (0, false)) := Lib.hid fun i hi h => if_neg fun hm => by
    have := hm.2.2 _ (getD_mem_int L i (by omega))
    omega
  have HSM : Hid (¬ (2 ≤ n ∧ n ≤ 258) → takenAns L = (0, false)) := Lib.hid fun h => if_neg fun hm => h ⟨by have := hm.1; omega, by have := hm.2.1; omega⟩
  have HYES : Hid (2 ≤ n → n ≤ 258 → (∀ i, i < n → 1 ≤ L.getD i 0 ∧ L.getD i 0 ≤ 20) → takenAns L = (kraftL L, true)) := Lib.hid fun h1 h2 h => if_pos ⟨by omega, by omega, fun x hx => by
    obtain ⟨i, hi, rfl⟩ := List.getElem_of_mem hx
    have := h i (by omega)
    rwa [List.getD_eq_getElem?_getD, List.getElem?_eq_getElem hi] at this⟩
  have HE := Lib.hid (enough_any w n hn)
  generalize takenAns L = ans at *
  by_cases hN : 2 ≤ n ∧ n ≤ 258
  · have HMI := Lib.hid (min_any w A n c L hL (by omega) hn)
    have HMA := Lib.hid (max_any w A n c L hL (by omega) hn)
    rw [decide_eq_true hN.1, decide_eq_true hN.2] at HE
    have HL := Lib.hid hL
    have HLN := Lib.hid hln
    clear hL hln HSM
    unfold maxLen at hn
    go_enter Try.func84, Try.ntmps84
    go_wp2_with fail
    refine HE.out.mono ?_
    rintro e w' ⟨rfl, rfl⟩
    go_wp2_with fail
    refine HMI.out.mono ?_
    rintro e w2 ⟨m, rfl, hm, rfl⟩
    have HM1 := Lib.hid hm
    clear hm
    by_cases h0 : m < 1
    · have d0 : decide (m < 1) = true := decide_eq_true h0
      obtain ⟨i, hi, him⟩ := HM1.out.2
      have hans := HNO.out i hi (.inl (by omega))
      subst hans
      clear him
      go_wp2_with fail
      go_ret2
      exact ⟨rfl, rfl⟩
    · have d0 : decide (m < 1) = false := decide_eq_false h0
      go_wp2_with fail
      refine HMA.out.mono ?_
      rintro e w3 ⟨M, rfl, hM, rfl⟩
      have HM2 := Lib.hid hM
      clear hM
      by_cases h2 : 20 < M
      · have d2 : decide (20 < M) = true := decide_eq_true h2
        obtain ⟨i, hi, hiM⟩ := HM2.out.2
        have hans := HNO.out i hi (.inr (by omega))
        subst hans
        clear hiM
        go_wp2_with fail
        go_ret2
        exact ⟨rfl, rfl⟩
      · have d2 : decide (20 < M) = false := decide_eq_false h2
        have hall : ∀ i, i < n → 1 ≤ L.getD i 0 ∧ L.getD i 0 ≤ 20 := fun i hi => by
          have h3 := HM1.out.1 i hi
          have h4 := HM2.out.1 i hi
          omega
        have HALL := Lib.hid hall
        have hans := HYES.out hN.1 hN.2 hall
        subst hans
        clear hall HNO HYES HM1 HM2 HMI HMA HE h0
        go_wp2_with fail
        go_loopw [4, 6, 23] (fun s v i wx => ∃ (q z : Nat), q ≤ n ∧ i = .int .i64 q ∧ s = .int .i64 z ∧ Hid (z = kraftL (L.take q)) ∧ z ≤ q * 524288 ∧ wx = w3) (fun _ _ i _ => n - (intOf i).toNat)
        case atStart => exact ⟨0, 0, Nat.zero_le _, rfl, rfl, rfl, Nat.zero_le _, rfl⟩
        case round =>
          obtain ⟨q, z, hq, rfl, rfl, hz, hzb, rfl⟩ := hrel
          by_cases e : q < n
          · have dq : decide ((q : Int) < (n : Int)) = true := decide_eq_true (by omega)
            obtain ⟨b, off, rfl, hc⟩ := HL.out.2 (by omega)
            have hcw := hc q e
            have htk := take_snoc_int L q (by rw [HLN.out]; exact e)
            have hxb := HALL.out q e
            obtain ⟨x, hx⟩ : ∃ x, x = L.getD q 0 := ⟨_, rfl⟩
            rw [← hx] at hcw htk hxb
            obtain ⟨y, rfl⟩ : ∃ y : Nat, x = y := ⟨x.toNat, by omega⟩
            obtain ⟨t, ht⟩ : ∃ t : Nat, t = 2 ^ (20 - y) := ⟨_, rfl⟩
            have hty : (1048576 : Int) / (2 : Int) ^ y = (t : Int) := by
              have h1 : ((1048576 / 2 ^ y : Nat) : Int) = (t : Int) := by rw [shr_room y (by omega), ht]
              rw [← h1]
              simp
            have htb : t ≤ 524288 := by
              rw [ht]
              have : 2 ^ (20 - y) ≤ 2 ^ 19 := Nat.pow_le_pow_right (by decide) (by omega)
              exact this
            obtain ⟨z2, hz2⟩ : ∃ z2 : Nat, z2 = z + t := ⟨_, rfl⟩
            have hzz : (z : Int) + (t : Int) = (z2 : Int) := by omega
            have HZ2 : Hid (z2 = kraftL (L.take (q + 1))) := Lib.hid (by rw [htk, kraft_snoc, hz2, ← hz.out, ht, Int.toNat_natCast])
            have hz2b : z2 ≤ (q + 1) * 524288 := by rw [Nat.add_mul]; omega
            have hqb : q * 524288 ≤ 258 * 524288 := Nat.mul_le_mul_right _ (by omega)
            have hz2c : z2 ≤ 258 * 524288 + 524288 := by omega
            have w2 : IntKind.i64.wrap (z2 : Int) = (z2 : Int) := by rw [IntKind.wrap_i64]; omega
            have HTY := Lib.hid hty
            have HB2 := Lib.hid hz2b
            have hy0 : (0 : Int) ≤ (y : Int) := by omega
            clear hc hx ht htk hz hz2 hzb hqb HALL hz2b
            go_wp2_with fail
            go_roundw
            case rel => exact ⟨q + 1, z2, by omega, by go_num, by go_num, HZ2, HB2.out, trivial⟩
            case measure => simp [intOf]; omega
          · obtain rfl : q = n := by omega
            have dq : decide ((q : Int) < (q : Int)) = false := decide_eq_false (by omega)
            have hz2 := hz.out
            rw [List.take_of_length_le (Nat.le_of_eq HLN.out)] at hz2
            subst hz2
            clear hz hzb HALL HL
            go_wp2_with fail
            go_ret2
            exact ⟨rfl, rfl⟩
  · have hans := HSM.out hN
    subst hans
    rw [show (decide (2 ≤ n) && decide (n ≤ 258)) = false by rw [← Bool.decide_and]; exact decide_eq_false hN] at HE
    clear hL hln
    unfold maxLen at hn
    go_enter Try.func84, Try.ntmps84
    go_wp2_with fail
    refine HE.out.mono ?_
    rintro e w' ⟨rfl, rfl⟩
    go_wp2_with fail
    go_ret2
    exact ⟨rfl, rfl⟩

theorem lenOk_lens {L : List Int} : LenOk L ↔ AreLens L ∧ kraftL L ≤ 1048576 := by
  unfold LenOk AreLens
  constructor
  · rintro ⟨h1, h2, h3, h4⟩
    exact ⟨⟨h1, h2, h3⟩, h4⟩
  · rintro ⟨⟨h1, h2, h3⟩, h4⟩
    exact ⟨h1, h2, h3, h4⟩

set_option maxHeartbeats 1600000 in
set_option maxRecDepth 100000 in
theorem ccheck_any (w : World) (A : Option Addr) (n c : Nat) (L : List Int) (hL : ZIn w A n L) (hn : n ≤ maxLen) :
    Calls Try.prog 69 #[.slice A n c] w fun e w' => e = .returned (.int .i64 (if LenOk L then 0 else 80)) ∧ w' = w := by
  have HT := Lib.hid (taken_any w A n c L hL hn)
  by_cases h1 : AreLens L
  · have ht : takenAns L = (kraftL L, true) := if_pos h1
    rw [ht] at HT
    have hans : (if LenOk L then (0 : Int) else 80) = if kraftL L ≤ 1048576 then 0 else 80 := by
      by_cases e : kraftL L ≤ 1048576
      · rw [if_pos e, if_pos (lenOk_lens.2 ⟨h1, e⟩)]
      · rw [if_neg e, if_neg fun h => e (lenOk_lens.1 h).2]
    rw [hans]
    generalize kraftL L = z at *
    clear hL ht hans h1
    by_cases e : z ≤ 1048576
    · have d1 : decide ((1048576 : Int) < (z : Int)) = false := decide_eq_false (by omega)
      rw [if_pos e]
      go_enter Try.func69, Try.ntmps69
      go_wp2_with fail
      refine HT.out.mono ?_
      rintro e w' ⟨rfl, rfl⟩
      go_wp2_with fail
      go_ret
      exact ⟨rfl, rfl⟩
    · have d1 : decide ((1048576 : Int) < (z : Int)) = true := decide_eq_true (by omega)
      rw [if_neg e]
      go_enter Try.func69, Try.ntmps69
      go_wp2_with fail
      refine HT.out.mono ?_
      rintro e w' ⟨rfl, rfl⟩
      go_wp2_with fail
      go_ret
      exact ⟨rfl, rfl⟩
  · have ht : takenAns L = (0, false) := if_neg h1
    rw [ht] at HT
    rw [if_neg fun h => h1 (lenOk_lens.1 h).1]
    clear hL ht h1
    go_enter Try.func69, Try.ntmps69
    go_wp2_with fail
    refine HT.out.mono ?_
    rintro e w' ⟨rfl, rfl⟩
    go_wp2_with fail
    go_ret
    exact ⟨rfl, rfl⟩

end Go.Proofs.Ytmgmgmbpldboiaa
