/- Tar's Last, plain: files in a map, by their paths; what comes out of it and is put in order is what the document says. -/
import Derived.Test.YtdjmfkodjjjhfaaGreatDoorTpd
import Derived.Test.YtdjmfkodjjjhfaaGreatDoorPxj
import Derived.Maps.Own
import Derived.Maps.Views
import Derived.Sort.KeysCollected
import Derived.Test.YtdjmfkodjjjhfaaGreatDoorTvn
import Derived.Maps.OwnIn
import Derived.Sort.MapsRangeIn
import Derived.RangeFuncMany
import Derived.Test.YtdjmfkodjjjhfaaGreatDoorTva
import Derived.Test.YtdjmfkodjjjhfaaGreatDoorLx
import Derived.Shelf.SlSortCmp.WholeK
import Derived.Shelf.SlSortCmp.NoneTotal
import Derived.Carry
import Derived.StringKeys
import Derived.Test.YtdjmfkodjjjhfaaGreatDoorTdd
import Derived.Test.YtdjmfkodjjjhfaaGreatDoorTvo
namespace Go.Proofs.YtdjmfkodjjjhfaaGreatDoor
open Go.RowKit Go.Maps Go.Sort

def entV (p : PairB) : Value := .agg #[.string p.1, .string p.2]
def entD (p : PairB) : DataW Unit := .agg [.lit (.string p.1.data.toList), .lit (.string p.2.data.toList)]
/-- How a file in a map reads. -/
def entR (v : Value) : Option (DataW Unit × List MemPlace) :=
  match v with
  | .agg cs => match cs.toList with
    | [.string p, .string d] => some (entD (p, d), [])
    | _ => none
  | _ => none
theorem entR_v (p : PairB) : entR (entV p) = some (entD p, []) := rfl
theorem entR_inv {v : Value} {y : DataW Unit × List MemPlace} (h : entR v = some y) : ∃ p, v = entV p ∧ y = (entD p, []) := by
  unfold entR at h
  split at h
  · rename_i cs
    split at h
    · rename_i p d he
      refine ⟨(p, d), ?_, (Option.some.inj h).symm⟩
      unfold entV
      rw [show cs = #[.string p, .string d] from Array.toList_inj.1 he]
    · cases h
  · cases h
theorem bytes_of {a b : ByteArray} (h : a.data.toList = b.data.toList) : a = b := ByteArray.ext (Array.toList_inj.1 h)
theorem entD_inj {p q : PairB} (h : entD p = entD q) : p = q := by
  unfold entD at h
  injection h with h
  injection h with h1 h2
  injection h1 with h1
  injection h1 with h1
  injection h2 with h2 _
  injection h2 with h2
  injection h2 with h2
  exact Prod.ext (bytes_of h1) (bytes_of h2)
theorem entV_inj {p q : PairB} (h : entV p = entV q) : p = q := by
  have h2 : some (entD p, ([] : List MemPlace)) = some (entD q, []) := by rw [← entR_v, ← entR_v, h]
  exact entD_inj (congrArg Prod.fst (Option.some.inj h2))
/-- The map has each path's last file. -/
def HoldsE (D : DataW Unit) (L : List PairB) : Prop := IsMap D ∧ ∀ k : List UInt8, match lastA k (L.map toL) none with
  | none => has D (.string k) = false
  | some d => has D (.string k) = true ∧ ∀ zd, D.atKey (.string k) zd = entD (strF k, strF d)
theorem holdsE_nil : HoldsE (.map []) [] := ⟨isMap_empty, fun _ => rfl⟩
theorem holdsE_put {D : DataW Unit} {L : List PairB} (h : HoldsE D L) (p : PairB) : HoldsE (D.put (.string p.1.data.toList) (entD p)) (L ++ [p]) := by
  refine ⟨h.1.put _ _, fun k => ?_⟩
  rw [List.map_append, lastA_append, List.map_cons, List.map_nil, lastA, lastA]
  by_cases e : (toL p).1 = k
  · rw [if_pos e]
    subst e
    exact ⟨has_put_same h.1 (by trivial) _, fun zd => by rw [show (toL p).1 = p.1.data.toList from rfl, atKey_put_same h.1 (by trivial)]; rfl⟩
  · rw [if_neg e]
    have hne : (Lit.string k) ≠ Lit.string p.1.data.toList := fun q => e (Lit.string.inj q).symm
    have h2 := h.2 k
    rw [has_put_other hne]
    cases hl : lastA k (L.map toL) none with
    | none => rw [hl] at h2; exact h2
    | some d => rw [hl] at h2; exact ⟨h2.1, fun zd => by rw [atKey_put_other hne]; exact h2.2 zd⟩
set_option maxRecDepth 100000 in
theorem lastA_in {k d : List UInt8} : ∀ (l : List FileL) (v : Option (List UInt8)), lastA k l v = some d → (k, d) ∈ l ∨ v = some d
  | [], v, h => .inr h
  | p :: l, v, h => by
    rw [lastA] at h
    rcases lastA_in l _ h with h | h
    · exact .inl (List.mem_cons_of_mem _ h)
    · by_cases e : p.1 = k
      · rw [if_pos e] at h
        have : p = (k, d) := Prod.ext e (Option.some.inj h)
        exact .inl (this ▸ List.mem_cons_self)
      · rw [if_neg e] at h
        exact .inr h
/-- What has come out of the map: each key once, with its file. -/
def OutE (D : DataW Unit) (ps : List (List UInt8 × PairB)) : Prop := (ps.map (·.1)).Nodup ∧ (∀ x, x ∈ ps.map (·.1) ↔ has D (.string x) = true) ∧ ∀ p ∈ ps, ∀ zd, D.atKey (.string p.1) zd = entD p.2
theorem outE_file {D : DataW Unit} {L : List PairB} {ps : List (List UInt8 × PairB)} (h : HoldsE D L) (ho : OutE D ps) {p : List UInt8 × PairB} (hp : p ∈ ps) : toL p.2 = (p.1, (toL p.2).2) ∧ lastA p.1 (L.map toL) none = some (toL p.2).2 := by
  have h1 := (ho.2.1 p.1).1 (List.mem_map_of_mem hp)
  have h2 := h.2 p.1
  cases hl : lastA p.1 (L.map toL) none with
  | none => rw [hl] at h2; rw [h2] at h1; cases h1
  | some d =>
    rw [hl] at h2
    have h3 := entD_inj ((ho.2.2 p hp (.lit (.string []))).symm.trans (h2.2 _))
    rw [h3]
    exact ⟨rfl, rfl⟩
set_option maxRecDepth 100000 in
theorem outE_mem {D : DataW Unit} {L : List PairB} {ps : List (List UInt8 × PairB)} (h : HoldsE D L) (ho : OutE D ps) {x : PairB} (hx : x ∈ ps.map (·.2)) : x ∈ L := by
  obtain ⟨p, hp, rfl⟩ := List.mem_map.1 hx
  obtain ⟨h1, h2⟩ := outE_file h ho hp
  rcases lastA_in _ _ h2 with h3 | h3
  · rw [← h1] at h3
    obtain ⟨y, hy, he⟩ := List.mem_map.1 h3
    have : y = p.2 := Prod.ext (bytes_of (congrArg Prod.fst he)) (bytes_of (congrArg Prod.snd he))
    exact this ▸ hy
  · cases h3
/-- Put in order, they are the document's. -/
theorem outE_last {D : DataW Unit} {L T : List PairB} {ps : List (List UInt8 × PairB)} (h : HoldsE D L) (ho : OutE D ps) (hT : T.Perm (ps.map (·.2))) (hr : T.Pairwise fun a b => cmpL a.1.data.toList b.1.data.toList = -1) : T.map toL = lastsT (L.map toL) := by
  have hrT : riseT (T.map toL) := List.pairwise_map.2 hr
  refine rise_one _ _ hrT (lasts_is _).1 fun k => ?_
  rw [(lasts_is _).2]
  cases hl : lastA k (L.map toL) none with
  | none =>
    refine (lastA_none k _).2 fun x hx hk => ?_
    obtain ⟨y, hy, rfl⟩ := List.mem_map.1 hx
    obtain ⟨p, hp, rfl⟩ := List.mem_map.1 (hT.mem_iff.1 hy)
    obtain ⟨h1, h2⟩ := outE_file h ho hp
    rw [h1] at hk
    rw [show p.1 = k from hk, hl] at h2
    cases h2
  | some d =>
    have h2 := h.2 k
    rw [hl] at h2
    obtain ⟨p, hp, hk⟩ := List.mem_map.1 ((ho.2.1 k).2 h2.1)
    obtain ⟨h3, h4⟩ := outE_file h ho hp
    rw [show p.1 = k from hk] at h3 h4
    rw [hl] at h4
    have hm : toL p.2 ∈ T.map toL := List.mem_map_of_mem (hT.mem_iff.2 (List.mem_map_of_mem hp))
    have h5 := rise_last hrT hm
    rw [h3] at h5
    rw [h5, Option.some.inj h4]
/-- No path twice. -/
theorem outE_nodup {D : DataW Unit} {L : List PairB} {ps : List (List UInt8 × PairB)} (h : HoldsE D L) (ho : OutE D ps) : ((ps.map (·.2)).map fun p => p.1.data.toList).Nodup := by
  have : (ps.map (·.2)).map (fun p => p.1.data.toList) = ps.map (·.1) := by
    rw [List.map_map]
    refine List.map_congr_left fun p hp => ?_
    exact congrArg Prod.fst (outE_file h ho hp).1
  rw [this]
  exact ho.1
end Go.Proofs.YtdjmfkodjjjhfaaGreatDoor
/- Tar's Last: maps.Values at a map of files; slices.AppendSeq, Collect over it. Conditions: maps of at most 900000 files. -/
namespace Go.Proofs.YtdjmfkodjjjhfaaGreatDoor
open Go.RowKit Go.Maps Go.Sort
attribute [local go_sem] Oper.semAt_some

def encV1 (x : PairB) : Array Value := #[entV x]
set_option maxRecDepth 100000 in
theorem cvalues (w : World) (m : Option Nat) :
    Calls Tryz.prog 47 #[.map m] w fun e w' => e = .returned (.func (.func 81) #[] #[.pointer (some ⟨w.heap.size, 0, none⟩)]) ∧ w' = w.alloc (.cells #[.map m] 84) := by
  go_enter Tryz.func47, Tryz.ntmps47
  go_wp2_with fail
  go_ret
  exact ⟨rfl, rfl⟩

set_option maxHeartbeats 6400000 in
set_option maxRecDepth 100000 in
theorem cvalues_walk (n : Nat) (hn : 1 ≤ n) (l Bm b nn : Nat) (D0 : DataW Unit) (J Jx : List PairB → World → Prop)
    (hY : ∀ pre x W1, J pre W1 → pre.length < Maps.size D0 → YieldAt Fence.wide (n - 1) Tryz.prog l (encV1 x) W1 fun e W' =>
      (e = .returned (.bool true) ∧ J (pre ++ [x]) W' ∧ KeepsWalks W1 W') ∨ (e = .returned (.bool false) ∧ Jx (pre ++ [x]) W'))
    (W : World) (hJ : AbidesFrom W.heap.size J) (hm : W.cell? ⟨Bm, 0, none⟩ = some (.map (some b))) (hown : W.ownsMap Tryz.prog 9 entR b nn D0) (h0 : J [] W) :
    CallsIn Fence.wide n Tryz.prog 81 #[.func (.yield l) #[] #[], .pointer (some ⟨Bm, 0, none⟩)] W fun e W' => (∃ v, e = .returned v) ∧
      ((∃ xs, (∃ ps, OutE D0 ps ∧ xs = ps.map (·.2) ∧ ps.length ≤ Maps.size D0) ∧ J xs W') ∨ (∃ pre, True ∧ Jx pre W')) := by
  refine callsIn_of_wp Tryz.func81 rfl trivial ?_ rfl
  simp only [Tryz.ntmps81, List.size_toArray, List.length_cons, List.length_nil, Nat.reduceAdd, Nat.reduceSub, Array.replicate_succ, Array.replicate_zero, List.push_toArray, List.append_toArray, List.nil_append, List.cons_append]
  gi_wp2_with (first
    | (gi_at_range; refine wpListIn_range_own _ rfl _ 84 rfl 9 23 (string_keyed Tryz.underlying9) Tryz.underlying84 _ b nn _ rfl hown ?_; intro w0 hrg0 hg0 hs0)
    | gi_in)
  go_frame
  gi_loopw [4] (fun _ wr => ∃ (left : Lit → Bool) (cnt : Nat) (ps : List (List UInt8 × PairB)), wr.ranges Tryz.prog 9 entR b W.heap.size nn D0 left cnt ∧ ps.length + cnt ≤ Maps.size D0 ∧ Collected D0 left (ps.map (·.1)) ∧ (∀ p ∈ ps, ∀ zd, D0.atKey (.string p.1) zd = entD p.2) ∧ J (ps.map (·.2)) wr)
    (fun _ wr => wr.rangeLeft b W.heap.size)
  case atStart =>
    exact ⟨_, _, [], hrg0, by simp, Collected.start D0, by simp, hJ [] W w0 none h0 hg0 (fun r e => by cases e)⟩
  case round =>
    obtain ⟨left, cnt, ps, hrg, hcs, hC, hV, hJs⟩ := hrel
    gi_wp2_with (first
      | (gi_at_next; refine wpListIn_next_ranges _ rfl _ rfl 9 (string_keyed Tryz.underlying9) entR encStr entV (fun key kl hk => by obtain ⟨x, hx, _⟩ := Maps.keyOf_str Tryz.underlying9 hk; exact ⟨x, hx⟩) (fun v y hv => by obtain ⟨c, hc, _⟩ := entR_inv hv; exact ⟨c, hc⟩) b W.heap.size nn _ _ _ rfl hrg ?_ ?_)
      | gi_in)
    · intro hc0 hl0
      gi_wp2
      go_end0
      exact ⟨⟨_, rfl⟩, .inl ⟨_, ⟨ps, ⟨hC.1, fun x => by rw [hC.2 x, hl0]; simp, hV⟩, rfl, by omega⟩, hJs⟩⟩
    · intro x cp cd kl yd yp w2 cnt2 hkey hlk hv hat hrg2 hlt hg2 hs2 hen
      obtain ⟨x', ex, rfl, _⟩ := Maps.keyOf_str Tryz.underlying9 hkey
      obtain rfl : x = x' := encStr_inj ex
      obtain ⟨c', ec, ez⟩ := entR_inv hv
      obtain rfl : (cp, cd) = c' := entV_inj ec
      obtain rfl : yd = entD (cp, cd) := (Prod.mk.inj ez).1
      have hJ2 : J (ps.map (·.2)) w2 := hJ _ wr w2 (some W.heap.size) hJs hg2 (fun r e => by cases e; exact ⟨Nat.le_refl _, hrg.iter_walk⟩)
      have hJ3 : J (ps.map (·.2)) (w2.alloc (.cells #[.string cp, .string cd] 23)) := hJ _ w2 _ none hJ2 (World.grownBy_alloc w2 _ none) (fun r e => by cases e)
      have hrg3 := hrg2.alloc (.cells #[.string cp, .string cd] 23)
      have hk3 := blk_new w2 23 #[.string cp, .string cd]
      have hC2 : Collected D0 (fun z => left z && !z.sameKey (.string x)) ((ps ++ [(x, (cp, cd))]).map (·.1)) := by simpa using hC.step hlk hat
      have hV2 : ∀ p ∈ ps ++ [(x, (cp, cd))], ∀ zd, D0.atKey (.string p.1) zd = entD p.2 := fun p hp => (List.mem_append.1 hp).elim (hV p) (fun e => by rw [List.mem_singleton] at e; subst e; exact hat)
      obtain ⟨fn, tmps, assign, body, hy0, hR⟩ := hY (ps.map (·.2)) (cp, cd) _ hJ3 (by rw [List.length_map]; omega)
      have hy : (Instr.yield l #[.agg #[.string cp, .string cd]]).run Tryz.prog (w2.alloc (.cells #[.string cp, .string cd] 23)) = .ok (.round l fn tmps assign body) (w2.alloc (.cells #[.string cp, .string cd] 23)) := hy0
      have hen' : (Instr.entry (.pointer (some ⟨W.heap.size, 0, none⟩))).run Tryz.prog w2 = .ok (.tuple #[encStr x, .agg #[.string cp, .string cd]]) w2 := hen
      have HR := Lib.hid hR
      have HK := Lib.hid (And.intro hC2 hV2)
      have HRG := Lib.hid hrg3
      clear hs2 hy0 hR hen hC2 hV2 hrg3
      gi_upto_region 3 with fail
      generalize hw3 : w2.alloc (.cells #[.string cp, .string cd] 23) = w3 at *
      have y0 : w3.cell? ⟨w2.heap.size, 0, none⟩ = some (.string cp) := blk_cell hk3 0
      have y1 : w3.cell? ⟨w2.heap.size, 1, none⟩ = some (.string cd) := blk_cell hk3 1
      gi_wp2
      refine HR.out.mono ?_
      rintro e W3 (⟨rfl, hJ4, hk4⟩ | ⟨rfl, hJx4⟩)
      · gi_wp2
        have hrg4 := HRG.out.of_walks hk4
        go_roundw
        case rel => exact ⟨_, cnt2, ps ++ [(x, (cp, cd))], hrg4, by simp; omega, HK.out.1, HK.out.2, by simpa using hJ4⟩
        case measure => rw [hrg4.left_eq, hrg.left_eq]; exact hlt
      · gi_wp2
        refine bodyPost_ret (results_none rfl _ _ _) rfl ?_
        exact ⟨⟨_, rfl⟩, .inr ⟨_, trivial, hJx4⟩⟩
end Go.Proofs.YtdjmfkodjjjhfaaGreatDoor
/- Tar's Last: slices.AppendSeq and Collect over the files of a map. Conditions: maps of at most 900000 files. -/
namespace Go.Proofs.YtdjmfkodjjjhfaaGreatDoor
open Go.RowKit Go.Maps Go.Sort
attribute [local go_sem] Oper.semAt_some

/-- What Collect tells. -/
def ColPost (D0 : DataW Unit) (w : World) (e : Ending) (w' : World) : Prop :=
  ∃ A n c ps, e = .returned (.slice A n c) ∧ OutE D0 ps ∧ n = (ps.map (·.2)).length ∧ ps.length ≤ Maps.size D0 ∧ w'.ownsRow w.heap.size 23 2 (.slice A n c) n (cellsB (ps.map (·.2))) ∧ Below w.heap.size w w'
set_option maxHeartbeats 6400000 in
set_option maxRecDepth 100000 in
theorem cappendseq (w : World) (Bm b nn : Nat) (D0 : DataW Unit) (hsz : Maps.size D0 ≤ 900000) (hm : w.cell? ⟨Bm, 0, none⟩ = some (.map (some b))) (hown : w.ownsMap Tryz.prog 9 entR b nn D0) :
    Calls Tryz.prog 114 #[.slice none 0 0, .func (.func 81) #[] #[.pointer (some ⟨Bm, 0, none⟩)]] w (ColPost D0 w) := by
  have hxl := Boxed.new w 36 (.slice none 0 0)
  have hI0 : EntI w.heap.size w.heap.size w [] (w.alloc (.cells #[.slice none 0 0] 36)) := ⟨⟨_, hxl, World.ownsRow_nil _ _ _ _⟩, (Below.refl _ _).alloc (Nat.le_refl _) _⟩
  have HI0 := Lib.hid hI0
  have HS1 : Hid ((w.alloc (.cells #[.slice none 0 0] 36)).heap.size = w.heap.size + 1) := Lib.hid (World.size_alloc _ _)
  have hbm : Bm < w.heap.size := World.block_lt_of_cell? w _ hm
  have HM : Hid ((w.alloc (.cells #[.slice none 0 0] 36)).cell? ⟨Bm, 0, none⟩ = some (.map (some b))) := Lib.hid ((((Below.refl w.heap.size w).alloc (Nat.le_refl _) _).cell (p := ⟨Bm, 0, none⟩) hbm).trans hm)
  have HO := Lib.hid (hown.alloc (.cells #[.slice none 0 0] 36))
  have HP : Hid (∀ A n c ps w', OutE D0 ps → n = (ps.map (·.2)).length → ps.length ≤ Maps.size D0 → w'.ownsRow w.heap.size 23 2 (.slice A n c) n (cellsB (ps.map (·.2))) → Below w.heap.size w w' → ColPost D0 w (.returned (.slice A n c)) w') := Lib.hid fun A n c ps w' h1 h2 h2' h3 h4 => ⟨A, n, c, ps, rfl, h1, h2, h2', h3, h4⟩
  generalize ColPost D0 w = PO at *
  clear hxl hI0 hm hown
  refine (callsIn_wide (n := 9)).1 (callsIn_of_wp_marks Tryz.func114 rfl trivial ?_ rfl)
  refine wpIn_wide.2 ?_
  simp only [Tryz.ntmps114, List.size_toArray, List.length_cons, List.length_nil, Nat.reduceAdd, Nat.reduceSub, Array.replicate_succ, Array.replicate_zero, List.push_toArray, List.append_toArray, List.nil_append, List.cons_append]
  go_upto_region 1 with fail
  generalize w.alloc (.cells #[.slice none 0 0] 36) = w1 at *
  go_wp2_with fail
  refine (wpIn_wide (n := 9)).1 ?_
  refine wpIn_rangeFunc_ownH rfl (by omega) (gf := 81) (lb := #[.pointer (some ⟨Bm, 0, none⟩)]) rfl trivial (enters_of Tryz.func81 (by kernel_rfl) rfl)
    (encs := encV1) (Kp := KeepsWalks) (S := fun xs => ∃ ps, OutE D0 ps ∧ xs = ps.map (·.2) ∧ ps.length ≤ Maps.size D0) (Sp := fun _ => True) (N := Maps.size D0) (w0 := w1) ?seq walksK_t walksK_b (Below.refl _ _) (fun _ => rfl)
    (fun pre W => EntI w.heap.size w.heap.size w pre W) (fun _ _ _ => False) ?own (fun _ _ _ _ _ h _ _ => h) HI0.out
    (fun x a' W => ∃ Bx, w.heap.size < Bx ∧ Blk W Bx 23 #[.string x.1, .string x.2] ∧ a' = { tmps := #[.slice none 0 0, .func (.func 81) #[] #[.pointer (some ⟨Bm, 0, none⟩)], .pointer (some ⟨w.heap.size, 0, none⟩), undef, .slice none 0 0, .pointer (some ⟨Bx, 0, none⟩), .func (.func 81) #[] #[.pointer (some ⟨Bm, 0, none⟩)], .agg #[.string x.1, .string x.2], undef, undef, undef, undef, undef], defers := [] }) ?ax ?assign ?body ?done ?stop
  case seq =>
    intro l J Jx W hb hJ hJx hY h0
    have hown' : W.ownsMap Tryz.prog 9 entR b nn D0 := by
      have hbl := HO.out.lt
      obtain ⟨es, clock, hb1, Ft, hs, hD⟩ := HO.out
      exact ⟨es, clock, (hb.block b hbl).trans hb1, Ft, hs, hD⟩
    exact cvalues_walk 8 (by omega) l Bm b nn D0 J Jx hY W hJ ((hb.cell (p := ⟨Bm, 0, none⟩) (by have := HS1.out; show Bm < _; omega)).trans HM.out) hown' h0
  case own => exact EntI.own (Nat.le_refl _) (by have := HS1.out; omega)
  case ax =>
    rintro x a' u W W' row ⟨Bx, h1, h2, h3⟩ hg hr
    exact ⟨Bx, h1, blk_keepF h2 hg hr, h3⟩
  case assign =>
    rintro l pre x W K hI hK
    have hlt : w.heap.size < W.heap.size := by
      obtain ⟨v, hv, _⟩ := hI.ex
      exact hv.lt
    obtain ⟨P, V⟩ := x
    dsimp only [encV1, entV]
    gi_wp2
    exact hK _ _ ((KeepsOthers.alloc _ _).from _) (KeepsWalks.alloc _ _) (hI.alloc (Nat.le_refl _) _) ⟨W.heap.size, hlt, blk_new W _ _, rfl⟩
  case body =>
    rintro l pre x a' W hl hrec hI ⟨Bx, hBx, hbx, rfl⟩ hlen
    obtain ⟨P, V⟩ := x
    dsimp only at hbx ⊢
    obtain ⟨A, n, c, g2, n2, c2, W4, q1, q2, q3, q4, q5, q6, q7⟩ := hI.more (Nat.le_refl _) (Nat.le_refl _) P V (by omega)
    have HF := Lib.hid (show KeepsFrom w1.heap.size W (W4.setCell ⟨w.heap.size, 0, none⟩ (.slice (some ⟨g2, 0, none⟩) n2 c2)) ∧ KeepsWalks W (W4.setCell ⟨w.heap.size, 0, none⟩ (.slice (some ⟨g2, 0, none⟩) n2 c2)) ∧ EntI w.heap.size w.heap.size w (pre ++ [(P, V)]) (W4.setCell ⟨w.heap.size, 0, none⟩ (.slice (some ⟨g2, 0, none⟩) n2 c2)) from ⟨q5.from _, q5.walks, q4⟩)
    have Q2 := Lib.hid q2
    have y1 := q1.cell
    have y3 := q3.cell
    have y4 := q3.frozen
    have x0 : W.cell? ⟨Bx, 0, none⟩ = some (.string P) := blk_cell hbx 0
    have x1 : W.cell? ⟨Bx, 1, none⟩ = some (.string V) := blk_cell hbx 1
    clear q1 q2 q3 q4 q5 q6 q7 hI hlen hbx
    gi_wp2_with (gi_at_builtin; refine wpListIn_append_run _ rfl _ _ 36 36 rfl (.slice A n c) (.slice (some ⟨W.heap.size, 0, none⟩) 1 1) rfl rfl (.slice (some ⟨g2, 0, none⟩) n2 c2) W4 Q2.out ?_)
    exact HF.out
  case done =>
    rintro D xs W hD ⟨ps, hps, rfl, hpl⟩ hI hK
    obtain ⟨A, n, c, q1, q2, q3, q4⟩ := hI.pin
    have HF := Lib.hid (And.intro hK (And.intro q2 (And.intro q3 (And.intro hI.low (And.intro hps hpl)))))
    have y4 := q1.cell
    clear hI hK q1 q2 q3 q4 hps hpl
    gi_wp2_with fail
    go_wp2_with fail
    obtain ⟨hK, hrow, hn, hlow, hps, hpl⟩ := HF.out
    refine ⟨by simp, .inl ⟨_, _, rfl, run_takeDeferred hK, ?_⟩⟩
    refine ⟨_, results_tmp rfl _ _ _, ?_⟩
    exact HP.out A n c ps _ hps hn hpl (ownsRow_putObj hrow _ hK rfl) (hlow.grown (grownBy_putObj' _ D (.deferred none)) hlow.size (fun k e => by cases e; have := HS1.out; omega))
  case stop =>
    rintro D c pre W hD hS hF hK
    exact hF.elim
set_option maxRecDepth 100000 in
theorem ccollect (w : World) (Bm b nn : Nat) (D0 : DataW Unit) (hsz : Maps.size D0 ≤ 900000) (hm : w.cell? ⟨Bm, 0, none⟩ = some (.map (some b))) (hown : w.ownsMap Tryz.prog 9 entR b nn D0) :
    Calls Tryz.prog 79 #[.func (.func 81) #[] #[.pointer (some ⟨Bm, 0, none⟩)]] w (ColPost D0 w) := by
  have HA := Lib.hid (cappendseq w Bm b nn D0 hsz hm hown)
  clear hm hown
  go_enter Tryz.func79, Tryz.ntmps79
  go_wp2_with fail
  refine HA.out.mono ?_
  rintro e w' ⟨A, n, c, ps, rfl, h1, h2, h2', h3, h4⟩
  have HH := Lib.hid (show ColPost D0 w (.returned (.slice A n c)) w' from ⟨A, n, c, ps, rfl, h1, h2, h2', h3, h4⟩)
  clear h1 h2 h2' h3 h4
  go_wp2_with fail
  go_ret
  exact HH.out
end Go.Proofs.YtdjmfkodjjjhfaaGreatDoor
/- Tar's Last: files put in order by their paths; Last. Conditions: at most 1000 files, texts of at most 40000 bytes. -/
namespace Go.Proofs.YtdjmfkodjjjhfaaGreatDoor
open Go.RowKit

set_option maxRecDepth 100000 in
theorem grow_of {w w' : World} (h : Below w.heap.size w w') (hd : w.drawn ≤ w'.drawn) : ∃ q os, w' = Go.Sort.grow (w.drewN q) os := by
  refine ⟨w'.drawn - w.drawn, w'.heap.extract w.heap.size w'.heap.size, ?_⟩
  have h1 : w.heap ++ w'.heap.extract w.heap.size w'.heap.size = w'.heap := by
    apply Array.ext
    · simp
      have := h.size
      omega
    · intro i h1 h2
      by_cases hi : i < w.heap.size
      · rw [Array.getElem_append_left hi]
        have h3 := h.block i hi
        rw [Array.getElem?_eq_getElem h2, Array.getElem?_eq_getElem hi] at h3
        exact (Option.some.inj h3).symm
      · rw [Array.getElem_append_right (by omega), Array.getElem_extract]
        congr 1
        omega
  have h2 : w.drawn + (w'.drawn - w.drawn) = w'.drawn := by omega
  have h3 := h.os
  have h4 := h.tape
  have h5 := h.output
  obtain ⟨hp, tp, dr, os, op⟩ := w
  obtain ⟨hp', tp', dr', os', op'⟩ := w'
  unfold Go.Sort.grow World.drewN
  dsimp only at h1 h2 h3 h4 h5 ⊢
  subst h3 h4 h5
  rw [h1, h2]
/-- Files whose paths are short enough to be told apart. -/
abbrev EntS := { p : PairB // p.1.size ≤ 140737488355328 }
instance : Inhabited EntS := ⟨⟨noB, by decide⟩⟩
def encS (x : EntS) : List Value := [.string x.1.1, .string x.1.2]
def cfS (x y : EntS) : Int := cmpL x.1.1.data.toList y.1.1.data.toList
set_option maxHeartbeats 1600000 in
set_option maxRecDepth 100000 in
theorem ccmpE (x y : EntS) (w : World) : Calls Tryz.prog 48 #[.agg #[.string x.1.1, .string x.1.2], .agg #[.string y.1.1, .string y.1.2]] w fun e w' => e = .returned (.int .i64 (cfS x y)) ∧ ∃ q os', w' = Go.Sort.grow (w.drewN q) os' := by
  have hk1 := blk_past (blk_new w 23 #[.string x.1.1, .string x.1.2]) (.cells #[.string y.1.1, .string y.1.2] 23)
  have hk2 := blk_new (w.alloc (.cells #[.string x.1.1, .string x.1.2] 23)) 23 #[.string y.1.1, .string y.1.2]
  rw [World.size_alloc] at hk2
  have HB : Hid (Below w.heap.size w ((w.alloc (.cells #[.string x.1.1, .string x.1.2] 23)).alloc (.cells #[.string y.1.1, .string y.1.2] 23))) := Lib.hid (((Below.refl _ _).alloc (Nat.le_refl _) _).alloc (by simp) _)
  have HD : Hid (((w.alloc (.cells #[.string x.1.1, .string x.1.2] 23)).alloc (.cells #[.string y.1.1, .string y.1.2] 23)).drawn = w.drawn) := Lib.hid rfl
  have C1 := Lib.hid fun wx : World => ccmp_drawn wx x.1.1 y.1.1 x.2 y.2
  unfold cfS
  obtain ⟨⟨P, V⟩, hx⟩ := x
  obtain ⟨⟨R, U⟩, hy⟩ := y
  dsimp only at *
  generalize cmpL P.data.toList R.data.toList = k at *
  go_enter Tryz.func48, Tryz.ntmps48
  go_upto_region 1 with fail
  generalize (w.alloc (.cells #[.string P, .string V] 23)).alloc (.cells #[.string R, .string U] 23) = w1 at *
  have y0 : w1.cell? ⟨w.heap.size, 0, none⟩ = some (.string P) := blk_cell hk1 0
  have y1 : w1.cell? ⟨w.heap.size + 1, 0, none⟩ = some (.string R) := blk_cell hk2 0
  clear hk1 hk2 hx hy
  go_wp2_with fail
  refine (C1.out _).mono ?_
  rintro e w2 ⟨rfl, hb2, hd2⟩
  have HF := Lib.hid (grow_of (HB.out.trans (hb2.mono HB.out.size)) (by have := HD.out; omega))
  clear hb2 hd2
  go_wp2_with fail
  go_ret
  exact ⟨rfl, HF.out⟩
end Go.Proofs.YtdjmfkodjjjhfaaGreatDoor
/- Tar's Last: slices.SortFunc at files by their paths. Conditions: fewer than 1000000 files, no path twice. -/
namespace Go.Proofs.YtdjmfkodjjjhfaaGreatDoor
open Go.RowKit

/-- Block g is a row of files that begins with T. -/
def TRowE (w : World) (g : Nat) (T : List EntS) : Prop :=
  ∃ cs, Blk w g 23 cs ∧ ∀ i, i < T.length → cs[i * 2]? = some (.string (T.getD i default).1.1) ∧ cs[i * 2 + 1]? = some (.string (T.getD i default).1.2)
theorem TRowE.cell0 {w : World} {g : Nat} {T : List EntS} (h : TRowE w g T) {i : Nat} (hi : i < T.length) : w.cell? ⟨g, i * 2, none⟩ = some (.string (T.getD i default).1.1) := by
  obtain ⟨cs, hb, hc⟩ := h
  rw [blk_cell hb, (hc i hi).1]
theorem TRowE.cell1 {w : World} {g : Nat} {T : List EntS} (h : TRowE w g T) {i : Nat} (hi : i < T.length) : w.cell? ⟨g, i * 2 + 1, none⟩ = some (.string (T.getD i default).1.2) := by
  obtain ⟨cs, hb, hc⟩ := h
  rw [blk_cell hb, (hc i hi).2]
theorem TRowE.frozen {w : World} {g : Nat} {T : List EntS} (h : TRowE w g T) (i : Nat) : w.frozen? ⟨g, i, none⟩ = false := by
  obtain ⟨cs, hb, hc⟩ := h
  exact blk_frozen hb i
theorem TRowE.lt {w : World} {g : Nat} {T : List EntS} (h : TRowE w g T) : g < w.heap.size := by
  obtain ⟨cs, hb, hc⟩ := h
  exact blk_lt hb
set_option maxRecDepth 100000 in
theorem getE (T : List EntS) (i : Nat) (h : i < T.length) : T.toArray[i]! = T.getD i default := by
  rw [List.getD_eq_getElem?_getD, List.getElem?_eq_getElem h]
  simp [h]
set_option maxRecDepth 100000 in
theorem holds_trowE {w : World} {g : Nat} {T : List EntS} (h : TRowE w g T) : Go.Sort.HoldsK encS 2 w g 0 T.toArray := by
  intro t ht
  have ht2 : t < T.length * 2 := by simpa using ht
  have hi : t / 2 < T.length := by omega
  refine ⟨?_, h.frozen _⟩
  rw [Go.Sort.get_flatK encS 2 T.toArray t (by simpa using ht2), getE T _ hi, Nat.zero_add]
  by_cases e : t % 2 = 0
  · have h1 := h.cell0 hi
    rw [show t / 2 * 2 = t by omega] at h1
    rw [h1, e]
    rfl
  · have h1 := h.cell1 hi
    rw [show t / 2 * 2 + 1 = t by omega] at h1
    rw [h1, show t % 2 = 1 by omega]
    rfl
theorem TRowE.pin {w : World} {g : Nat} {T : List EntS} (h : TRowE w g T) : PIn w (some ⟨g, 0, none⟩) T.length (T.map (·.1)) := by
  refine ⟨List.length_map _, fun _ => ⟨g, 0, rfl, fun i hi => ?_⟩⟩
  have e : (T.map (·.1)).getD i noB = (T.getD i default).1 := by
    rw [List.getD_eq_getElem?_getD, List.getD_eq_getElem?_getD, List.getElem?_map, List.getElem?_eq_getElem hi]
    rfl
  rw [e, Nat.zero_add]
  exact ⟨h.cell0 hi, h.cell1 hi⟩
set_option maxRecDepth 100000 in
theorem trowE_of {w : World} {n₀ g n c : Nat} {T : List EntS} (h : w.ownsRow n₀ 23 2 (.slice (some ⟨g, 0, none⟩) n c) n (cellsB (T.map (·.1)))) : TRowE w g T ∧ n₀ ≤ g := by
  have hcl := fun j hj => World.ownsRow.cellAt h (g := g) j hj
  have hn := h.1
  rw [cellsB_length, List.length_map] at hn
  rcases h.2 with ⟨hv, _⟩ | ⟨g', cap, cur, hv, hbase, hgb, _⟩
  · cases hv
  · obtain rfl : g' = g := by
      injection hv with hv
      injection hv with hv
      injection hv with hv
      exact hv.symm
    have hb : Blk w g' 23 cur := hgb
    refine ⟨⟨cur, hb, fun i hi => ?_⟩, hbase⟩
    have e : (T.map (·.1)).getD i noB = (T.getD i default).1 := by
      rw [List.getD_eq_getElem?_getD, List.getD_eq_getElem?_getD, List.getElem?_map, List.getElem?_eq_getElem hi]
      rfl
    obtain ⟨h1, h2⟩ := cellsB_get (T.map (·.1)) i (by rw [List.length_map]; exact hi)
    have hl : (cellsB (T.map (·.1))).length = T.length * 2 := by rw [cellsB_length, List.length_map]
    have c1 := hcl (i * 2) (by omega)
    have c2 := hcl (i * 2 + 1) (by omega)
    rw [blk_cell hb, h1, e] at c1
    rw [blk_cell hb, h2, e] at c2
    exact ⟨c1, c2⟩
set_option maxRecDepth 100000 in
/-- A world that the sort passes through: the row's block is a block still, and all else is as it was. -/
theorem sort_worldE {w : World} {g : Nat} {T : List EntS} (h : TRowE w g T) (n : Nat) (d : Array EntS) (os : Array Obj) (hs : d.size = T.length) (B : Nat) (hB : B ≤ g) :
    TRowE (sortWorldK encS 2 w g 0 n d os) g d.toList ∧ Below B w (sortWorldK encS 2 w g 0 n d os) := by
  have hlt := h.lt
  have hH := holdsK_sortWorldK_c encS 2 w g 0 T.toArray d n os (holds_trowE h) hlt (by simpa using hs)
  have hz := size_sortWorldK_c encS 2 w g 0 n d os
  have hold : ∀ k, k < w.heap.size → k ≠ g → (sortWorldK encS 2 w g 0 n d os).heap[k]? = w.heap[k]? := by
    intro k hk hne
    unfold sortWorldK Go.Sort.putRowK Go.Sort.putRow Go.Sort.mapBlock Go.Sort.grow Go.Sort.ahead
    dsimp only
    rw [Array.getElem?_append_left (by simpa using hk), Array.getElem?_modify, if_neg (fun e => hne e.symm)]
  have hown : ∃ cs', Blk (sortWorldK encS 2 w g 0 n d os) g 23 cs' := by
    obtain ⟨cs, hb, _⟩ := h
    unfold Blk at hb ⊢
    unfold sortWorldK Go.Sort.putRowK Go.Sort.putRow Go.Sort.mapBlock Go.Sort.grow Go.Sort.ahead
    dsimp only
    rw [Array.getElem?_append_left (by simpa using hlt), Array.getElem?_modify, if_pos rfl, hb]
    exact ⟨_, rfl⟩
  refine ⟨?_, ⟨rfl, rfl, rfl, hz, fun k hk => hold k (by omega) (by omega)⟩⟩
  obtain ⟨cs', hb'⟩ := hown
  refine ⟨cs', hb', fun i hi => ?_⟩
  have hi2 : i < d.size := by simpa using hi
  have e : d[i]! = d.toList.getD i default := by
    rw [← getE d.toList i hi]
  have h0 := (Go.Sort.HoldsK.cell hH hi2 (c := 0) (by omega)).1
  have h1 := (Go.Sort.HoldsK.cell hH hi2 (c := 1) (by omega)).1
  rw [blk_cell hb', Nat.zero_add, e] at h0 h1
  exact ⟨h0, h1⟩
set_option maxRecDepth 100000 in
theorem cmp_neg (a b : List UInt8) : cmpL a b < 0 ↔ cmpL a b = -1 := by
  rcases cmp_three a b with h | h | h <;> omega
set_option maxRecDepth 100000 in
theorem csort (w : World) (n₀ g n c : Nat) (T : List EntS) (h : w.ownsRow n₀ 23 2 (.slice (some ⟨g, 0, none⟩) n c) n (cellsB (T.map (·.1)))) (hn : n = T.length) (hz : n ≤ 1000000) (hd : (T.map fun x => x.1.1.data.toList).Nodup) :
    Calls Tryz.prog 80 #[.slice (some ⟨g, 0, none⟩) n c, .func (.func 48) #[] #[]] w fun e w' => e = .returned (.tuple #[]) ∧ ∃ T' : List EntS, T'.Perm T ∧ T'.Pairwise (fun a b => cfS a b = -1) ∧ PIn w' (some ⟨g, 0, none⟩) n (T'.map (·.1)) ∧ Below n₀ w w' := by
  obtain ⟨hr, hB⟩ := trowE_of h
  have hlf : ∀ x y, ltOf cfS x y = false ↔ 0 ≤ cfS x y := fun x y => by
    unfold ltOf
    rw [decide_eq_false_iff_not]
    omega
  have hlt : ∀ x y, ltOf cfS x y = true ↔ cfS x y = -1 := fun x y => by
    unfold ltOf
    rw [decide_eq_true_eq]
    exact cmp_neg _ _
  have hO : Go.Sort.SWO (ltOf cfS) := by
    refine ⟨fun x => (hlf x x).2 ?_, fun x y z h1 h2 => (hlt x z).2 (cmp_less ((hlt x y).1 h1) ((hlt y z).1 h2)), fun x y z h1 h2 => (hlf x z).2 ?_⟩
    · unfold cfS
      rw [cmp_zero.2 rfl]
      omega
    · have h3 := (hlf x y).1 h1
      have h4 := (hlf y z).1 h2
      unfold cfS at h3 h4 ⊢
      rw [cmp_turn y.1.1.data.toList] at h3
      rw [cmp_turn z.1.1.data.toList] at h4
      have h5 := cmp_trans (a := z.1.1.data.toList) (b := y.1.1.data.toList) (c := x.1.1.data.toList) (by omega) (by omega)
      rw [cmp_turn z.1.1.data.toList]
      omega
  have hS := AnyQ.slices_SortFunc Tryz.laysSort 2 Tryz.isAgg23 Tryz.sizeOf23 encS (fun _ => rfl) (fun x v hv => by simp [encS] at hv; rcases hv with rfl | rfl <;> rfl) cfS hO 48 #[] g 0 c T.toArray w (enters_of Tryz.func48 (by kernel_rfl) rfl)
    (fun m os dk _ x y => ccmpE x y _) (holds_trowE hr) hr.lt (by simp; omega)
  have hsz : T.toArray.size = T.length := by simp
  rw [hsz, ← hn] at hS
  refine hS.mono ?_
  rintro e w' ⟨rfl, d', k, os, hp, hs, rfl⟩
  have hds : d'.size = T.length := by rw [hp.1, hsz]
  rw [hn] at hs
  have hperm : d'.toList.Perm T := by
    have := hp.2.2
    rw [hn, ← hds, Array.extract_size, hds, ← hsz, Array.extract_size] at this
    simpa using this
  obtain ⟨h1, h2⟩ := sort_worldE hr k d' os hds n₀ hB
  refine ⟨rfl, d'.toList, hperm, ?_, ?_, h2⟩
  · have hnd : (d'.toList.map fun x => x.1.1.data.toList).Nodup := (hperm.map _).nodup_iff.2 hd
    rw [List.pairwise_iff_getElem]
    intro i j hi hj hij
    have hi2 : i < d'.size := by simpa using hi
    have hj2 : j < d'.size := by simpa using hj
    have h3 := hs i j (Nat.zero_le _) hij (by omega)
    have h4 := (hlf _ _).1 h3
    rw [getElem!_pos d' i hi2, getElem!_pos d' j hj2] at h4
    have hne : cfS d'[j] d'[i] ≠ 0 := by
      intro e
      have e2 := cmp_zero.1 e
      rw [List.nodup_iff_pairwise_ne, List.pairwise_iff_getElem] at hnd
      have := hnd i j (by simpa using hi) (by simpa using hj) hij
      simp at this
      exact this (Array.toList_inj.1 e2.symm)
    have h5 : cfS d'[i] d'[j] = - cfS d'[j] d'[i] := cmp_turn _ _
    have h6 := cmp_three d'[i].1.1.data.toList d'[j].1.1.data.toList
    have h7 : cfS d'[i] d'[j] = -1 := by
      have h8 : cfS d'[i] d'[j] = cmpL d'[i].1.1.data.toList d'[j].1.1.data.toList := rfl
      omega
    simpa using h7
  · have h3 := h1.pin
    rw [show d'.toList.length = n by simp; omega] at h3
    exact h3
end Go.Proofs.YtdjmfkodjjjhfaaGreatDoor
/- Tar's Last. Conditions: at most 1000 files, texts of at most 40000 bytes. -/
namespace Go.Proofs.YtdjmfkodjjjhfaaGreatDoor
open Go.RowKit Go.Maps

set_option maxRecDepth 100000 in
theorem size_own {w : World} {b n : Nat} {D : DataW Unit} (h : w.ownsMap Tryz.prog 9 entR b n D) : Maps.size D ≤ n := by
  obtain ⟨es, clock, hb, F, hs, rfl⟩ := h
  rw [size_eq, length_sorted]
  simpa using hs
/-- What Last tells. -/
def LastPost (L : List PairB) (w : World) (e : Ending) (w' : World) : Prop := ∃ A' n' c' M, e = .returned (.slice A' n' c') ∧ M.map toL = lastsT (L.map toL) ∧ PIn w' A' n' M ∧ n' ≤ maxLen ∧ RowKit.Below w.heap.size w w'
theorem attach_map (xs : List PairB) (h : ∀ x, x ∈ xs → x.1.size ≤ 140737488355328) : ∃ T : List EntS, T.map (·.1) = xs := by
  induction xs with
  | nil => exact ⟨[], rfl⟩
  | cons x xs ih =>
    obtain ⟨T, hT⟩ := ih fun y hy => h y (List.mem_cons_of_mem _ hy)
    exact ⟨⟨x, h x List.mem_cons_self⟩ :: T, by rw [List.map_cons, hT]⟩
set_option maxHeartbeats 3200000 in
set_option maxRecDepth 100000 in
theorem csorted (w : World) (Bm b nn : Nat) (D0 : DataW Unit) (L : List PairB) (hnn : nn ≤ 900000) (hm : w.cell? ⟨Bm, 0, none⟩ = some (.map (some b))) (hown : w.ownsMap Tryz.prog 9 entR b nn D0) (hH : HoldsE D0 L) (hL : ∀ p, p ∈ L → p.1.size ≤ 40000) :
    Calls Tryz.prog 46 #[.func (.func 81) #[] #[.pointer (some ⟨Bm, 0, none⟩)], .func (.func 48) #[] #[]] w (LastPost L w) := by
  have HC := Lib.hid (ccollect w Bm b nn D0 (Nat.le_trans (size_own hown) hnn) hm hown)
  have hsD := size_own hown
  have HSD := Lib.hid hsD
  have HP : Hid (∀ A' n' c' M w', M.map toL = lastsT (L.map toL) → PIn w' A' n' M → n' ≤ maxLen → RowKit.Below w.heap.size w w' → LastPost L w (.returned (.slice A' n' c')) w') := Lib.hid fun A' n' c' M w' h1 h2 h3 h4 => ⟨A', n', c', M, rfl, h1, h2, h3, h4⟩
  generalize LastPost L w = PO at *
  have HH := Lib.hid hH
  have HL := Lib.hid hL
  clear hm hown hsD hH hL
  go_enter Tryz.func46, Tryz.ntmps46
  go_wp2_with fail
  refine HC.out.mono ?_
  rintro e w1 ⟨A, n, c, ps, rfl, ho, hn, hpl, hrow, hb1⟩
  obtain ⟨_, c', hv, hcc, hcm, hA⟩ := own_slice hrow
  injection hv with hv1 hv2 hv3
  subst hv1 hv3
  rcases Nat.eq_zero_or_pos n with h0 | h0
  · have hxs : ps.map (·.2) = [] := List.eq_nil_of_length_eq_zero (by omega)
    have hlast := outE_last HH.out ho (T := []) (by rw [hxs]) List.Pairwise.nil
    have HF := Lib.hid (HP.out A 0 c [] w1 hlast ⟨rfl, fun h => absurd h (Nat.lt_irrefl 0)⟩ (Nat.zero_le _) hb1)
    subst h0
    have HSN := Lib.hid (AnyF.slices_SortFunc_none Tryz.laysSort A c (.func (.func 48) #[] #[]) w1)
    clear ho hn hpl hrow hb1 hA hxs hlast hcc hcm
    go_wp2_with fail
    refine HSN.out.mono ?_
    rintro e w2 ⟨rfl, rfl⟩
    go_wp2_with fail
    exact HF.out
  · obtain ⟨g, rfl⟩ := hA h0
    obtain ⟨T, hT⟩ := attach_map (ps.map (·.2)) fun x hx => by have := HL.out x (outE_mem HH.out ho hx); omega
    have hnT : n = T.length := by rw [hn, ← hT, List.length_map]
    have hnd : (T.map fun x => x.1.1.data.toList).Nodup := by
      have h := outE_nodup HH.out ho
      rw [← hT, List.map_map] at h
      exact h
    have hnz : n ≤ 1000000 := by
      rw [hn, List.length_map]
      have := HSD.out
      omega
    have HS := Lib.hid (csort w1 w.heap.size g n c T (by rw [hT]; exact hrow) hnT hnz hnd)
    have HF : Hid (∀ (T' : List EntS) w2, T'.Perm T → T'.Pairwise (fun a b => cfS a b = -1) → PIn w2 (some ⟨g, 0, none⟩) n (T'.map (·.1)) → RowKit.Below w.heap.size w1 w2 → PO (.returned (.slice (some ⟨g, 0, none⟩) n c)) w2) := Lib.hid fun T' w2 h1 h2 h3 h4 => by
      have hp : (T'.map (·.1)).Perm (ps.map (·.2)) := by rw [← hT]; exact h1.map _
      exact HP.out _ n c _ w2 (outE_last HH.out ho hp (List.pairwise_map.2 h2)) h3 (Nat.le_trans hcc hcm) (hb1.trans h4)
    clear ho hn hpl hrow hb1 hA hT hnT hnd hnz hcc hcm h0
    go_wp2_with fail
    refine HS.out.mono ?_
    rintro e w2 ⟨rfl, T', h1, h2, h3, h4⟩
    have HG := Lib.hid (HF.out T' w2 h1 h2 h3 h4)
    clear h1 h2 h3 h4
    go_wp2_with fail
    exact HG.out
set_option maxHeartbeats 3200000 in
set_option maxRecDepth 100000 in
theorem clastE_any (w : World) (A : Option Addr) (n c : Nat) (L : List PairB) (hI : PIn w A n L) (hn : n ≤ 1000) (hL : ∀ p, p ∈ L → p.1.size ≤ 40000 ∧ p.2.size ≤ 40000) :
    Calls Tryz.prog 22 #[.slice A n c] w (LastPost L w) := by
  have hmm := @run_makeMap Tryz.prog
  have HI := Lib.hid hI
  have hlen := hI.1
  have HLEN := Lib.hid hlen
  have HLN : Hid (L.take n = L) := Lib.hid (by rw [← hlen, List.take_length])
  have HL := Lib.hid hL
  have HP : Hid (∀ e w1 w', RowKit.Below w.heap.size w w1 → LastPost L w1 e w' → LastPost L w e w') := Lib.hid fun e w1 w' h ⟨A', n', c', M, h1, h2, h3, h4, h5⟩ => ⟨A', n', c', M, h1, h2, h3, h4, h.trans (h5.mono h.size)⟩
  have H0 := Lib.hid (World.ownsMap_made w Tryz.prog 9 entR)
  have HB0 := Lib.hid (show RowKit.Below w.heap.size w (w.alloc (.map #[] 0)) from (RowKit.Below.refl _ _).alloc (Nat.le_refl _) _)
  clear hI hlen hL
  go_enter Tryz.func22, Tryz.ntmps22
  go_wp2_with fail
  generalize w.alloc (.map #[] 0) = w0 at *
  go_loopw [9] (fun si wx => ∃ (q : Nat) (D : DataW Unit), si = .int .i64 q ∧ q ≤ n ∧ Hid (wx.ownsMap Tryz.prog 9 entR w.heap.size q D ∧ HoldsE D (L.take q)) ∧ RowKit.Below w.heap.size w wx) (fun si _ => n - (intOf si).toNat)
  case atStart => exact ⟨0, .map [], rfl, Nat.zero_le _, Lib.hid ⟨H0.out, holdsE_nil⟩, HB0.out⟩
  case round =>
    obtain ⟨q, D, rfl, hqn, hJ, hbx⟩ := hrel
    rename World => w1
    have HBX := Lib.hid hbx
    by_cases e : q < n
    · have d2 : decide ((q : Int) < (n : Int)) = true := decide_eq_true (by omega)
      obtain ⟨b, off, hA, hc⟩ := (HI.out.below hbx).2 (by omega)
      obtain ⟨c1, c2⟩ := hc q e
      have hsz := HL.out (L.getD q noB) (by
        rw [List.getD_eq_getElem?_getD, List.getElem?_eq_getElem (by rw [HLEN.out]; exact e)]
        exact List.getElem_mem _)
      have htk : L.take (q + 1) = L.take q ++ [L.getD q noB] := by
        rw [List.take_succ_eq_append_getElem (by rw [HLEN.out]; exact e), List.getD_eq_getElem?_getD, List.getElem?_eq_getElem (by rw [HLEN.out]; exact e)]
        rfl
      have hput := holdsE_put hJ.out.2 (L.getD q noB)
      rw [← htk] at hput
      obtain ⟨K, hK⟩ : ∃ K, K = (L.getD q noB).1 := ⟨_, rfl⟩
      obtain ⟨V, hV⟩ : ∃ V, V = (L.getD q noB).2 := ⟨_, rfl⟩
      rw [show L.getD q noB = (K, V) from by rw [hK, hV]] at hput hsz
      rw [← hK] at c1
      rw [← hV] at c2
      have hown2 := hJ.out.1.alloc (.cells #[.string K, .string V] 23)
      have hr := blk_new w1 23 #[.string K, .string V]
      have HB2 := Lib.hid (HBX.out.alloc HBX.out.size (.cells #[.string K, .string V] 23))
      have hz0 : (0 : Int) ≤ (q : Int) := by omega
      have hzn : (q : Int) < (n : Int) := by omega
      have hKz : K.size ≤ 40000 := hsz.1
      have HPUT := Lib.hid hput
      subst hA
      clear hc hbx hK hV hput htk hsz hJ
      go_upto_region 5 with fail
      generalize w1.alloc (.cells #[.string K, .string V] 23) = w2 at *
      have e0 := (blk_cell hr 0).trans (rfl : _ = some (Value.string K))
      have e1 := (blk_cell hr 1).trans (rfl : _ = some (Value.string V))
      clear hr
      have hkey : Go.keyOf Tryz.prog 9 (.string K) = some (.string K.data.toList) := Go.WideMaps.keyOf_string_mk Tryz.underlying9 (by unfold maxLen; omega)
      go_wp2_with (first | (at_mapUpdate; refine wpList_mapUpdate_own _ rfl _ _ _ 84 rfl 9 23 (string_keyed Tryz.underlying9) Tryz.underlying84 entR w.heap.size q D rfl hown2 (by unfold maxLen; omega) (.string K) (entV (K, V)) _ rfl rfl hkey _ [] (entR_v (K, V)) ?_) | fail)
      intro w4 hown4 hgrow4
      have HJ4 := Lib.hid (And.intro hown4 HPUT.out)
      have HB4 := Lib.hid (HB2.out.grown hgrow4 HB2.out.size (fun k hk => by cases hk; exact Nat.le_refl _))
      clear hown4 hgrow4 hown2 e0 e1
      go_wp2_with fail
      go_roundw
      case rel => exact ⟨q + 1, _, by go_num, by omega, HJ4, HB4.out⟩
      case measure => simp [intOf]; omega
    · obtain rfl : q = n := by omega
      have d2 : decide ((q : Int) < (q : Int)) = false := decide_eq_false (by omega)
      obtain ⟨hown, hH⟩ := hJ.out
      rw [HLN.out] at hH
      have HO := Lib.hid hown
      have HH := Lib.hid hH
      have CV := Lib.hid (cvalues w1 (some w.heap.size))
      clear hbx hJ hown hH
      go_wp2_with fail
      refine CV.out.mono ?_
      rintro e w2 ⟨rfl, rfl⟩
      have HB2 := Lib.hid (HBX.out.alloc HBX.out.size (.cells #[.map (some w.heap.size)] 84))
      have hm : (w1.alloc (.cells #[.map (some w.heap.size)] 84)).cell? ⟨w1.heap.size, 0, none⟩ = some (.map (some w.heap.size)) := blk_cell (blk_new w1 84 #[.map (some w.heap.size)]) 0
      have CS := Lib.hid (csorted _ w1.heap.size w.heap.size q D L (by omega) hm (HO.out.alloc _) HH.out fun p hp => (HL.out p hp).1)
      generalize w1.alloc (.cells #[.map (some w.heap.size)] 84) = w3 at *
      clear hm
      go_wp2_with fail
      refine CS.out.mono ?_
      rintro e w4 h4
      obtain ⟨A', n', c', M, rfl, h5⟩ := HP.out _ _ _ HB2.out h4
      have HF := Lib.hid (show LastPost L w (.returned (.slice A' n' c')) w4 from ⟨A', n', c', M, rfl, h5⟩)
      generalize LastPost L w = PO at *
      clear h4 h5
      go_wp2_with fail
      exact HF.out
end Go.Proofs.YtdjmfkodjjjhfaaGreatDoor
/- Tar's code: what is asked of its functions holds. -/
namespace Go.Proofs.YtdjmfkodjjjhfaaGreatDoor
open Go.RowKit

theorem tdone : TarDone where
  entry := fun w hT p d hp hd _ => centry_any w hT p d hp hd
  read := fun w hT s hs => cread_any w hT s (by omega)
  pack := fun w hT A n c L hI hl => cpack_any w hT A n c L hI hl
  unpack := fun w hT s hs _ => cunpack_any w hT s hs
  last := fun w A n c L hI hn hL => clastE_any w A n c L hI hn hL
  check := fun w p hp => ccheck_any w p (by omega)
  cmp := fun w a b ha hb => ccmp_any w a b (by omega) (by omega)
end Go.Proofs.YtdjmfkodjjjhfaaGreatDoor
