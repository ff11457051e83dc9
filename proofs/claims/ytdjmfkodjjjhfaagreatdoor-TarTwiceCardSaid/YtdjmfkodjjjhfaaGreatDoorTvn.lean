/- Tar's code: passed, ends; plain: Unpack's rounds. Conditions: texts of at most 1000000 bytes. -/
import Derived.Test.YtdjmfkodjjjhfaaGreatDoorTvk
import Derived.Test.YtdjmfkodjjjhfaaGreatDoorTrh
import Derived.Test.YtdjmfkodjjjhfaaGreatDoorFwh
import Derived.RangeFuncNested
import Derived.RangeFuncBound
import Derived.RangeFuncCalls
import Derived.RangeFuncLeaves
import Derived.RangeFuncKeeps
import Derived.RangeFuncBox
import Derived.Shelf.Abstract
import Derived.Shelf.RegionOpen
import Derived.WalkKit
import Derived.OwnWalkIn
import Derived.TacticsInMore
import Derived.LoopNIn
import Derived.LoopIn
import Derived.WalkMore
import Derived.Sort.CutIn
namespace Go.Proofs.YtdjmfkodjjjhfaaGreatDoor
open Go.RowKit

/-- How many bytes are passed over. -/
def passA (s : List UInt8) : Nat :=
  if hdE s = false ∧ ((hdP s).kind = 53 ∨ (hdP s).kind = 103) ∧ ¬ (s.drop 512).length < upTo (hdP s).size.toNat then s.length - ((s.drop 512).drop (upTo (hdP s).size.toNat)).length else 0
theorem suf_drop {a s : List UInt8} (h : a <:+ s) : s.drop (s.length - a.length) = a := by
  obtain ⟨b, rfl⟩ := h
  rw [List.length_append, show b.length + a.length - a.length = b.length by omega, List.drop_left]
theorem ends_full {s : List UInt8} (h : zeroA (s.take 512) = true) : 512 ≤ s.length := by
  unfold zeroA at h
  rw [Bool.and_eq_true, decide_eq_true_eq, List.length_take] at h
  omega
theorem step_end {s : List UInt8} (f : Nat) (h : zeroA (s.take 512) = true) : unpackT (f + 1) s = some [] := by
  have := ends_full h
  rw [unpackT, if_neg (by omega), if_pos h]
set_option maxRecDepth 100000 in
theorem step_pass {s : List UInt8} (f : Nat) (h : zeroA (s.take 512) = false) (hp : 0 < passA s) : unpackT (f + 1) s = unpackT f (s.drop (passA s)) ∧ 512 ≤ passA s ∧ passA s ≤ s.length := by
  unfold passA at hp ⊢
  split at hp
  · next hc =>
    obtain ⟨h1, h2, h3⟩ := hc
    have h512 := hdE_len h1
    have hl : ((s.drop 512).drop (upTo (hdP s).size.toNat)).length + 512 ≤ s.length := by rw [List.length_drop, List.length_drop]; omega
    rw [if_pos ⟨h1, h2, h3⟩]
    refine ⟨?_, by omega, by omega⟩
    rw [unpackT, if_neg (by omega), if_neg (by rw [h]; decide), headT_is, h1, if_neg Bool.false_ne_true]
    dsimp only
    rw [if_pos h2, behind_is _ h512, if_neg h3]
    dsimp only
    rw [List.drop_drop, List.length_drop]
    congr 1
    rw [List.length_drop] at h3
    congr 1
    omega
  · omega
set_option maxRecDepth 100000 in
theorem step_none {s : List UInt8} (f : Nat) (h : zeroA (s.take 512) = false) (hp : passA s = 0) (hr : readT s = none) : unpackT (f + 1) s = none := by
  rw [unpackT]
  by_cases hl : s.length < 512
  · rw [if_pos hl]
  · rw [if_neg hl, if_neg (by rw [h]; decide), headT_is]
    cases e : hdE s with
    | true => rw [if_pos rfl]
    | false =>
      rw [if_neg Bool.false_ne_true]
      dsimp only
      by_cases hk : (hdP s).kind = 53 ∨ (hdP s).kind = 103
      · rw [if_pos hk, behind_is _ (hdE_len e)]
        by_cases hs : (s.drop 512).length < upTo (hdP s).size.toNat
        · rw [if_pos hs]
        · exfalso
          unfold passA at hp
          rw [if_pos ⟨e, hk, hs⟩, List.length_drop, List.length_drop] at hp
          have := hdE_len e
          omega
      · rw [if_neg hk, hr]
set_option maxRecDepth 100000 in
theorem step_file {s p d more : List UInt8} (f : Nat) (h : zeroA (s.take 512) = false) (_ : passA s = 0) (hr : readT s = some (p, d, more)) : unpackT (f + 1) s = (unpackT f more).map fun l => (p, d) :: l := by
  have hh := (readT_some hr).1
  obtain ⟨_, ⟨g, hg⟩⟩ := readT_some hr
  rw [unpackT, if_neg (by omega), if_neg (by rw [h]; decide), hg]
  rw [headT_is] at hg
  cases e : hdE s with
  | true => rw [e, if_pos rfl] at hg; cases hg
  | false =>
    rw [e, if_neg Bool.false_ne_true] at hg
    obtain rfl := Option.some.inj hg
    dsimp only
    have hk : ¬ ((hdP s).kind = 53 ∨ (hdP s).kind = 103) := fun hk => by
      have h120 : (hdP s).kind ≠ 120 := by omega
      have h2 := read_plain h120
      rw [hr] at h2
      unfold finS at h2
      rw [if_pos (.inr (.inl (by omega)))] at h2
      cases h2
    rw [if_neg hk, hr]

set_option maxHeartbeats 1600000 in
set_option maxRecDepth 100000 in
theorem cends_any (w : World) (s : ByteArray) (hs : s.size ≤ 140737488355328) : Calls Tryz.prog 78 #[.string s] w fun e w' => e = .returned (.bool (zeroA (s.data.toList.take 512))) ∧ Below w.heap.size w w' := by
  obtain ⟨F, hF⟩ : ∃ F, F = s.extract 0 (min 512 (s.size : Int)).toNat := ⟨_, rfl⟩
  have hFl : F.data.toList = s.data.toList.take 512 := by
    rw [hF, fext_list, List.drop_zero]
    have : s.data.toList.length = s.size := rfl
    rcases Nat.lt_or_ge s.size 512 with q | q
    · rw [List.take_of_length_le (by omega), List.take_of_length_le (by omega)]
    · rw [show (min 512 (s.size : Int)).toNat = 512 by omega]
  have CZ := Lib.hid fun wx : World => czero_any wx F
  rw [hFl] at CZ
  generalize zeroA (s.data.toList.take 512) = b at *
  have z1 : (0 : Int) ≤ min 512 (s.size : Int) := by omega
  have z2 : min 512 (s.size : Int) ≤ (s.size : Int) := by omega
  have HF := Lib.hid hF.symm
  clear hF hFl
  go_enter Tryz.func78, Tryz.ntmps78
  go_wp2_with fail
  rw [HF.out]
  refine (CZ.out _).mono ?_
  rintro e w2 ⟨rfl, hb2⟩
  have HB := Lib.hid hb2
  clear hb2
  go_wp2_with fail
  go_ret
  exact ⟨rfl, HB.out⟩

set_option maxHeartbeats 3200000 in
set_option maxRecDepth 100000 in
theorem cpassed_any (w : World) (s : ByteArray) (hs : s.size ≤ 1000000) : Calls Tryz.prog 77 #[.string s] w fun e w' => e = .returned (.int .i64 (passA s.data.toList : Nat)) ∧ Below w.heap.size w w' := by
  have HP : Hid (∀ (k : Nat) (w' : World), passA s.data.toList = k → Below w.heap.size w w' → (fun e w' => e = Ending.returned (.int .i64 (passA s.data.toList : Nat)) ∧ Below w.heap.size w w') (.returned (.int .i64 k)) w') := Lib.hid fun k w' h hb => ⟨by rw [h], hb⟩
  generalize (fun e w' => e = Ending.returned (.int .i64 (passA s.data.toList : Nat)) ∧ Below w.heap.size w w') = PO at *
  have hll : s.data.toList.length = s.size := rfl
  have hr1 : Rd (w.alloc (.cells #[.string s, .bool false] 61)) w.heap.size s false := blk_new w _ _
  have HB1 := Lib.hid (show Below w.heap.size w (w.alloc (.cells #[.string s, .bool false] 61)) from (Below.refl _ _).alloc (Nat.le_refl _) _)
  have HH := Lib.hid (cheader_any _ w.heap.size s.data.toList false (by rw [strF_self]; exact hr1) (by omega))
  rw [Bool.false_or] at HH
  have HX := Lib.hid (hdP_facts s.data.toList)
  have HPA : Hid (passA s.data.toList = if hdE s.data.toList = false ∧ ((hdP s.data.toList).kind = 53 ∨ (hdP s.data.toList).kind = 103) ∧ ¬ (s.data.toList.drop 512).length < upTo (hdP s.data.toList).size.toNat then s.data.toList.length - ((s.data.toList.drop 512).drop (upTo (hdP s.data.toList).size.toNat)).length else 0) := Lib.hid rfl
  have HLL := Lib.hid hll
  obtain ⟨X, hX⟩ : ∃ X, X = hdP s.data.toList := ⟨_, rfl⟩
  obtain ⟨b1, hb1⟩ : ∃ b, b = hdE s.data.toList := ⟨_, rfl⟩
  rw [← hX, ← hb1] at HH HPA
  rw [← hX] at HX
  have hv : headV X = .agg #[.string X.path, .int .i64 X.size, .int .u8 X.kind, .int .i64 X.mode, .int .i64 X.time, .string X.link, .string X.user, .string X.group, .int .i64 X.uid, .int .i64 X.gid] := rfl
  rw [hv] at HH
  clear hX hb1 hv hr1 hll
  go_enter Tryz.func77, Tryz.ntmps77
  go_upto_region 2 with fail
  generalize w.alloc (.cells #[.string s, .bool false] 61) = w1 at *
  go_wp2_with fail
  refine HH.out.mono ?_
  rintro e w2 ⟨rfl, hr2, hs2⟩
  have hb2 := HB1.out.trans hs2.below
  have hr3 := rd_past hr2 (.cells #[.string X.path, .int .i64 X.size, .int .u8 X.kind, .int .i64 X.mode, .int .i64 X.time, .string X.link, .string X.user, .string X.group, .int .i64 X.uid, .int .i64 X.gid] 65)
  have HK3 := Lib.hid (blk_new w2 65 #[.string X.path, .int .i64 X.size, .int .u8 X.kind, .int .i64 X.mode, .int .i64 X.time, .string X.link, .string X.user, .string X.group, .int .i64 X.uid, .int .i64 X.gid])
  have HB3 := Lib.hid (hb2.alloc hb2.size (.cells #[.string X.path, .int .i64 X.size, .int .u8 X.kind, .int .i64 X.mode, .int .i64 X.time, .string X.link, .string X.user, .string X.group, .int .i64 X.uid, .int .i64 X.gid] 65))
  have HA2 : Hid (w.heap.size < w2.heap.size) := Lib.hid (blk_lt hr2)
  have HR3 := Lib.hid hr3
  clear hr2 hs2 hb2 hr3 HH HB1
  go_upto_region 3 with fail
  generalize w2.alloc (.cells #[.string X.path, .int .i64 X.size, .int .u8 X.kind, .int .i64 X.mode, .int .i64 X.time, .string X.link, .string X.user, .string X.group, .int .i64 X.uid, .int .i64 X.gid] 65) = w3 at *
  generalize w2.heap.size = a2 at *
  obtain ⟨⟨N, hN, hNz⟩, _, _⟩ := HX.out
  have y1 : w3.cell? ⟨a2, 1, none⟩ = some (.int .i64 N) := by rw [← hN]; exact blk_cell HK3.out 1
  have CD := Lib.hid (cdata_all w3 w.heap.size (s.data.toList.drop 512) b1 N HR3.out hNz (by have := HLL.out; rw [List.length_drop]; omega))
  have HNN : Hid (X.size.toNat = N) := Lib.hid (by rw [hN]; rfl)
  clear hN HX
  go_wp2_with fail
  refine CD.out.mono ?_
  rintro e w4 ⟨T, r2, sh, rfl, hr4, hs4, hTz, hr2z, hsh⟩
  have hk4 := hs4.blk HK3.out (by have := HA2.out; simp; omega) List.not_mem_nil
  have HB4 := Lib.hid (HB3.out.trans hs4.below)
  have HSH := Lib.hid hsh
  have HRZ := Lib.hid hr2z
  have y2 : w4.cell? ⟨a2, 2, none⟩ = some (.int .u8 X.kind) := blk_cell hk4 2
  have q1 := hr4.c1
  have q0 := hr4.c0
  clear hr4 hs4 hk4 hsh hr2z y1 CD HK3 HR3 HB3 hTz
  rw [HNN.out] at HPA
  have HBADF : Hid ((b1 || sh) = true ∨ ¬ (X.kind = 53 ∨ X.kind = 103) → PO (.returned (.int .i64 0)) w4) := Lib.hid fun h => HP.out 0 w4 (by
    rw [HPA.out, if_neg]
    rintro ⟨h1, h2, h3⟩
    rcases h with h | h
    · have h4 := HSH.out
      rw [if_neg h3] at h4
      rw [h1, h4.1] at h
      cases h
    · exact h h2) HB4.out
  obtain ⟨bb, hbb⟩ : ∃ x, x = (b1 || sh) := ⟨_, rfl⟩
  rw [← hbb] at HBADF q1
  have HBB := Lib.hid hbb
  clear hbb
  have HGOODF : Hid (bb = false → (X.kind = 53 ∨ X.kind = 103) → ∃ K : Nat, (s.size : Int) - ((strF r2).size : Int) = (K : Int) ∧ PO (.returned (.int .i64 K)) w4) := Lib.hid fun h hk => by
    have hb0 : b1 = false ∧ sh = false := by
      have := HBB.out
      rw [h] at this
      cases b1 <;> cases sh <;> first | exact ⟨rfl, rfl⟩ | exact absurd this (by decide)
    have h4 := HSH.out
    rw [hb0.2] at h4
    have hel : ¬ (s.data.toList.drop 512).length < upTo N := fun el => by
      rw [if_pos el] at h4
      cases h4
    rw [if_neg hel] at h4
    have h5 : (strF r2).size = r2.length := rfl
    have h6 := HRZ.out
    rw [List.length_drop] at h6
    have h7 := HLL.out
    exact ⟨s.data.toList.length - r2.length, by omega, HP.out _ w4 (by rw [HPA.out, if_pos ⟨hb0.1, hk, hel⟩, ← h4.2.2]) HB4.out⟩
  have hrz2 : (strF r2).size ≤ 1000000 := by
    have h3 : (strF r2).size = r2.length := rfl
    have h4 := HLL.out
    have h5 := HRZ.out
    rw [List.length_drop] at h5
    omega
  cases bb
  · by_cases e1 : X.kind = 53
    · have d1 : ((X.kind : Int) != 53) = false := by rw [e1]; rfl
      obtain ⟨K, hK, hG⟩ := HGOODF.out rfl (.inl e1)
      have HG := Lib.hid hG
      generalize strF r2 = R2 at *
      clear e1 hG HBADF HBB HGOODF HSH HRZ
      go_wp2_with fail
      exact HG.out
    · have d1 : ((X.kind : Int) != 53) = true := bne_iff_ne.2 (by omega)
      by_cases e2 : X.kind = 103
      · have d2 : ((X.kind : Int) != 103) = false := by rw [e2]; rfl
        obtain ⟨K, hK, hG⟩ := HGOODF.out rfl (.inr e2)
        have HG := Lib.hid hG
        generalize strF r2 = R2 at *
        clear e1 e2 hG HBADF HBB HGOODF HSH HRZ
        go_wp2_with fail
        exact HG.out
      · have d2 : ((X.kind : Int) != 103) = true := bne_iff_ne.2 (by omega)
        have HG := Lib.hid (HBADF.out (.inr (by omega)))
        clear e1 e2 HBADF HBB HGOODF HSH HRZ
        go_wp2_with fail
        exact HG.out
  · have HG := Lib.hid (HBADF.out (.inl rfl))
    clear HBADF HBB HGOODF HSH HRZ
    go_wp2_with fail
    exact HG.out
end Go.Proofs.YtdjmfkodjjjhfaaGreatDoor
/- Tar's files: the iterator's contract. Conditions: the tables are there; texts of at most 1000000 bytes. -/
namespace Go.Proofs.YtdjmfkodjjjhfaaGreatDoor
open Go.RowKit
attribute [local go_sem] Oper.semAt_some

/-- A file that is handed on, and its error. -/
abbrev FileE := PairB × Nat
def encI (x : FileE) : Array Value := #[.agg #[.string x.1.1, .string x.1.2], .int .i64 x.2]
def okI (L : List PairB) : List FileE := L.map fun p => (p, 0)
/-- All files have come, or an error behind them. -/
def AllF (s : List UInt8) (xs : List FileE) : Prop := (∃ L, xs = okI L ∧ unpackT (s.length + 1) s = some (L.map toL)) ∨ ∃ L x, xs = okI L ++ [x] ∧ x.2 = 180 ∧ unpackT (s.length + 1) s = none
def PartF (s : List UInt8) (xs : List FileE) : Prop := ∃ L x, xs = okI L ++ [x] ∧ (x.2 = 0 ∨ x.2 = 180 ∧ unpackT (s.length + 1) s = none)

set_option maxRecDepth 100000 in
theorem cfiles (w : World) (s : ByteArray) :
    Calls Tryz.prog 44 #[.string s] w fun e w' => e = .returned (.func (.func 76) #[] #[.pointer (some ⟨w.heap.size, 0, none⟩)]) ∧ w' = w.alloc (.cells #[.string s] 9) := by
  go_enter Tryz.func44, Tryz.ntmps44
  go_wp2_with fail
  go_ret
  exact ⟨rfl, rfl⟩
theorem grown_low {w w' : World} (hb : Below w.heap.size w w') : w.grownBy w' none := ⟨hb.os, hb.tape, hb.output, hb.size, fun j hj _ => hb.block j hj⟩
set_option maxRecDepth 100000 in
theorem read_cases (s : List UInt8) (p d : List UInt8) (n k : Nat) (h : readA s = ((p, d), n, k)) : (readT s = none ∧ k = 180) ∨ ∃ more, readT s = some (p, d, more) ∧ n = s.length - more.length ∧ k = 0 ∧ n ≤ s.length ∧ 512 ≤ n ∧ more = s.drop n := by
  unfold readA at h
  cases hr : readT s with
  | none =>
    rw [hr] at h
    exact .inl ⟨rfl, (congrArg (fun x => x.2.2) h).symm⟩
  | some x =>
    obtain ⟨p', d', more⟩ := x
    rw [hr] at h
    dsimp only at h
    have h1 : p' = p := congrArg (fun x => x.1.1) h
    have h2 : d' = d := congrArg (fun x => x.1.2) h
    have h3 : s.length - more.length = n := congrArg (fun x => x.2.1) h
    have h4 : 0 = k := congrArg (fun x => x.2.2) h
    have h5 := (readT_some hr).1
    subst h1 h2
    exact .inr ⟨more, rfl, h3.symm, h4.symm, by omega, by omega, by rw [← h3, suf_drop (readT_suf hr)]⟩

set_option maxHeartbeats 6400000 in
set_option maxRecDepth 100000 in
theorem cfiles_walk (n₀ : Nat) (w0 : World) (hT : Tabs w0) (hn₀ : n₀ = w0.heap.size) (n : Nat) (hn : 1 ≤ n) (l b : Nat) (s : ByteArray) (hs : s.size ≤ 1000000) (J Jx : List FileE → World → Prop) (W : World) (hW : Below n₀ w0 W)
    (hJ : AbidesFrom W.heap.size J)
    (hY : ∀ pre x W1, J pre W1 → pre.length < s.size + 1 → YieldAt Fence.wide (n - 1) Tryz.prog l (encI x) W1 fun e W' =>
      (e = .returned (.bool true) ∧ J (pre ++ [x]) W' ∧ Below n₀ W1 W') ∨ (e = .returned (.bool false) ∧ Jx (pre ++ [x]) W'))
    (hb1 : W.heap[b]? = some (.cells #[.string s] 9 (0, 0))) (h0 : J [] W) :
    CallsIn Fence.wide n Tryz.prog 76 #[.func (.yield l) #[] #[], .pointer (some ⟨b, 0, none⟩)] W fun e W' => (∃ v, e = .returned v) ∧ ((∃ xs, AllF s.data.toList xs ∧ J xs W') ∨ (∃ pre, PartF s.data.toList pre ∧ Jx pre W')) := by
  have hll : s.data.toList.length = s.size := rfl
  have HTB : Hid (∀ wx : World, Below n₀ w0 wx → Tabs wx) := Lib.hid fun wx hb => hT.below (hn₀ ▸ hb)
  have HPS := Lib.hid fun (wx : World) (r : ByteArray) (hr : r.size ≤ 1000000) => callsIn_wide (n := n - 1).2 (cpassed_any wx r hr)
  have HEN := Lib.hid fun (wx : World) (r : ByteArray) (hr : r.size ≤ 1000000) => callsIn_wide (n := n - 1).2 (cends_any wx r (by omega))
  have HRE := Lib.hid fun (wx : World) (ht : Tabs wx) (r : ByteArray) (hr : r.size ≤ 1000000) => callsIn_wide (n := n - 1).2 (cread_any wx ht r hr)
  have c1 : W.cell? ⟨b, 0, none⟩ = some (.string s) := Boxed.cell (t := 9) hb1
  have hF1 : Fence.wide.fn 77 := trivial
  have hF2 : Fence.wide.fn 78 := trivial
  have hF3 : Fence.wide.fn 14 := trivial
  have HJ := Lib.hid hJ
  have HY := Lib.hid hY
  have HW := Lib.hid hW
  clear hJ hY hW hT
  refine callsIn_of_wp Tryz.func76 rfl trivial ?_ rfl
  simp only [Tryz.ntmps76, List.size_toArray, List.length_cons, List.length_nil, Nat.reduceAdd, Nat.reduceSub, Array.replicate_succ, Array.replicate_zero, List.push_toArray, List.append_toArray, List.nil_append, List.cons_append]
  refine wpIn_wide.2 ?_
  apply wp_scope_straight
  refine (wpIn_wide (n := n)).1 ?_
  gi_wp2_with fail
  apply wpIn_label
  gi_wp2_with fail
  gi_loopw [3] (fun sr wr => ∃ (L : List PairB) (r : ByteArray) (f : Nat), sr = .string r ∧ r.size ≤ 1000000 ∧ Hid (r.size < f + 1 ∧ L.length + r.size ≤ s.size ∧ unpackT (s.data.toList.length + 1) s.data.toList = (unpackT (f + 1) r.data.toList).map fun l => L.map toL ++ l) ∧
    Below n₀ w0 wr ∧ J (okI L) wr) (fun sr _ => match sr with | .string r => r.size | _ => 0)
  case atStart => exact ⟨[], s, s.size, rfl, hs, Lib.hid ⟨Nat.lt_succ_self _, by simp, by rw [hll]; cases unpackT (s.size + 1) s.data.toList <;> simp⟩, HW.out, h0⟩
  case round =>
    obtain ⟨L, r, f, rfl, hr, hinv, hlow, hJr⟩ := hrel
    have hrl : r.data.toList.length = r.size := rfl
    have HFX := Lib.hid (HPS.out wr r hr)
    have HINV := Lib.hid hinv.out
    have HLOW := Lib.hid hlow
    have HJR := Lib.hid hJr
    have HRL := Lib.hid hrl
    obtain ⟨q, hq⟩ : ∃ q, q = passA r.data.toList := ⟨_, rfl⟩
    rw [← hq] at HFX
    have HQ := Lib.hid hq
    clear hinv hlow hJr hq hrl
    gi_wp2_with fail
    refine HFX.out.mono ?_
    rintro e w1 ⟨rfl, hb1'⟩
    have HL1 := Lib.hid (HLOW.out.trans (hb1'.mono (by have := HLOW.out.size; omega)))
    have HJ1 := Lib.hid (HJ.out _ wr w1 none HJR.out (grown_low hb1') (fun r e => by cases e))
    have HE1 := Lib.hid (HEN.out w1 r hr)
    obtain ⟨z, hz⟩ : ∃ z, z = zeroA (r.data.toList.take 512) := ⟨_, rfl⟩
    rw [← hz] at HE1
    have HZ := Lib.hid hz
    clear hb1' HJR HLOW HFX hz
    gi_wp2_with fail
    refine HE1.out.mono ?_
    rintro e w2 ⟨rfl, hb2⟩
    have HL2 := Lib.hid (HL1.out.trans (hb2.mono (by have := HL1.out.size; omega)))
    have HJ2 := Lib.hid (HJ.out _ w1 w2 none HJ1.out (grown_low hb2) (fun r e => by cases e))
    clear hb2 HJ1 HL1 HE1
    cases z
    · by_cases eq : 0 < q
      · have d0 : decide ((0 : Int) < (q : Int)) = true := decide_eq_true (by omega)
        obtain ⟨h1, h2, h3⟩ := step_pass f HZ.out.symm (by rw [← HQ.out]; exact eq)
        rw [← HQ.out] at h1 h2 h3
        have h4 := HRL.out
        have hq1 : (q : Int) ≤ (r.size : Int) := by omega
        have hq0 : (0 : Int) ≤ (q : Int) := by omega
        obtain ⟨R2, hR2⟩ : ∃ x, x = r.extract q r.size := ⟨_, rfl⟩
        have hR2l : R2.data.toList = r.data.toList.drop q := by
          rw [hR2, fext_list, List.take_of_length_le (show r.data.toList.length ≤ r.size from Nat.le_refl _)]
        have hR2z : R2.size + q = r.size := by rw [hR2, ByteArray.size_extract]; omega
        obtain ⟨i1, i2, i3⟩ := HINV.out
        obtain ⟨f, rfl⟩ : ∃ f', f = f' + 1 := ⟨f - 1, by omega⟩
        have HREL := Lib.hid (show R2.size < f + 1 ∧ L.length + R2.size ≤ s.size ∧ unpackT (s.data.toList.length + 1) s.data.toList = (unpackT (f + 1) R2.data.toList).map fun l => L.map toL ++ l from ⟨by omega, by omega, by rw [i3, h1, hR2l]⟩)
        have HR2 := Lib.hid hR2.symm
        have HR2z : Hid (R2.size ≤ 1000000 ∧ R2.size < r.size) := Lib.hid ⟨by omega, by omega⟩
        clear h1 h2 h3 h4 hR2 hR2l hR2z i1 i2 i3
        gi_wp2_with fail
        rw [HR2.out]
        go_roundw
        case rel => exact ⟨L, R2, f, rfl, HR2z.out.1, HREL, HL2.out, HJ2.out⟩
        case measure => exact HR2z.out.2
      · have hq0 : q = 0 := by omega
        have d0 : decide ((0 : Int) < (q : Int)) = false := decide_eq_false (by omega)
        have HR := Lib.hid (HRE.out w2 (HTB.out _ HL2.out) r hr)
        obtain ⟨ra, hra⟩ : ∃ x, x = readA r.data.toList := ⟨_, rfl⟩
        obtain ⟨⟨p, d⟩, n2, k⟩ := ra
        rw [← hra] at HR
        dsimp only at HR
        have hcs := read_cases _ p d n2 k hra.symm
        obtain ⟨P, hP⟩ : ∃ x, x = strF p := ⟨_, rfl⟩
        obtain ⟨D, hD⟩ : ∃ x, x = strF d := ⟨_, rfl⟩
        rw [← hP, ← hD] at HR
        have HPD : Hid (toL (P, D) = (p, d)) := Lib.hid (by rw [hP, hD]; rfl)
        have HCS := Lib.hid hcs
        have hq0' : passA r.data.toList = 0 := by rw [← HQ.out]; exact hq0
        have HQ0 := Lib.hid hq0'
        clear hra hcs hP hD hq0 hq0'
        gi_wp2_with fail
        refine HR.out.mono ?_
        rintro e w3 ⟨rfl, hb3⟩
        have hb4 : Below w2.heap.size w2 (w3.alloc (.cells #[.string P, .string D] 23)) := hb3.alloc hb3.size _
        have HK4 := Lib.hid (blk_new w3 23 #[.string P, .string D])
        have HL4 := Lib.hid (HL2.out.trans (hb4.mono (by have := HL2.out.size; omega)))
        have HJ4 := Lib.hid (HJ.out _ w2 _ none HJ2.out (grown_low hb4) (fun r e => by cases e))
        clear hb3 hb4 HJ2 HL2 HR
        gi_upto_region 6 with fail
        generalize w3.alloc (.cells #[.string P, .string D] 23) = w4 at *
        generalize w3.heap.size = a4 at *
        have y0 : w4.cell? ⟨a4, 0, none⟩ = some (.string P) := blk_cell HK4.out 0
        have y1 : w4.cell? ⟨a4, 1, none⟩ = some (.string D) := blk_cell HK4.out 1
        obtain ⟨fn, tmps, assign, body, hy0, hR⟩ := HY.out (okI L) ((P, D), k) w4 HJ4.out (by rw [okI, List.length_map]; have := HINV.out.2.1; omega)
        have hy : (Instr.yield l #[.agg #[.string P, .string D], .int .i64 k]).run Tryz.prog w4 = .ok (.round l fn tmps assign body) w4 := hy0
        have HR := Lib.hid hR
        clear hy0 hR
        gi_wp2_with fail
        have HBADF : Hid (k ≠ 0 → k = 180 ∧ unpackT (s.data.toList.length + 1) s.data.toList = none) := Lib.hid fun hk => by
          rcases HCS.out with ⟨h1, h2⟩ | ⟨more, h1, h2, h3, _⟩
          · exact ⟨h2, by rw [HINV.out.2.2, step_none f HZ.out.symm HQ0.out h1]; rfl⟩
          · exact absurd h3 hk
        refine HR.out.mono ?_
        rintro e W3 (⟨rfl, hJ3, hk3⟩ | ⟨rfl, hJx3⟩)
        · by_cases ek : k = 0
          · have dk : ((k : Int) != 0) = false := by rw [ek]; rfl
            have hg : ∃ more, readT r.data.toList = some (p, d, more) ∧ n2 ≤ r.data.toList.length ∧ 512 ≤ n2 ∧ more = r.data.toList.drop n2 := by
              rcases HCS.out with ⟨h1, h2⟩ | ⟨more, h1, h2, h3, h4, h5, h6⟩
              · omega
              · exact ⟨more, h1, h4, h5, h6⟩
            obtain ⟨more, h1, h2, h3, h4⟩ := hg
            have h5 := step_file f HZ.out.symm HQ0.out h1
            have h6 := HRL.out
            have hq1 : (n2 : Int) ≤ (r.size : Int) := by omega
            have hq0 : (0 : Int) ≤ (n2 : Int) := by omega
            obtain ⟨R2, hR2⟩ : ∃ x, x = r.extract n2 r.size := ⟨_, rfl⟩
            have hR2l : R2.data.toList = more := by
              rw [hR2, fext_list, List.take_of_length_le (show r.data.toList.length ≤ r.size from Nat.le_refl _), h4]
            have hR2z : R2.size + n2 = r.size := by rw [hR2, ByteArray.size_extract]; omega
            obtain ⟨i1, i2, i3⟩ := HINV.out
            obtain ⟨f, rfl⟩ : ∃ f', f = f' + 1 := ⟨f - 1, by omega⟩
            have HREL := Lib.hid (show R2.size < f + 1 ∧ (L ++ [(P, D)]).length + R2.size ≤ s.size ∧ unpackT (s.data.toList.length + 1) s.data.toList = (unpackT (f + 1) R2.data.toList).map fun l => (L ++ [(P, D)]).map toL ++ l from ⟨by omega, by rw [List.length_append, List.length_singleton]; omega, by
              rw [i3, h5, hR2l, List.map_append, List.map_singleton, HPD.out]
              cases unpackT (f + 1) more <;> simp⟩)
            have HR2 := Lib.hid hR2.symm
            have HR2z : Hid (R2.size ≤ 1000000 ∧ R2.size < r.size) := Lib.hid ⟨by omega, by omega⟩
            have HJ3 := Lib.hid (show J (okI (L ++ [(P, D)])) W3 from by
              rw [ek] at hJ3
              rw [okI, List.map_append, List.map_singleton]
              exact hJ3)
            have HL3 := Lib.hid (HL4.out.trans hk3)
            clear h1 h2 h3 h4 h5 h6 hR2 hR2l hR2z i1 i2 i3 hJ3 hk3 ek HCS y0 y1
            gi_wp2_with fail
            rw [HR2.out]
            go_roundw
            case rel => exact ⟨L ++ [(P, D)], R2, f, rfl, HR2z.out.1, HREL, HL3.out, HJ3.out⟩
            case measure => exact HR2z.out.2
          · have dk : ((k : Int) != 0) = true := bne_iff_ne.2 (by omega)
            have HF := Lib.hid (HBADF.out ek)
            clear hk3 HCS y0 y1
            gi_wp2_with fail
            first | rw [Exit.noGoto_ret] | skip
            refine bodyPost_ret (results_none rfl _ _ _) rfl ?_
            exact ⟨⟨_, rfl⟩, .inl ⟨_, .inr ⟨L, _, rfl, HF.out.1, HF.out.2⟩, hJ3⟩⟩
        · have HF : Hid (k = 0 ∨ k = 180 ∧ unpackT (s.data.toList.length + 1) s.data.toList = none) := Lib.hid (by
            by_cases ek : k = 0
            · exact .inl ek
            · exact .inr (HBADF.out ek))
          clear HCS y0 y1
          gi_wp2_with fail
          first | rw [Exit.noGoto_ret] | skip
          refine bodyPost_ret (results_none rfl _ _ _) rfl ?_
          exact ⟨⟨_, rfl⟩, .inr ⟨_, ⟨L, _, rfl, HF.out⟩, hJx3⟩⟩
    · have HEND := Lib.hid (show AllF s.data.toList (okI L) from .inl ⟨L, rfl, by rw [HINV.out.2.2, step_end f HZ.out.symm]; simp⟩)
      gi_wp2_with fail
      first | rw [Exit.noGoto_normal] | skip
      first | go_end0 | skip
      exact ⟨⟨_, rfl⟩, .inl ⟨_, HEND.out, HJ2.out⟩⟩
end Go.Proofs.YtdjmfkodjjjhfaaGreatDoor
/- Tar's code: a variable's box that collects files; Unpack. Conditions: the tables are there; texts of at most 2^47 bytes. -/
namespace Go.Proofs.YtdjmfkodjjjhfaaGreatDoor
open Go.RowKit
attribute [local go_sem] Oper.semAt_some

/-- The box B holds the files L, in a row of the call's own. -/
structure EntI (n₀ B : Nat) (w0 : World) (L : List PairB) (W : World) : Prop where
  ex : ∃ v, Boxed W B 36 v ∧ W.ownsRow n₀ 23 2 v L.length (cellsB L)
  low : Below n₀ w0 W
set_option maxRecDepth 100000 in
theorem EntI.grown {n₀ B C : Nat} {w0 W W' : World} {L : List PairB} (h : EntI n₀ B w0 L W) {row : Option Nat} (hn : n₀ ≤ w0.heap.size) (hC : n₀ ≤ C) (hg : W.grownBy W' row) (hr : ∀ r, row = some r → C ≤ r ∧ ∃ o : Obj, W.heap[r]? = some o ∧ o.isCells = false) : EntI n₀ B w0 L W' := by
  obtain ⟨⟨v, hv, ho⟩, h3⟩ := h
  refine ⟨⟨v, hv.kept hg fun e => ?_, ho.kept hg ?_⟩, h3.grown hg (Nat.le_trans hn h3.size) fun k e => Nat.le_trans hC (hr k e).1⟩
  · obtain ⟨_, o, ho', hc⟩ := hr B e.symm
    rw [show W.heap[B]? = _ from hv] at ho'
    cases ho'
    cases hc
  · rcases ho.2 with ⟨rfl, _⟩ | ⟨g, cap, cur, rfl, _, hgb, _⟩
    · exact .inl rfl
    · refine .inr fun e' => ?_
      obtain ⟨_, o, ho', hc⟩ := hr g (by simpa [Value.ownBlock] using e'.symm)
      rw [hgb] at ho'
      cases ho'
      cases hc
theorem EntI.own {n₀ B C : Nat} {w0 : World} (hn : n₀ ≤ w0.heap.size) (hC : n₀ ≤ C) : OwnFrom C (fun (L : List PairB) W => EntI n₀ B w0 L W) := fun _ _ _ _ h hg hr => h.grown hn hC hg hr
theorem EntI.alloc {n₀ B : Nat} {w0 W : World} {L : List PairB} (h : EntI n₀ B w0 L W) (hn : n₀ ≤ w0.heap.size) (o : Obj) : EntI n₀ B w0 L (W.alloc o) := h.grown hn (Nat.le_refl _) (World.grownBy_alloc W o none) (fun r e => by cases e)
set_option maxRecDepth 100000 in
/-- A file more: what the walk owes at the append and the store behind it. -/
theorem EntI.more {n₀ B : Nat} {w0 W : World} {L : List PairB} (h : EntI n₀ B w0 L W) (hn : n₀ ≤ w0.heap.size) (hB : n₀ ≤ B) (K V : ByteArray) (hl : L.length ≤ 900000) :
    ∃ A n c g2 n2 c2 W4, Boxed W B 36 (.slice A n c) ∧ (Builtin.append_ #[36, 36] 36 #[.slice A n c, .slice (some ⟨W.heap.size, 0, none⟩) 1 1]).run Tryz.prog (W.alloc (.cells #[.string K, .string V] 23)) = .ok (.slice (some ⟨g2, 0, none⟩) n2 c2) W4 ∧ Boxed W4 B 36 (.slice A n c) ∧
      EntI n₀ B w0 (L ++ [(K, V)]) (W4.setCell ⟨B, 0, none⟩ (.slice (some ⟨g2, 0, none⟩) n2 c2)) ∧ KeepsOthers W (W4.setCell ⟨B, 0, none⟩ (.slice (some ⟨g2, 0, none⟩) n2 c2)) ∧ Below n₀ W (W4.setCell ⟨B, 0, none⟩ (.slice (some ⟨g2, 0, none⟩) n2 c2)) ∧
      (∀ {k : Nat} {t : TypeId} {u : Value}, t ≠ 23 → k ≠ B → Boxed W k t u → Boxed (W4.setCell ⟨B, 0, none⟩ (.slice (some ⟨g2, 0, none⟩) n2 c2)) k t u) := by
  obtain ⟨⟨v, hv, ho⟩, h3⟩ := h
  have hnW : n₀ ≤ W.heap.size := Nat.le_trans hn h3.size
  have hk := blk_new W 23 #[.string K, .string V]
  have hi : PIn (W.alloc (.cells #[.string K, .string V] 23)) (some ⟨W.heap.size, 0, none⟩) 1 [(K, V)] := ⟨rfl, fun _ => ⟨W.heap.size, 0, rfl, fun i hi => by
    obtain rfl : i = 0 := by omega
    exact ⟨blk_cell hk 0, blk_cell hk 1⟩⟩⟩
  obtain ⟨v', W4, hr, ho4, hg⟩ := append_ents (W.alloc (.cells #[.string K, .string V] 23)) n₀ v L.length (cellsB L) (ho.alloc _) (some ⟨W.heap.size, 0, none⟩) 1 1 [(K, V)] hi (by omega) (by simp; omega)
  rw [← cellsB_append] at ho4
  obtain ⟨A, c, rfl, _, _, _⟩ := own_slice ho
  obtain ⟨g2, c2, rfl⟩ := ownsRow_succ ho4
  obtain ⟨hv1, hv2, hr2, hk2, hb2⟩ := hv.appended (by decide) ho hnW hB ho4 hg
  refine ⟨A, L.length, c, g2, L.length + 1, c2, W4, hv, hr, hv1, ⟨⟨_, hv2, by rw [List.length_append, List.length_singleton]; exact hr2⟩, h3.trans hb2⟩, hk2, hb2, fun {k t u} ht hne hx => ?_⟩
  exact ((hx.alloc (.cells #[.string K, .string V] 23)).kept hg ((hx.alloc (.cells #[.string K, .string V] 23)).not_row ht (ho.alloc _))).other hne _
theorem EntI.pin {n₀ B : Nat} {w0 W : World} {L : List PairB} (h : EntI n₀ B w0 L W) : ∃ A n c, Boxed W B 36 (.slice A n c) ∧ W.ownsRow n₀ 23 2 (.slice A n c) n (cellsB L) ∧ n = L.length ∧ n ≤ maxLen := by
  obtain ⟨⟨v, hv, ho⟩, _⟩ := h
  obtain ⟨A, c, rfl, h1, h2, _⟩ := own_slice ho
  exact ⟨A, _, c, hv, ho, rfl, Nat.le_trans h1 h2⟩
set_option maxRecDepth 100000 in
theorem wpListIn_append_run {F : Fence} {n : Nat} {P : Program} (w : World) {ops : Array Oper} {rest : List Oper} {o : Oper} {a : Act} {Q : Exit → Act → World → Prop}
    (hg : o.guard = none) (s x : Operand) (t u : TypeId) (hop : o.op = .call { callee := .builtin .append, args := #[s, x], argTypes := #[t, u] }) (vs vx : Value) (hs : a.eval s = vs) (hx : a.eval x = vx) (v' : Value) (w' : World)
    (hr : (Builtin.append_ #[t, u] o.type #[vs, vx]).run P w = .ok v' w') (h : wpListIn F n P ops Q rest (a.put o.dst v') w') : wpListIn F n P ops Q (o :: rest) a w := by
  refine wpListIn_plain hg fun K hK => ?_
  unfold Oper.wpIn
  refine ⟨?_, ?_⟩
  · simp [Oper.about, hop, resolve, Target.leads, Sem.run_pure]
  · rw [Oper.semAt_plain F _ _ (by rw [hop]; intro c hc; cases hc)]
    simp [execOp, hop, resolve, invoke, builtin, hs, hx, hr, Result.andThen]
    exact hK _ _ h
theorem blk_keepF {W W' : World} {row : Option Nat} {g C : Nat} {t : TypeId} {cs : Array Value} (h : Blk W g t cs) (hg : W.grownBy W' row) (hr : ∀ r, row = some r → C ≤ r ∧ ∃ o : Obj, W.heap[r]? = some o ∧ o.isCells = false) : Blk W' g t cs :=
  (hg.block g (blk_lt h) fun e => by
    obtain ⟨_, o, ho', hc⟩ := hr g e.symm
    rw [show W.heap[g]? = _ from h] at ho'
    cases ho'
    cases hc).trans h
theorem others_low {w w' : World} (hb : Below w.heap.size w w') : KeepsOthers w w' := KeepsOthers.of_grownBy (grown_low hb) (fun j o e => by cases e)
theorem okI_inj {L M : List PairB} (h : okI L = okI M) : L = M := by
  have h2 := congrArg (List.map Prod.fst) h
  unfold okI at h2
  rw [List.map_map, List.map_map, show (Prod.fst ∘ fun p : PairB => (p, (0 : Nat))) = id from rfl, List.map_id, List.map_id] at h2
  exact h2
set_option maxRecDepth 100000 in
theorem okI_zero {L M : List PairB} {x : FileE} (h : okI L = okI M ++ [x]) : x.2 = 0 := by
  have hx : x ∈ okI L := by rw [h]; simp
  unfold okI at hx
  obtain ⟨p, _, rfl⟩ := List.mem_map.1 hx
  rfl
set_option maxRecDepth 100000 in
theorem ret_unp (wx : World) (B C : Nat) (v u : Value) (hb : Boxed wx B 36 v) (hc : Boxed wx C 25 u) (tmps : Array Value) (h2 : tmps.getD 2 undef = .pointer (some ⟨B, 0, none⟩)) (h3 : tmps.getD 3 undef = .pointer (some ⟨C, 0, none⟩)) :
    (results Tryz.f19 tmps).run Tryz.prog wx = .ok (.tuple #[v, u]) wx := by
  have c0 := hb.cell
  have c1 := hc.cell
  have hr : Tryz.f19.results = #[.cell 2 36, .cell 3 25] := rfl
  rw [Array.getD_eq_getD_getElem?] at h2 h3
  simp only [results, hr]
  simp [Sem.run_bind, Result.andThen, asAddr, loadVar, go_sem, h2, h3, c0, c1]
set_option maxHeartbeats 6400000 in
set_option maxRecDepth 100000 in
theorem cunpack_any (w : World) (hT : Tabs w) (s : ByteArray) (hs : s.size ≤ 140737488355328) : Calls Tryz.prog 19 #[.string s] w (UnpPost w s) := by
  have hll : s.data.toList.length = s.size := rfl
  have hx0 : Boxed ((w.alloc (.cells #[.slice none 0 0] 36)).alloc (.cells #[.int .i64 0] 25)) w.heap.size 36 (.slice none 0 0) := (Boxed.new w _ _).alloc _
  have hx1 : Boxed ((w.alloc (.cells #[.slice none 0 0] 36)).alloc (.cells #[.int .i64 0] 25)) (w.heap.size + 1) 25 (.int .i64 0) := by
    have h := Boxed.new (w.alloc (.cells #[.slice none 0 0] 36)) 25 (.int .i64 0)
    rw [World.size_alloc] at h
    exact h
  have hb1 : Below w.heap.size w ((w.alloc (.cells #[.slice none 0 0] 36)).alloc (.cells #[.int .i64 0] 25)) := ((Below.refl _ _).alloc (Nat.le_refl _) _).alloc (by simp) _
  by_cases hbig : 524288 < s.size
  · have d0 : decide ((524288 : Int) < (s.size : Int)) = true := decide_eq_true (by omega)
    have HP : Hid (∀ w', Below w.heap.size w w' → UnpPost w s (.returned (.tuple #[.slice none 0 0, .int .i64 3])) w') := Lib.hid fun w' hb => ⟨none, 0, 0, [], 3, rfl, by unfold unpackA; rw [if_pos (by rw [hll]; exact hbig)]; rfl, Nat.zero_le _, ⟨rfl, fun h => absurd h (Nat.lt_irrefl 0)⟩, hb⟩
    generalize UnpPost w s = PO at *
    clear hbig hT
    go_enter Tryz.func19, Tryz.ntmps19
    go_upto_region 1 with fail
    generalize hw1 : (w.alloc (.cells #[.slice none 0 0] 36)).alloc (.cells #[.int .i64 0] 25) = w1 at *
    have y0 := hx0.cell
    have y1 := hx1.cell
    have f0 := hx0.frozen
    have f1 := hx1.frozen
    have HX := Lib.hid (And.intro hx0 hx1)
    have HB := Lib.hid hb1
    clear hx0 hx1 hb1 hw1
    go_wp2_with fail
    exact bodyPost_ret (ret_unp _ w.heap.size (w.heap.size + 1) (.slice none 0 0) (.int .i64 3) ((HX.out.1.set _).other (by omega) _) ((HX.out.2.other (by omega) _).set _) _ rfl rfl) rfl (HP.out _ ((HB.out.setCell (p := ⟨w.heap.size, 0, none⟩) (Nat.le_refl _) _).setCell (p := ⟨w.heap.size + 1, 0, none⟩) (Nat.le_succ _) _))
  have d0 : decide ((524288 : Int) < (s.size : Int)) = false := decide_eq_false (by omega)
  have HP : Hid (∀ A n c M k w', unpackA s.data.toList = (M.map toL, k) → n ≤ maxLen → PIn w' A n M → Below w.heap.size w w' → UnpPost w s (.returned (.tuple #[.slice A n c, .int .i64 (k : Nat)])) w') := Lib.hid fun A n c M k w' h1 h2 h3 h4 => ⟨A, n, c, M, k, rfl, h1, h2, h3, h4⟩
  generalize UnpPost w s = PO at *
  have HUA : Hid (unpackA s.data.toList = match unpackT (s.data.toList.length + 1) s.data.toList with | none => ([], 180) | some l => (l, 0)) := Lib.hid (by unfold unpackA; rw [if_neg (by rw [hll]; exact hbig)]; cases unpackT (s.data.toList.length + 1) s.data.toList <;> rfl)
  have HSZ : Hid (s.size ≤ 524288) := Lib.hid (by omega)
  have HT := Lib.hid hT
  clear hbig hT
  refine (callsIn_wide (n := 9)).1 (callsIn_of_wp_marks Tryz.func19 rfl trivial ?_ rfl)
  refine wpIn_wide.2 ?_
  simp only [Tryz.ntmps19, List.size_toArray, List.length_cons, List.length_nil, Nat.reduceAdd, Nat.reduceSub, Array.replicate_succ, Array.replicate_zero, List.push_toArray, List.append_toArray, List.nil_append, List.cons_append]
  go_upto_region 1 with fail
  obtain ⟨w1, hw1⟩ : ∃ x, x = (w.alloc (.cells #[.slice none 0 0] 36)).alloc (.cells #[.int .i64 0] 25) := ⟨_, rfl⟩
  obtain ⟨B, hB⟩ : ∃ x, x = w.heap.size := ⟨_, rfl⟩
  have hs1 : w1.heap.size = B + 2 := by rw [hw1, hB]; simp
  rw [← hw1] at hx0 hx1 hb1 ⊢
  rw [← hB] at hx0 hx1 hb1 ⊢
  have hxl := Boxed.new w1 36 (.slice none 0 0)
  rw [hs1] at hxl
  have hs2 : (w1.alloc (.cells #[.slice none 0 0] 36)).heap.size = B + 2 + 1 := by rw [World.size_alloc, hs1]
  have hI0 : EntI B (B + 2) w [] (w1.alloc (.cells #[.slice none 0 0] 36)) := ⟨⟨_, hxl, World.ownsRow_nil _ _ _ _⟩, hb1.alloc (by omega) _⟩
  have hx0' := hx0.alloc (.cells #[.slice none 0 0] 36)
  have hx1' := hx1.alloc (.cells #[.slice none 0 0] 36)
  have HS1 := Lib.hid hs1
  have HBE := Lib.hid hB
  have HS2 := Lib.hid hs2
  clear hw1 hs1 hB hs2
  go_wp2_with fail
  rw [HS1.out]
  generalize w1.alloc (.cells #[.slice none 0 0] 36) = w2 at *
  clear hx0 hx1 hb1 hxl HS1 w1
  have hs2 := HS2.out
  refine (cfiles w2 s).mono ?_
  rintro e w3 ⟨rfl, hw3⟩
  rw [hs2]
  have hbx : Boxed w3 (B + 2 + 1) 9 (.string s) := by
    rw [hw3, ← hs2]
    exact Boxed.new w2 _ _
  have hI3 : EntI B (B + 2) w [] w3 := by rw [hw3]; exact hI0.alloc (Nat.le_of_eq HBE.out) _
  have hx03 : Boxed w3 B 36 (.slice none 0 0) := by rw [hw3]; exact hx0'.alloc _
  have hx13 : Boxed w3 (B + 1) 25 (.int .i64 0) := by rw [hw3]; exact hx1'.alloc _
  have hs3 : w3.heap.size = B + 2 + 1 + 1 := by rw [hw3, World.size_alloc, hs2]
  clear hw3 hI0 hx0' hx1' hs2 HS2 w2
  have HI3 := Lib.hid (And.intro hI3 (And.intro hx03 hx13))
  have HBX := Lib.hid hbx
  have HS3 := Lib.hid hs3
  clear hI3 hx03 hx13 hbx hs3
  go_wp2_with fail
  refine (wpIn_wide (n := 9)).1 ?_
  refine wpIn_rangeFunc_ownH rfl (by omega) (gf := 76) (lb := #[.pointer (some ⟨B + 2 + 1, 0, none⟩)]) rfl trivial (enters_of Tryz.func76 (by kernel_rfl) rfl)
    (encs := encI) (Kp := Below B) (S := AllF s.data.toList) (Sp := PartF s.data.toList) (N := s.size + 1) (w0 := w3) ?seq (fun h k => h.trans k) (belowK_b (by have := HS3.out; omega)) (Below.refl _ _) (fun _ => rfl)
    (fun pre W => ∃ L, pre = okI L ∧ EntI B (B + 2) w L W ∧ Boxed W B 36 (.slice none 0 0) ∧ Boxed W (B + 1) 25 (.int .i64 0))
    (fun c pre W => c = .ret ∧ ∃ L K V, ∃ k : Nat, pre = okI L ++ [((K, V), k)] ∧ ¬ k = 0 ∧ Below B w W ∧ Boxed W B 36 (.slice none 0 0) ∧ Boxed W (B + 1) 25 (.int .i64 k)) ?own ?ownx ⟨[], rfl, HI3.out⟩
    (fun x a' W => ∃ Bx, B + 2 < Bx ∧ Blk W Bx 23 #[.string x.1.1, .string x.1.2] ∧ a' = { tmps := #[.string s, undef, .pointer (some ⟨B, 0, none⟩), .pointer (some ⟨B + 1, 0, none⟩), .pointer (some ⟨B + 2, 0, none⟩), .pointer (some ⟨Bx, 0, none⟩), .int .i64 x.2, .string s, .int .i64 s.size, .bool false, .string s, .func (.func 76) #[] #[.pointer (some ⟨B + 2 + 1, 0, none⟩)], .agg #[.string x.1.1, .string x.1.2], .int .i64 x.2, undef, undef, undef, undef, undef, undef, undef, undef], defers := [] }) ?ax ?assign ?body ?done ?stop
  case seq =>
    intro l J Jx W hb hJ hJx hY h0
    exact cfiles_walk B w HT.out HBE.out 8 (by omega) l (B + 2 + 1) s (by have := HSZ.out; omega) J Jx W (HI3.out.1.low.trans (hb.mono (by have := HS3.out; omega))) hJ hY ((hb.block _ (by have := HS3.out; omega)).trans HBX.out) h0
  case own =>
    rintro pre W W' row ⟨L, hp, hI, h0, h1⟩ hg hr
    exact ⟨L, hp, hI.grown (Nat.le_of_eq HBE.out) (by have := HS3.out; omega) hg hr, blk_keepF h0 hg hr, blk_keepF h1 hg hr⟩
  case ownx =>
    rintro c pre W W' row ⟨hc, L, K, V, k, hp, hx, hlow, h0, h1⟩ hg hr
    exact ⟨hc, L, K, V, k, hp, hx, hlow.grown hg (by have := blk_lt h0; omega) (fun k e => by have := (hr k e).1; have := HS3.out; omega), blk_keepF h0 hg hr, blk_keepF h1 hg hr⟩
  case ax =>
    rintro x a' u W W' row ⟨Bx, h1, h2, h3⟩ hg hr
    exact ⟨Bx, h1, blk_keepF h2 hg hr, h3⟩
  case assign =>
    rintro l pre x W K ⟨L, hp, hI, h0, h1⟩ hK
    have hlt : B + 2 < W.heap.size := by
      obtain ⟨v, hv, _⟩ := hI.ex
      exact hv.lt
    obtain ⟨⟨K, V⟩, k⟩ := x
    dsimp only [encI]
    gi_wp2
    exact hK _ _ ((KeepsOthers.alloc _ _).from _) ((Below.refl _ W).alloc (by omega) _) ⟨L, hp, hI.alloc (Nat.le_of_eq HBE.out) _, h0.alloc _, h1.alloc _⟩ ⟨W.heap.size, hlt, blk_new W _ _, rfl⟩
  case body =>
    rintro l pre x a' W hl hrec ⟨L, hp, hI, h0, h1⟩ ⟨Bx, hBx, hbx, rfl⟩ hlen
    obtain ⟨⟨K, V⟩, k⟩ := x
    dsimp only at hbx ⊢
    have hLl : pre.length = L.length := by rw [hp, okI, List.length_map]
    by_cases ek : k = 0
    · have dk : ((k : Int) != 0) = false := by rw [ek]; rfl
      obtain ⟨A, n, c, g2, n2, c2, W4, q1, q2, q3, q4, q5, q6, q7⟩ := hI.more (Nat.le_of_eq HBE.out) (by omega) K V (by have := HSZ.out; omega)
      have HF := Lib.hid (show KeepsFrom w3.heap.size W (W4.setCell ⟨B + 2, 0, none⟩ (.slice (some ⟨g2, 0, none⟩) n2 c2)) ∧ Below B W (W4.setCell ⟨B + 2, 0, none⟩ (.slice (some ⟨g2, 0, none⟩) n2 c2)) ∧ ∃ M, pre ++ [((K, V), k)] = okI M ∧ EntI B (B + 2) w M (W4.setCell ⟨B + 2, 0, none⟩ (.slice (some ⟨g2, 0, none⟩) n2 c2)) ∧ Boxed (W4.setCell ⟨B + 2, 0, none⟩ (.slice (some ⟨g2, 0, none⟩) n2 c2)) B 36 (.slice none 0 0) ∧ Boxed (W4.setCell ⟨B + 2, 0, none⟩ (.slice (some ⟨g2, 0, none⟩) n2 c2)) (B + 1) 25 (.int .i64 0) from
        ⟨q5.from _, q6, L ++ [(K, V)], by rw [hp, ek]; unfold okI; rw [List.map_append]; rfl, q4, q7 (by decide) (by omega) h0, q7 (by decide) (by omega) h1⟩)
      have Q2 := Lib.hid q2
      have y1 := q1.cell
      have y3 := q3.cell
      have y4 := q3.frozen
      have x0 : W.cell? ⟨Bx, 0, none⟩ = some (.string K) := blk_cell hbx 0
      have x1 : W.cell? ⟨Bx, 1, none⟩ = some (.string V) := blk_cell hbx 1
      clear q1 q2 q3 q4 q5 q6 q7 hI h0 h1 ek hp hLl hlen hbx
      gi_wp2_with (gi_at_builtin; refine wpListIn_append_run _ rfl _ _ 36 36 rfl (.slice A n c) (.slice (some ⟨W.heap.size, 0, none⟩) 1 1) rfl rfl (.slice (some ⟨g2, 0, none⟩) n2 c2) W4 Q2.out ?_)
      exact HF.out
    · have dk : ((k : Int) != 0) = true := bne_iff_ne.2 (by omega)
      have HF := Lib.hid (show KeepsFrom w3.heap.size W ((W.setCell ⟨B, 0, none⟩ (.slice none 0 0)).setCell ⟨B + 1, 0, none⟩ (.int .i64 k)) ∧ ∃ M K' V', ∃ k' : Nat, pre ++ [((K, V), k)] = okI M ++ [((K', V'), k')] ∧ ¬ k' = 0 ∧ Below B w ((W.setCell ⟨B, 0, none⟩ (.slice none 0 0)).setCell ⟨B + 1, 0, none⟩ (.int .i64 k)) ∧ Boxed ((W.setCell ⟨B, 0, none⟩ (.slice none 0 0)).setCell ⟨B + 1, 0, none⟩ (.int .i64 k)) B 36 (.slice none 0 0) ∧ Boxed ((W.setCell ⟨B, 0, none⟩ (.slice none 0 0)).setCell ⟨B + 1, 0, none⟩ (.int .i64 k)) (B + 1) 25 (.int .i64 k') from
        ⟨((KeepsOthers.setCell _ _ _).trans (KeepsOthers.setCell _ _ _)).from _, L, K, V, k, by rw [hp], ek, (hI.low.setCell (p := ⟨B, 0, none⟩) (Nat.le_refl _) _).setCell (p := ⟨B + 1, 0, none⟩) (Nat.le_succ _) _, (h0.set _).other (by omega) _, (h1.other (by omega) _).set _⟩)
      have y0 := h0.cell
      have y1 := h1.cell
      have y2 := h0.frozen
      have y3 := h1.frozen
      clear hI h0 h1 ek hp hLl hlen hbx
      gi_wp2_with fail
      exact ⟨HF.out.1, rfl, HF.out.2⟩
  case done =>
    rintro D xs W hD hS ⟨L, hp, hI, h0, h1⟩ hK
    have hun : unpackT (s.data.toList.length + 1) s.data.toList = some (L.map toL) := by
      rcases hS with ⟨M, h2, h3⟩ | ⟨M, x, h2, h3, _⟩
      · rw [okI_inj (hp.symm.trans h2)]
        exact h3
      · have := okI_zero (hp.symm.trans h2)
        omega
    have HUN : Hid (unpackA s.data.toList = (L.map toL, 0)) := Lib.hid (by rw [HUA.out, hun])
    obtain ⟨A, n, c, q1, q2, q3, q4⟩ := hI.pin
    have HF := Lib.hid (show _ ∧ _ ∧ _ ∧ _ ∧ _ from ⟨hK, q2, q4, hI.low, And.intro h0 h1⟩)
    have y0 := h0.cell
    have y1 := h1.cell
    have y2 := h0.frozen
    have y3 := h1.frozen
    have y4 := q1.cell
    clear hS hp hI h0 h1 hK hun q1 q2 q3 q4
    gi_wp2_with fail
    go_wp2_with fail
    refine ⟨by simp, .inl ⟨_, _, rfl, run_takeDeferred ?hk, ?_⟩⟩
    case hk => exact ((KeepsOthers.setCell W _ _).trans (KeepsOthers.setCell _ _ _)).same D _ HF.out.1 rfl
    obtain ⟨hK, hrow, hn, hlow, h0, h1⟩ := HF.out
    have hr1 := hrow.kept (grownBy_setCell' W B (.slice A n c)) (.inr (h0.not_row (by decide) hrow).symm)
    have h1' := h1.other (B' := B) (by omega) (.slice A n c)
    have h0' := h0.set (.slice A n c)
    have hr2 := hr1.kept (grownBy_setCell' _ (B + 1) (.int .i64 0)) (.inr (h1'.not_row (by decide) hr1).symm)
    have h1'' := h1'.set (.int .i64 0)
    have h0'' := h0'.other (B' := B + 1) (by omega) (.int .i64 0)
    have hK2 : ((W.setCell ⟨B, 0, none⟩ (.slice A n c)).setCell ⟨B + 1, 0, none⟩ (.int .i64 0)).heap[D]? = some (.deferred (some [])) := ((KeepsOthers.setCell W _ _).trans (KeepsOthers.setCell _ _ _)).same D _ hK rfl
    have hl2 := (hlow.setCell (p := ⟨B, 0, none⟩) (Nat.le_refl _) (.slice A n c)).setCell (p := ⟨B + 1, 0, none⟩) (Nat.le_succ _) (.int .i64 0)
    have hl3 := hl2.grown (grownBy_putObj' _ D (.deferred none)) (by have := hl2.size; have := HBE.out; omega) (fun k e => by cases e; have := HS3.out; omega)
    have hr3 := ownsRow_putObj hr2 (.deferred none) hK2 rfl
    have h03 := h0''.kept (grownBy_putObj' _ D (.deferred none)) (by have := HS3.out; intro e; cases e; omega)
    have h13 := h1''.kept (grownBy_putObj' _ D (.deferred none)) (by have := HS3.out; intro e; cases e; omega)
    exact ⟨_, ret_unp _ B (B + 1) (.slice A n c) (.int .i64 0) h03 h13 _ rfl rfl, HP.out A n c L 0 _ HUN.out hn (pin_ownE hr3) (hl3.mono (Nat.le_of_eq HBE.out.symm))⟩
  case stop =>
    rintro D c pre W hD hS ⟨rfl, L, K, V, k, hp, hx, hlow, h0, h1⟩ hK
    have hF : k = 180 ∧ unpackA s.data.toList = ([], 180) := by
      obtain ⟨M, y, h2, h3⟩ := hS
      have h4 := List.append_inj_right' (hp.symm.trans h2) rfl
      have h5 : y = ((K, V), k) := (List.cons.inj h4).1.symm
      subst h5
      rcases h3 with h3 | ⟨h3, h6⟩
      · exact absurd h3 hx
      · exact ⟨h3, by rw [HUA.out, h6]⟩
    obtain ⟨rfl, hF⟩ := hF
    have HF := Lib.hid (And.intro hF (And.intro hlow (And.intro h0 (And.intro h1 hK))))
    clear hS hp hlow h0 h1 hK hF hx
    gi_wp2_with fail
    refine ⟨by simp, .inl ⟨_, _, rfl, run_takeDeferred HF.out.2.2.2.2, ?_⟩⟩
    obtain ⟨hF, hlow, h0, h1, hK⟩ := HF.out
    have hl3 := hlow.grown (grownBy_putObj' _ D (.deferred none)) (by have := hlow.size; have := HBE.out; omega) (fun k e => by cases e; have := HS3.out; omega)
    have h03 := h0.kept (grownBy_putObj' _ D (.deferred none)) (by have := HS3.out; intro e; cases e; omega)
    have h13 := h1.kept (grownBy_putObj' _ D (.deferred none)) (by have := HS3.out; intro e; cases e; omega)
    exact ⟨_, ret_unp _ B (B + 1) (.slice none 0 0) (.int .i64 (180 : Nat)) h03 h13 _ rfl rfl, HP.out none 0 0 [] 180 _ hF (Nat.zero_le _) ⟨rfl, fun h => absurd h (Nat.lt_irrefl 0)⟩ (hl3.mono (Nat.le_of_eq HBE.out.symm))⟩
end Go.Proofs.YtdjmfkodjjjhfaaGreatDoor
