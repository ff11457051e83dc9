/- A row of the call's own grows, and a piece is laid behind it: slices.Grow over a row; copy from a string; the program's lay. Conditions: at most 262144 bytes before, a piece of at most 2097152, not both empty. -/
import Derived.Test.YtihmlhkjafajmaaHd
import Derived.Lib.BufferWrite
import Derived.Laws.CopyOwn
namespace Go.Proofs.Ytihmlhkjafajmaa
open Go.RowKit

/-- A row of bytes that lies: n of them, room for c. -/
def Lies (w : World) (B g n c : Nat) (xs : List Value) : Prop := B ≤ g ∧ n ≤ c ∧ c ≤ maxLen ∧ ∃ cur : Array Value, Blk w g 5 cur ∧ cur.size = c ∧ cur.toList.take n = xs

theorem grow_own (w : World) (B : Nat) (v : Value) (n k : Nat) (xs : List Value) (hown : w.ownsRow B 5 1 v n xs) (hB : B ≤ w.heap.size) (h0 : 0 < n + k) (hbig : n + k ≤ 140737488355328) :
    Calls Try.prog 21 #[v, .int .i64 k] w fun e w' => ∃ g c, e = .returned (.slice (some ⟨g, 0, none⟩) n c) ∧ Lies w' B g n c xs ∧ n + k ≤ c ∧ Below w.heap.size w w' := by
  obtain ⟨i5, h5, hz0, hz1, hz2⟩ := info_parts Try.info5
  have hb : (n + k) * i5.bytes ≤ 140737488355328 := by rw [hz2]; omega
  have fresh : ∀ (base : Option Addr) (l c : Nat) (cs : List Value), l = n → n ≤ c → c < n + k → cs.length = c → cs.take n = xs → (base = none → c = 0) → (∀ a, base = some a → ∀ j v, cs[j]? = some v → w.cell? (a.add j) = some v) →
      Calls Try.prog 21 #[.slice base l c, .int .i64 k] w fun e w' => ∃ g c, e = .returned (.slice (some ⟨g, 0, none⟩) n c) ∧ Lies w' B g n c xs ∧ n + k ≤ c ∧ Below w.heap.size w w' := by
    intro base l c cs hl hnc hck hcs htk hnil hcell
    subst hl
    have hG := grownCap_ge w (l + k) c 5
    have hG2 := grownCap_le_maxLen w (l + k) c 5 (by unfold maxLen; omega)
    refine (grow_grow w i5 (.int .u8 0) h5 hz0 (by omega) base l c k cs hnc hck hb (by omega) (by rw [hcs, hz1, Nat.mul_one]) hnil hcell).mono ?_
    rintro e w' ⟨rfl, rfl⟩
    refine ⟨w.heap.size, _, rfl, ⟨hB, by omega, hG2, _, blk_new w.drew 5 _, ?_, ?_⟩, by omega, (Below.refl _ _).drew.alloc (Nat.le_refl _) _⟩
    · have hone : (Value.cells (.int .u8 0)).size = 1 := rfl
      rw [Array.size_append, Array.size_append, size_zeroCells, size_zeroCells, hone]
      simp only [List.size_toArray, hcs]
      omega
    · rw [Array.toList_append, Array.toList_append, List.append_assoc, List.take_append_of_le_length (by simp; omega)]
      exact htk
  rcases hown.2 with ⟨rfl, rfl⟩ | ⟨g, c, cur, rfl, hg, hh, hnc, hm, hcs, htk⟩
  · have hx : xs = [] := List.eq_nil_of_length_eq_zero (by rw [hown.1])
    subst hx
    exact fresh none 0 0 [] rfl (Nat.le_refl _) (by omega) rfl rfl (fun _ => rfl) (fun a h => by cases h)
  · rw [Nat.mul_one] at htk hcs
    by_cases hr : n + k ≤ c
    · refine (grow_room w (some ⟨g, 0, none⟩) n c k hnc (by unfold maxLen at hm; omega) (by omega) hr).mono ?_
      rintro e w' ⟨rfl, rfl⟩
      exact ⟨g, c, rfl, ⟨hg, hnc, hm, cur, hh, hcs, htk⟩, hr, Below.refl _ _⟩
    · refine fresh (some ⟨g, 0, none⟩) n c cur.toList rfl hnc (by omega) (by rw [Array.length_toList, hcs]) htk (fun h => by cases h) ?_
      intro a ha j u hu
      injection ha with ha
      subst ha
      rw [Addr.add_lit, blk_cell (t := 5) (cs := cur) hh]
      simpa using hu

theorem wpList_copy_str {P : Program} {w : World} {ops : Array Oper} {rest : List Oper} {o : Oper} {a : Act} {Q : Exit → Act → World → Prop} (hgd : o.guard = none) (d s : Operand) (dT sT : TypeId)
    (ho : o.op = .call { callee := .builtin .copy, args := #[d, s], argTypes := #[dT, sT] }) (elem : TypeId) (hu : P.underlying dT = some (.slice elem)) (hsz : (P.info? elem).map (·.size) = some 1)
    (g off dLen dCap : Nat) (t : ByteArray) (hd : a.eval d = .slice (some ⟨g, off, none⟩) dLen dCap) (hs : a.eval s = .string t)
    (cur : Array Value) (ty : TypeId) (hg : w.heap[g]? = some (.cells cur ty (0, 0))) (hle : t.size ≤ dLen) (hfit : off + t.size ≤ cur.size)
    (h : wpList P ops Q rest (a.put o.dst (goInt t.size)) (w.setRow g (cur.toList.take off ++ (Lib.byteCells t.data.toList ++ cur.toList.drop (off + t.size))).toArray)) : wpList P ops Q (o :: rest) a w := by
  refine wpList_plain hgd fun K hK => ?_
  have hrun := Lib.run_copy_row_string (P := P) w dT sT o.type elem g off dLen dCap t cur ty hu hsz hg hle hfit
  unfold Oper.wp
  simp [execOp, ho, resolve, invoke, builtin, hd, hs, hrun, Result.andThen]
  exact hK _ _ h
theorem wpList_copy_none {P : Program} {w : World} {ops : Array Oper} {rest : List Oper} {o : Oper} {a : Act} {Q : Exit → Act → World → Prop} (hgd : o.guard = none) (d s : Operand) (dT sT : TypeId)
    (ho : o.op = .call { callee := .builtin .copy, args := #[d, s], argTypes := #[dT, sT] }) (elem : TypeId) (hu : P.underlying dT = some (.slice elem)) (hsz : ((P.info? elem).map (·.size)).isSome = true)
    (p : Option Addr) (dLen dCap : Nat) (t : ByteArray) (hd : a.eval d = .slice p dLen dCap) (hs : a.eval s = .string t) (h0 : t.size = 0)
    (h : wpList P ops Q rest (a.put o.dst (goInt 0)) w) : wpList P ops Q (o :: rest) a w := by
  refine wpList_plain hgd fun K hK => ?_
  have hrun := Lib.run_copy_empty_string (P := P) w dT sT o.type elem p dLen dCap t hu hsz h0
  unfold Oper.wp
  simp [execOp, ho, resolve, invoke, builtin, hd, hs, hrun, Result.andThen]
  exact hK _ _ h

/-- A piece laid behind n cells that lie, with room. -/
theorem lies_laid {w : World} {B g n c : Nat} {cur : Array Value} {xs : List Value} (t : ByteArray) (hB : B ≤ g) (hm : c ≤ maxLen) (hb : Blk w g 5 cur) (hc : cur.size = c) (htk : cur.toList.take n = xs) (hn : n + t.size ≤ c) (hl : xs.length = n) :
    (w.setRow g (cur.toList.take n ++ (Lib.byteCells t.data.toList ++ cur.toList.drop (n + t.size))).toArray).ownsRow B 5 1 (.slice (some ⟨g, 0, none⟩) (n + t.size) c) (n + t.size) (xs ++ Lib.byteCells t.data.toList) := by
  have hlen : (Lib.byteCells t.data.toList).length = t.size := by rw [Lib.byteCells_length]; rfl
  refine ⟨by rw [List.length_append, hl, hlen]; omega, .inr ⟨g, c, _, rfl, hB, setRow_heap w g cur _ 5 (0, 0) hb, hn, hm, ?_, ?_⟩⟩
  · simp only [List.size_toArray, List.length_append, List.length_take, List.length_drop, hlen, Array.length_toList, hc]
    omega
  · rw [htk, Nat.mul_one]
    show List.take (n + t.size) (xs ++ (Lib.byteCells t.data.toList ++ cur.toList.drop (n + t.size))) = _
    rw [← List.append_assoc, List.take_append_of_le_length (by rw [List.length_append, hl, hlen]; omega), List.take_of_length_le (by rw [List.length_append, hl, hlen]; omega)]

set_option maxHeartbeats 1600000 in
set_option maxRecDepth 100000 in
theorem clay_big (w : World) (B G N : Nat) (v : Value) (xs : List Value) (s : ByteArray) (hblk : Blk w G 35 #[v]) (hown : w.ownsRow B 5 1 v N xs) (hx : (N : Int) ≤ 262144) (hbig : 262144 < (N : Int) + s.size) :
    Calls Try.prog 17 #[.pointer (some ⟨G, 0, none⟩), .string s] w fun e w' => e = .returned (.bool false) ∧ w = w' := by
  have h0 := blk_cell hblk 0
  simp at h0
  obtain ⟨A, c, rfl, hnc, hcm, _⟩ := own_slice hown
  have d : decide ((262144 : Int) - (N : Int) < (s.size : Int)) = true := decide_eq_true (by omega)
  clear hbig
  go_enter Try.func17, Try.ntmps17
  go_wp2_with fail
  go_ret
  exact ⟨rfl, rfl⟩

set_option maxHeartbeats 1600000 in
set_option maxRecDepth 100000 in
theorem clay_fits (w : World) (B G N : Nat) (v : Value) (xs : List Value) (s : ByteArray) (hBG : B ≤ G) (hblk : Blk w G 35 #[v]) (hown : w.ownsRow B 5 1 v N xs) (hB : B ≤ w.heap.size) (hs : (s.size : Int) ≤ 2097152) (h0 : 0 < N + s.size) (hfit : (N : Int) + s.size ≤ 262144) :
    Calls Try.prog 17 #[.pointer (some ⟨G, 0, none⟩), .string s] w fun e w' => ∃ v', e = .returned (.bool true) ∧ Blk w' G 35 #[v'] ∧ Below B w w' ∧ w'.ownsRow B 5 1 v' (N + s.size) (xs ++ Lib.byteCells s.data.toList) := by
  have hc0 := blk_cell hblk 0
  have hf0 := blk_frozen hblk 0
  simp at hc0
  have hgr := grow_own w B v N s.size xs hown hB h0 (by omega)
  obtain ⟨A, c, rfl, hnc, hcm, _⟩ := own_slice hown
  have hxl : xs.length = N := by rw [hown.1]; omega
  have d : decide ((262144 : Int) - (N : Int) < (s.size : Int)) = false := decide_eq_false (by omega)
  have hN : (N : Int) ≤ 262144 := by omega
  have HF := Lib.hid hfit
  have HG := Lib.hid hgr
  have HBK := Lib.hid hblk
  clear hfit hgr hblk hown
  go_enter Try.func17, Try.ntmps17
  go_wp2_with fail
  refine HG.out.mono ?_
  rintro e w1 ⟨g, c1, rfl, hlies, hroom, hb1⟩
  obtain ⟨hBg, hnc1, hm1, cur, hcur, hcs, htk⟩ := hlies
  have hbk1 := (step_of_below hb1).blk HBK.out List.not_mem_nil List.not_mem_nil
  have hne : g ≠ G := fun e => by
    subst e
    unfold Blk at hcur hbk1
    rw [hcur] at hbk1
    injection hbk1 with h1
    injection h1 with _ h2
    exact absurd h2 (by decide)
  have hb1' : Below B w w1 := hb1.mono hB
  have hf1 := blk_frozen hbk1 0
  have hc1 := blk_cell hbk1 0
  simp at hc1
  have hcm1 := hm1
  unfold maxLen at hcm1
  have hcI : (c1 : Int) ≤ 9223372036854775807 := by omega
  have hrI : (N : Int) + s.size ≤ c1 := by omega
  have hnI : (N : Int) ≤ c1 := by omega
  have hset := blk_set hbk1 0 (.slice (some ⟨g, 0, none⟩) (N + s.size) c1)
  have hcur2 : Blk (w1.setCell ⟨G, 0, none⟩ (.slice (some ⟨g, 0, none⟩) (N + s.size) c1)) g 5 cur := by
    unfold Blk
    rw [Below.heap_setCell w1 ⟨G, 0, none⟩ _ g hne]
    exact hcur
  have hb2 : Below B w (w1.setCell ⟨G, 0, none⟩ (.slice (some ⟨g, 0, none⟩) (N + s.size) c1)) := hb1'.setCell hBG _
  have hsz : (Try.prog.info? 5).map (·.size) = some 1 := by
    obtain ⟨i5, h5, hz0, hz1, hz2⟩ := info_parts Try.info5
    rw [h5]
    show some i5.size = some 1
    rw [hz1]
  have HCUR := Lib.hid hcur2
  have HSET := Lib.hid hset
  have HB2 := Lib.hid hb2
  have HSZ := Lib.hid hsz
  have HLAID := Lib.hid (fun W (hW : Blk W g 5 cur) => lies_laid (w := W) (B := B) (g := g) (n := N) (c := c1) (xs := xs) s hBg hm1 hW hcs htk (by omega) hxl)
  clear hset hcur2 hb2 hsz hcur hb1 hb1' htk
  by_cases hk : s.size = 0
  · have hsz2 : ((Try.prog.info? 5).map (·.size)).isSome = true := by rw [HSZ.out]; rfl
    have HL0 := HLAID.out _ HCUR.out
    have hrow : cur.toList.take N ++ (Lib.byteCells s.data.toList ++ cur.toList.drop (N + s.size)) = cur.toList := by
      have hnil : s.data.toList = [] := List.eq_nil_of_length_eq_zero hk
      rw [hnil, hk]
      show cur.toList.take N ++ ([] ++ cur.toList.drop (N + 0)) = _
      rw [List.nil_append, Nat.add_zero, List.take_append_drop]
    rw [hrow] at HL0
    have hself : (w1.setCell ⟨G, 0, none⟩ (.slice (some ⟨g, 0, none⟩) (N + s.size) c1)).setRow g cur = w1.setCell ⟨G, 0, none⟩ (.slice (some ⟨g, 0, none⟩) (N + s.size) c1) := setRow_self _ g cur 5 (0, 0) HCUR.out
    have hself2 : cur.toList.toArray = cur := rfl
    rw [hself2, hself] at HL0
    have HLL := Lib.hid HL0
    have HK0 := Lib.hid hk
    clear HL0 hrow hself hself2 hk
    go_wp2_with (refine wpList_copy_none rfl _ _ 35 9 rfl 5 Try.underlying35 hsz2 _ _ _ s rfl rfl HK0.out ?_)
    · have e : c1 = N := by assumption
      subst e
      go_ret
      exact ⟨rfl, _, HSET.out, HB2.out, HLL.out⟩
    · go_ret
      exact ⟨rfl, _, HSET.out, HB2.out, HLL.out⟩
  · have hk1 : (0 : Int) < s.size := by omega
    have hcN : ¬ c1 = N := by omega
    have hfit1 : N + s.size ≤ cur.size := by omega
    go_wp2_with (refine wpList_copy_str rfl _ _ 35 9 rfl 5 Try.underlying35 HSZ.out g N s.size (c1 - N) s rfl rfl cur 5 HCUR.out (Nat.le_refl _) hfit1 ?_)
    have hblk3 : Blk ((w1.setCell ⟨G, 0, none⟩ (.slice (some ⟨g, 0, none⟩) (N + s.size) c1)).setRow g (cur.toList.take N ++ (Lib.byteCells s.data.toList ++ cur.toList.drop (N + s.size))).toArray) G 35 #[.slice (some ⟨g, 0, none⟩) (N + s.size) c1] := by
      unfold Blk
      rw [setRow_other _ _ _ _ (fun e => hne e.symm)]
      exact HSET.out
    go_ret
    exact ⟨_, rfl, hblk3, below_setRow HB2.out hBg _, HLAID.out _ HCUR.out⟩

end Go.Proofs.Ytihmlhkjafajmaa
