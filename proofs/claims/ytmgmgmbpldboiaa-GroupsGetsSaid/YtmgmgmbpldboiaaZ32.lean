/- Xd: texts laid together, what is not used left out. -/
import Derived.Test.YtmgmgmbpldboiaaZ31
namespace Go.Proofs.Ytmgmgmbpldboiaa
open Go.RowKit

/-- A table's cells: its lengths, how many codes each length has, its first code, where its symbol stands, the symbols. -/
def tbF (s0 : Value) (K F P : Nat → Nat) (s4 : Value) (i : Nat) : Value := if i = 0 then s0 else if i < 22 then .int .i64 (K (i - 1)) else if i < 43 then .int .i64 (F (i - 22)) else if i < 64 then .int .i64 (P (i - 43)) else s4
def tb (s0 : Value) (K F P : Nat → Nat) (s4 : Value) : Array Value := (Array.range 65).map (tbF s0 K F P s4)
set_option maxRecDepth 100000 in
theorem tb_size (s0 : Value) (K F P : Nat → Nat) (s4 : Value) : (tb s0 K F P s4).size = 65 := by simp [tb]
set_option maxRecDepth 100000 in
theorem tb_at (s0 : Value) (K F P : Nat → Nat) (s4 : Value) (i : Nat) (h : i < 65) : (tb s0 K F P s4)[i]? = some (tbF s0 K F P s4 i) := by simp [tb, h]
theorem tb_head (s0 : Value) (K F P : Nat → Nat) (s4 : Value) : (tb s0 K F P s4)[0]? = some s0 := by rw [tb_at _ _ _ _ _ 0 (by omega)]; rfl
theorem tb_cnt (s0 : Value) (K F P : Nat → Nat) (s4 : Value) (k : Nat) (h : k < 21) : (tb s0 K F P s4)[1 + k]? = some (.int .i64 (K k : Nat)) := by
  rw [tb_at _ _ _ _ _ _ (by omega), tbF, if_neg (by omega), if_pos (by omega), show 1 + k - 1 = k by omega]
theorem tb_first (s0 : Value) (K F P : Nat → Nat) (s4 : Value) (k : Nat) (h : k < 21) : (tb s0 K F P s4)[22 + k]? = some (.int .i64 (F k : Nat)) := by
  rw [tb_at _ _ _ _ _ _ (by omega), tbF, if_neg (by omega), if_neg (by omega), if_pos (by omega), show 22 + k - 22 = k by omega]
theorem tb_place (s0 : Value) (K F P : Nat → Nat) (s4 : Value) (k : Nat) (h : k < 21) : (tb s0 K F P s4)[43 + k]? = some (.int .i64 (P k : Nat)) := by
  rw [tb_at _ _ _ _ _ _ (by omega), tbF, if_neg (by omega), if_neg (by omega), if_neg (by omega), if_pos (by omega), show 43 + k - 43 = k by omega]
theorem tb_last (s0 : Value) (K F P : Nat → Nat) (s4 : Value) : (tb s0 K F P s4)[64]? = some s4 := by rw [tb_at _ _ _ _ _ 64 (by omega)]; rfl
set_option maxRecDepth 100000 in
theorem tb_one (s0 : Value) (K F P : Nat → Nat) (s4 : Value) (h0 : s0.oneCell' = true) (h4 : s4.oneCell' = true) : (tb s0 K F P s4).all (·.oneCell') = true := by
  rw [Array.all_eq_true]
  intro i h
  have : (tb s0 K F P s4)[i] = tbF s0 K F P s4 i := by simp [tb]
  rw [this, tbF]
  repeat' split
  all_goals first
    | exact h0
    | exact h4
    | rfl
theorem tb_ext {cs : Array Value} {s0 : Value} {K F P : Nat → Nat} {s4 : Value} (hs : cs.size = 65) (h : ∀ i, i < 65 → cs[i]? = some (tbF s0 K F P s4 i)) : cs = tb s0 K F P s4 := by
  apply Array.ext_getElem?
  intro i
  by_cases hi : i < 65
  · rw [h i hi, tb_at _ _ _ _ _ i hi]
  · rw [Array.getElem?_eq_none (by omega), Array.getElem?_eq_none (by rw [tb_size]; omega)]
theorem tb_same {s0 : Value} {K F P K2 F2 P2 : Nat → Nat} {s4 : Value} (hK : ∀ i, i < 21 → K i = K2 i) (hF : ∀ i, i < 21 → F i = F2 i) (hP : ∀ i, i < 21 → P i = P2 i) : tb s0 K F P s4 = tb s0 K2 F2 P2 s4 := by
  refine tb_ext (tb_size ..) fun i hi => ?_
  rw [tb_at _ _ _ _ _ i hi, tbF, tbF]
  congr 1
  split
  · rfl
  · split
    · rw [hK _ (by omega)]
    · split
      · rw [hF _ (by omega)]
      · split
        · rw [hP _ (by omega)]
        · rfl
theorem tb_set_first (s0 : Value) (K F P : Nat → Nat) (s4 : Value) (k x : Nat) (hk : k < 21) : (tb s0 K F P s4).setIfInBounds (22 + k) (.int .i64 x) = tb s0 K (fun i => if i = k then x else F i) P s4 := by
  refine tb_ext (by rw [Array.size_setIfInBounds, tb_size]) fun i hi => ?_
  rw [Array.getElem?_setIfInBounds, tb_at _ _ _ _ _ i hi, tb_size]
  by_cases e : 22 + k = i
  · subst e
    rw [if_pos rfl, if_pos hi, tbF, if_neg (by omega), if_neg (by omega), if_pos (by omega), if_pos (by omega)]
  · rw [if_neg e, tbF, tbF]
    congr 1
    split
    · rfl
    · split
      · rfl
      · split
        · rw [if_neg (by omega)]
        · rfl
theorem tb_set_place (s0 : Value) (K F P : Nat → Nat) (s4 : Value) (k x : Nat) (hk : k < 21) : (tb s0 K F P s4).setIfInBounds (43 + k) (.int .i64 x) = tb s0 K F (fun i => if i = k then x else P i) s4 := by
  refine tb_ext (by rw [Array.size_setIfInBounds, tb_size]) fun i hi => ?_
  rw [Array.getElem?_setIfInBounds, tb_at _ _ _ _ _ i hi, tb_size]
  by_cases e : 43 + k = i
  · subst e
    rw [if_pos rfl, if_pos hi, tbF, if_neg (by omega), if_neg (by omega), if_neg (by omega), if_pos (by omega), if_pos (by omega)]
  · rw [if_neg e, tbF, tbF]
    congr 1
    split
    · rfl
    · split
      · rfl
      · split
        · rfl
        · split
          · rw [if_neg (by omega)]
          · rfl
theorem tb_set_last (s0 : Value) (K F P : Nat → Nat) (s4 v : Value) : (tb s0 K F P s4).setIfInBounds 64 v = tb s0 K F P v := by
  refine tb_ext (by rw [Array.size_setIfInBounds, tb_size]) fun i hi => ?_
  rw [Array.getElem?_setIfInBounds, tb_at _ _ _ _ _ i hi, tb_size]
  by_cases e : 64 = i
  · subst e
    rw [if_pos rfl, if_pos hi]
    rfl
  · rw [if_neg e, tbF, tbF]
    congr 1
    split
    · rfl
    · split
      · rfl
      · split
        · rfl
        · rw [if_pos (by omega), if_pos (by omega)]
/-- Cells stored one behind the other. -/
def setMany (cs : Array Value) : Nat → List Value → Array Value
  | _, [] => cs
  | o, v :: vs => setMany (cs.setIfInBounds o v) (o + 1) vs
theorem setMany_size : ∀ (vs : List Value) (cs : Array Value) (o : Nat), (setMany cs o vs).size = cs.size
  | [], _, _ => rfl
  | v :: vs, cs, o => by rw [setMany, setMany_size vs, Array.size_setIfInBounds]
set_option maxRecDepth 100000 in
theorem setMany_get : ∀ (vs : List Value) (cs : Array Value) (o i : Nat), i < cs.size → (setMany cs o vs)[i]? = if o ≤ i ∧ i < o + vs.length then vs[i - o]? else cs[i]?
  | [], cs, o, i, _ => by
    rw [setMany, if_neg (by simp)]
  | v :: vs, cs, o, i, h => by
    rw [setMany, setMany_get vs _ _ i (by rw [Array.size_setIfInBounds]; exact h), Array.getElem?_setIfInBounds]
    by_cases e : o = i
    · subst e
      rw [if_neg (by omega), if_pos rfl, if_pos h, if_pos (by simp), Nat.sub_self]
      rfl
    · rw [if_neg e]
      by_cases e2 : o + 1 ≤ i ∧ i < o + 1 + vs.length
      · rw [if_pos e2, if_pos (by simp; omega), show i - o = (i - (o + 1)) + 1 by omega]
        rfl
      · rw [if_neg e2, if_neg (by simp; omega)]
theorem blk_setCells {g : Nat} {t : TypeId} : ∀ (vs : List Value) (cs : Array Value) (o : Nat) (w : World), Blk w g t cs → Blk (w.setCells g o vs) g t (setMany cs o vs)
  | [], _, _, _, h => h
  | v :: vs, cs, o, w, h => by
    rw [World.setCells, setMany]
    exact blk_setCells vs _ _ _ (blk_set h o v)
theorem below_setCells {B : Nat} {w : World} {g : Nat} (hg : B ≤ g) : ∀ (vs : List Value) (o : Nat) (w' : World), Below B w w' → Below B w (w'.setCells g o vs)
  | [], _, _, h => h
  | v :: vs, o, w', h => by
    rw [World.setCells]
    exact below_setCells hg vs _ _ (h.setCell (p := ⟨g, o, none⟩) hg v)
theorem tb_set_cnt (s0 : Value) (K F P K2 : Nat → Nat) (s4 : Value) : setMany (tb s0 K F P s4) 1 (arrP K2).toList = tb s0 K2 F P s4 := by
  have hl : (arrP K2).toList.length = 21 := arrP_size K2
  refine tb_ext (by rw [setMany_size, tb_size]) fun i hi => ?_
  rw [setMany_get _ _ _ i (by rw [tb_size]; exact hi), hl]
  by_cases e : 1 ≤ i ∧ i < 1 + 21
  · rw [if_pos e, Array.getElem?_toList, arrP_get _ _ (by omega), tbF, if_neg (by omega), if_pos (by omega)]
  · rw [if_neg e, tb_at _ _ _ _ _ i hi, tbF, tbF]
    congr 1
    split
    · rfl
    · rw [if_neg (c := i < 22) (by omega), if_neg (c := i < 22) (by omega)]
/-- Where the places lie. -/
theorem tb_places {w : World} {g : Nat} {t : TypeId} {s0 : Value} {K F P : Nat → Nat} {s4 : Value} (h : Blk w g t (tb s0 K F P s4)) : w.rangeAt g 43 (arrP P).toList := by
  intro j v hv
  rw [blk_cell h]
  have hj : j < 21 := by
    have := (List.getElem?_eq_some_iff.1 hv).1
    have hl : (arrP P).toList.length = 21 := arrP_size P
    omega
  rw [tb_place _ _ _ _ _ j hj, ← hv, Array.getElem?_toList, arrP_get _ _ hj]
theorem tb_there {w : World} {g : Nat} {t : TypeId} {s0 : Value} {K F P : Nat → Nat} {s4 : Value} (h : Blk w g t (tb s0 K F P s4)) (o n : Nat) (hn : o + n ≤ 65) : w.there g o n := by
  intro j hj
  refine ⟨?_, blk_frozen h _⟩
  rw [blk_cell h, tb_at _ _ _ _ _ _ (by omega)]
  rfl
set_option maxRecDepth 100000 in
theorem zeroTb : (∀ w, (zeroValue 98).run Try.prog w = .ok (.agg (tb (.slice none 0 0) (fun _ => 0) (fun _ => 0) (fun _ => 0) (.slice none 0 0))) w) ∧ (Try.prog.info? 98).map (·.size) = some 65 := zero_of_info (by kernel_rfl)
set_option maxRecDepth 100000 in
theorem builtTb0 : Try.prog.built 98 [] = some (tb (.slice none 0 0) (fun _ => 0) (fun _ => 0) (fun _ => 0) (.slice none 0 0)) := by kernel_rfl
set_option maxRecDepth 100000 in
theorem builtTb (A : Option Addr) (n c : Nat) : Try.prog.built 98 [(0, .slice A n c)] = some (tb (.slice A n c) (fun _ => 0) (fun _ => 0) (fun _ => 0) (.slice none 0 0)) := by kernel_rfl
end Go.Proofs.Ytmgmgmbpldboiaa
