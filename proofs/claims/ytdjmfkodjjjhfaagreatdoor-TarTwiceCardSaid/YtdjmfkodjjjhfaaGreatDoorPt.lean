/- Paths: plain: parts, one form, one order, splits. Written ahead of stage 14. -/
import Derived.Test.YtdjmfkodjjjhfaaGreatDoorSa
import Derived.Lib.AppendZeros
import Derived.Test.YtdjmfkodjjjhfaaGreatDoorFdb
namespace Go.Proofs.YtdjmfkodjjjhfaaGreatDoor
open Go.RowKit

/-- The parts, the first of which has begun. -/
def partsF : List UInt8 → List UInt8 → List (List UInt8)
  | cur, [] => [cur]
  | cur, c :: s => if c = 47 then cur :: partsF [] s else partsF (cur ++ [c]) s
def partsL (s : List UInt8) : List (List UInt8) := partsF [] s
set_option maxRecDepth 100000 in
theorem partsF_ne : ∀ (s cur : List UInt8), partsF cur s ≠ []
  | [], _ => by simp [partsF]
  | c :: s, cur => by
    rw [partsF]
    split
    · simp
    · exact partsF_ne s _
set_option maxRecDepth 100000 in
theorem partsF_len : ∀ (s cur : List UInt8), (partsF cur s).length ≤ s.length + 1
  | [], _ => by simp [partsF]
  | c :: s, cur => by
    rw [partsF]
    split
    · rw [List.length_cons, List.length_cons]
      have := partsF_len s []
      omega
    · rw [List.length_cons]
      have := partsF_len s (cur ++ [c])
      omega
set_option maxRecDepth 100000 in
theorem partsF_mem : ∀ (s cur : List UInt8) (p : List UInt8), p ∈ partsF cur s → p.length ≤ cur.length + s.length
  | [], cur, p, h => by
    rw [partsF, List.mem_singleton] at h
    rw [h]
    exact Nat.le_add_right _ _
  | c :: s, cur, p, h => by
    rw [partsF] at h
    rw [List.length_cons]
    split at h
    · rcases List.mem_cons.1 h with rfl | h
      · omega
      · have := partsF_mem s [] p h
        rw [List.length_nil] at this
        omega
    · have := partsF_mem s _ p h
      rw [List.length_append, List.length_singleton] at this
      omega
/-- What is kept of parts, with slashes between. -/
def joinF : List UInt8 → List (List UInt8) → List UInt8
  | out, [] => out
  | out, p :: l => if p = [] ∨ p = [46] then joinF out l else joinF ((if out = [] then [] else out ++ [47]) ++ p) l
def okB (c : UInt8) : Prop := 32 ≤ c.toNat ∧ c.toNat ≤ 126
instance (c : UInt8) : Decidable (okB c) := inferInstanceAs (Decidable (_ ∧ _))
/-- What Clean answers. -/
def cleanL (s : List UInt8) : List UInt8 × Nat :=
  if [46, 46] ∈ partsL s then ([], 140)
  else if ¬ ∀ c ∈ s, okB c then ([], 140)
  else if joinF [] (partsL s) = [] ∨ 120 < (joinF [] (partsL s)).length then ([], 140)
  else (joinF [] (partsL s), 0)
/-- What Check answers. -/
def checkL (p : List UInt8) : Nat := if (cleanL p).2 ≠ 0 ∨ (cleanL p).1 ≠ p then 140 else 0
/-- What Cmp answers, of parts. -/
def cmpF : List (List UInt8) → List (List UInt8) → Int
  | [], [] => 0
  | [], _ :: _ => -1
  | _ :: _, [] => 1
  | x :: xs, y :: ys => if x < y then -1 else if y < x then 1 else cmpF xs ys
def cmpL (a b : List UInt8) : Int := cmpF (partsL a) (partsL b)
/-- May a text be parted at a place? -/
def okAt (p : List UInt8) (i : Nat) : Prop := (p.getD i 0).toNat = 47 ∧ 1 ≤ i ∧ i ≤ 155 ∧ i + 2 ≤ p.length ∧ p.length ≤ i + 101
instance (p : List UInt8) (i : Nat) : Decidable (okAt p i) := inferInstanceAs (Decidable (_ ∧ _))
def splitF (p : List UInt8) : Nat → Nat → List UInt8 × List UInt8 × Bool
  | 0, _ => ([], [], false)
  | k + 1, i => if okAt p i then (p.take i, p.drop (i + 1), true) else splitF p k (i + 1)
/-- What Split answers. -/
def splitL (p : List UInt8) : List UInt8 × List UInt8 × Bool := if p.length ≤ 100 then ([], p, true) else splitF p p.length 0
/-- What Under answers. -/
def underL (d p : List UInt8) : Bool := decide (d.length + 1 ≤ p.length ∧ p.take (d.length + 1) = d ++ [47])

def strP (l : List UInt8) : ByteArray := ⟨l.toArray⟩
def sv (l : List UInt8) : Value := .string (strP l)
theorem strP_size (l : List UInt8) : (strP l).size = l.length := rfl
theorem strP_list (l : List UInt8) : (strP l).data.toList = l := rfl
set_option maxRecDepth 100000 in
theorem strP_self (s : ByteArray) : strP s.data.toList = s := by
  apply ByteArray.ext
  show s.data.toList.toArray = s.data
  simp
set_option maxRecDepth 100000 in
theorem strP_app (a b : List UInt8) : strP a ++ strP b = strP (a ++ b) := by
  apply ByteArray.ext
  simp [strP]
theorem strP_nil : strP [] = (⟨#[]⟩ : ByteArray) := rfl
theorem ext_list (t : ByteArray) (a b : Nat) : (t.extract a b).data.toList = (t.data.toList.take b).drop a := by
  rw [ByteArray.data_extract, Array.toList_extract, List.extract_eq_take_drop, List.drop_take]
set_option maxRecDepth 100000 in
theorem less_text (a b : ByteArray) : Op.bytesLess a.toList b.toList = decide (a.data.toList < b.data.toList) := by
  have key : ∀ l m : List UInt8, Op.bytesLess l m = decide (l < m) := by
    intro l
    induction l with
    | nil => intro m; cases m <;> simp [Op.bytesLess]
    | cons x l ih =>
      intro m
      cases m with
      | nil => simp [Op.bytesLess]
      | cons y m =>
        simp only [Op.bytesLess, ih m, List.cons_lt_cons_iff, Bool.decide_or, Bool.decide_and]
        rfl
  rw [ByteArray.toList_eq, ByteArray.toList_eq, key]
theorem same_text (a b : ByteArray) : (a.toList == b.toList) = decide (a.data.toList = b.data.toList) := by
  rw [ByteArray.toList_eq, ByteArray.toList_eq]
  by_cases h : a.data.toList = b.data.toList
  · rw [h, decide_eq_true rfl]
    exact beq_self_eq_true _
  · rw [decide_eq_false h]
    exact beq_false_of_ne h
end Go.Proofs.YtdjmfkodjjjhfaaGreatDoor
/- The reference of paths: Parts, Under. Conditions: for Parts texts of at most a million bytes. Written ahead of stage 14. -/
namespace Go.Proofs.YtdjmfkodjjjhfaaGreatDoor
open Go.RowKit

/-- A list of texts that is read. -/
def SLn (w : World) (A : Option Addr) (n : Nat) (L : List (List UInt8)) : Prop := L.length = n ∧ (0 < n → ∃ b off, A = some ⟨b, off, none⟩ ∧ ∀ i, i < n → w.cell? ⟨b, off + i, none⟩ = some (sv (L.getD i [])))
theorem SLn.below {w w' : World} {A : Option Addr} {n : Nat} {L : List (List UInt8)} (h : SLn w A n L) (hb : Below w.heap.size w w') : SLn w' A n L := by
  refine ⟨h.1, fun hn => ?_⟩
  obtain ⟨b, off, rfl, hc⟩ := h.2 hn
  exact ⟨b, off, rfl, fun i hi => (hb.cell (p := ⟨b, off + i, none⟩) (World.block_lt_of_cell? w _ (hc i hi))).trans (hc i hi)⟩
set_option maxRecDepth 100000 in
theorem sln_of_own {w : World} {B n c g : Nat} {L : List (List UInt8)} (h : w.ownsRow B 9 1 (.slice (some ⟨g, 0, none⟩) n c) n (L.map sv)) : SLn w (some ⟨g, 0, none⟩) n L := by
  have hl : L.length = n := by
    have := h.1
    simpa using this
  refine ⟨hl, fun _ => ⟨g, 0, rfl, fun i hi => ?_⟩⟩
  rw [Nat.zero_add, World.ownsRow.cellAt h i (by omega), List.getElem?_map, List.getD_eq_getElem?_getD, List.getElem?_eq_getElem (by omega)]
  rfl
/-- A list of texts is answered. -/
def TextsPost (w : World) (L : List (List UInt8)) (e : Ending) (w' : World) : Prop := ∃ A n c, e = .returned (.slice A n c) ∧ n ≤ c ∧ c ≤ maxLen ∧ SLn w' A n L ∧ Below w.heap.size w w'
set_option maxRecDepth 100000 in
theorem info_str : ∃ i, Tryz.prog.info? 9 = some i ∧ i.zero = some (.string ⟨#[]⟩) ∧ i.size = 1 ∧ i.bytes = 16 := by
  have h0 : (Tryz.prog.info? 9).map (·.zero) = some (some (.string ⟨#[]⟩)) := by kernel_rfl
  have h1 : (Tryz.prog.info? 9).map (·.size) = some 1 := by kernel_rfl
  have h2 : (Tryz.prog.info? 9).map (·.bytes) = some 16 := by kernel_rfl
  cases hq : Tryz.prog.info? 9 with
  | none => simp [hq] at h1
  | some i => exact ⟨i, rfl, by simpa [hq] using h0, by simpa [hq] using h1, by simpa [hq] using h2⟩
set_option maxRecDepth 100000 in
theorem cell_alone (w : World) (v : Value) (t : TypeId) : ∀ (j : Nat) (u : Value), [v][j]? = some u → (w.alloc (.cells #[v] t)).cell? ((⟨w.heap.size, 0, none⟩ : Addr).add j) = some u := by
  intro j u hu
  have hj : j = 0 := by
    have := (List.getElem?_eq_some_iff.1 hu).1
    simp at this
    exact this
  subst hj
  have e : (⟨w.heap.size, 0, none⟩ : Addr).add 0 = ⟨w.heap.size, 0, none⟩ := by
    unfold Addr.add
    split <;> simp_all
  rw [e, World.cell?_alloc_new]
  simpa using hu
set_option maxRecDepth 100000 in
/-- A text behind a row of the call's own. -/
theorem text_one (w : World) (B g n c : Nat) (L : List (List UInt8)) (h : w.ownsRow B 9 1 (.slice (some ⟨g, 0, none⟩) n c) n (L.map sv)) (x : List UInt8) (hn : n ≤ 4000001) (hB : B ≤ w.heap.size) :
    ∃ g2 c2 w2, (Builtin.append_ #[108, 108] 108 #[.slice (some ⟨g, 0, none⟩) n c, .slice (some ⟨w.heap.size, 0, none⟩) 1 1]).run Tryz.prog (w.alloc (.cells #[.string (strP x)] 9)) = .ok (.slice (some ⟨g2, 0, none⟩) (n + 1) c2) w2 ∧
      w2.ownsRow B 9 1 (.slice (some ⟨g2, 0, none⟩) (n + 1) c2) (n + 1) ((L ++ [x]).map sv) ∧ Below B w w2 := by
  obtain ⟨i3, h3, hz0, hz1, hz2⟩ := info_str
  obtain ⟨v2, w2, hr, ho, hg, _, hat⟩ := run_append_own_at (P := Tryz.prog) (w.alloc (.cells #[.string (strP x)] 9)) B 108 108 9 i3 (.string ⟨#[]⟩) 1 16 Tryz.underlying108 h3 hz0 hz1 hz2 rfl (by decide) _ _ _ (h.alloc _) ⟨w.heap.size, 0, none⟩ 1 1 [sv x] rfl (cell_alone w (sv x) 9)
    (fun u hu => by rw [List.mem_singleton.1 hu]; rfl) (by unfold maxLen; omega) (by omega) (by simp; omega)
  obtain ⟨A, c2, rfl, hc, hm, hA⟩ := own_slice ho
  obtain ⟨g2, rfl⟩ := hA (by omega)
  refine ⟨g2, c2, w2, hr, by rw [List.map_append]; exact ho, ?_⟩
  refine ((Below.refl B w).alloc hB _).grown hg (by simp; omega) fun k hk => ?_
  have hlt := World.ownsRow.lt h g rfl
  have : g = k := by simpa [Value.ownBlock] using hk
  omega
theorem set_last (D : List (List UInt8)) (x y : List UInt8) : ((D ++ [x]).map sv).set D.length (sv y) = (D ++ [y]).map sv := by
  rw [List.map_append, List.map_append, List.set_append_right _ _ (by rw [List.length_map]; exact Nat.le_refl _), List.length_map, Nat.sub_self]
  rfl
theorem byte_ext (t : ByteArray) (i : Nat) (h : i < t.size) : t.extract i (i + 1) = strP [t.data.toList.getD i 0] := by
  apply ByteArray.ext
  apply Array.toList_inj.1
  rw [ext_list]
  show _ = [t.data.toList.getD i 0]
  have hl : i < t.data.toList.length := h
  rw [List.drop_take, show i + 1 - i = 1 by omega, List.drop_eq_getElem_cons hl, List.getD_eq_getElem?_getD, List.getElem?_eq_getElem hl]
  rfl
theorem byte_at (t : ByteArray) (i : Nat) (h : i < t.size) : t.data.toList.getD i 0 = t[i] := by
  rw [List.getD_eq_getElem?_getD, List.getElem?_eq_getElem (by show i < t.size; exact h)]
  rfl
theorem drop_next (l : List UInt8) (i : Nat) (h : i < l.length) : l.drop i = l.getD i 0 :: l.drop (i + 1) := by
  rw [List.drop_eq_getElem_cons h, List.getD_eq_getElem?_getD, List.getElem?_eq_getElem h]
  rfl

set_option maxHeartbeats 3200000 in
set_option maxRecDepth 100000 in
theorem rparts_any (w : World) (t : ByteArray) (hs : t.size ≤ 4000000) : Calls Tryz.prog 69 #[.string t] w (TextsPost w (partsL t.data.toList)) := by
  have hll : t.data.toList.length = t.size := rfl
  obtain ⟨w1, hw1⟩ : ∃ w1, w1 = w.alloc (.cells #[.string ⟨#[]⟩] 9) := ⟨_, rfl⟩
  have hb1 : Below w.heap.size w w1 := by rw [hw1]; exact (Below.refl _ _).alloc (Nat.le_refl _) _
  have ho1 : w1.ownsRow w.heap.size 9 1 (.slice (some ⟨w.heap.size, 0, none⟩) 1 1) 1 (([[]] : List (List UInt8)).map sv) := by
    rw [hw1]
    exact ⟨rfl, .inr ⟨w.heap.size, 1, _, rfl, Nat.le_refl _, heap_alloc_new w _, Nat.le_refl _, by unfold maxLen; omega, rfl, rfl⟩⟩
  have HO1 := Lib.hid ho1
  have HB1 := Lib.hid hb1
  have HLL := Lib.hid hll
  have HP : Hid (∀ (A : Option Addr) (n c : Nat) (L : List (List UInt8)) (w' : World), L = partsL t.data.toList → n ≤ c → c ≤ maxLen → SLn w' A n L → Below w.heap.size w w' → TextsPost w (partsL t.data.toList) (.returned (.slice A n c)) w') := Lib.hid fun A n c L w' hL h1 h2 h3 h4 => ⟨A, n, c, rfl, h1, h2, hL ▸ h3, h4⟩
  generalize TextsPost w (partsL t.data.toList) = PO at *
  clear ho1 hb1 hll
  go_enter Tryz.func69, Tryz.ntmps69
  go_wp2_with fail
  rw [← hw1]
  clear hw1
  go_loopw [3, 4] (fun so si wx => ∃ (D : List (List UInt8)) (cur : List UInt8) (q n g c : Nat), so = .slice (some ⟨g, 0, none⟩) n c ∧ si = .int .i64 q ∧ q ≤ t.size ∧ cur.length ≤ q ∧ n ≤ q + 1 ∧ Below w.heap.size w wx ∧
    Hid (n = D.length + 1 ∧ wx.ownsRow w.heap.size 9 1 (.slice (some ⟨g, 0, none⟩) n c) n ((D ++ [cur]).map sv) ∧ D ++ partsF cur (t.data.toList.drop q) = partsL t.data.toList)) (fun _ si _ => t.size - (intOf si).toNat)
  case atStart => exact ⟨[], [], 0, 1, w.heap.size, 1, rfl, rfl, Nat.zero_le _, Nat.le_refl _, Nat.le_refl _, HB1.out, Lib.hid ⟨rfl, HO1.out, rfl⟩⟩
  case round =>
    obtain ⟨D, cur, q, n, g, c, rfl, rfl, hq, hcur, hn, hbx, hJ⟩ := hrel
    have HBX := Lib.hid hbx
    clear hbx
    by_cases e : q < t.size
    · have d0 : decide ((q : Int) < (t.size : Int)) = true := decide_eq_true (by omega)
      have hqz : (q : Int) < t.size := by omega
      have hbyte := byte_at t q e
      obtain ⟨x, hx⟩ : ∃ x, x = t.data.toList.getD q 0 := ⟨_, rfl⟩
      rw [← hx] at hbyte
      have hdn := drop_next t.data.toList q (by rw [HLL.out]; exact e)
      rw [← hx] at hdn
      have hj3 := hJ.out.2.2
      rw [hdn] at hj3
      have hsz := HBX.out.size
      by_cases e2 : x = 47
      · have d1 : ((((t[q]).toNat : Nat) : Int) == 47) = true := by rw [← hbyte, e2]; rfl
        rw [partsF, if_pos e2] at hj3
        obtain ⟨g2, c2, w2, hr2, ho2, hb2⟩ := text_one wr w.heap.size g n c _ hJ.out.2.1 [] (by omega) hsz
        have HR2 : Hid ((Builtin.append_ #[108, 108] 108 #[.slice (some ⟨g, 0, none⟩) n c, .slice (some ⟨wr.heap.size, 0, none⟩) 1 1]).run Tryz.prog (wr.alloc (.cells #[.string ⟨#[]⟩] 9)) = .ok (.slice (some ⟨g2, 0, none⟩) (n + 1) c2) w2) := Lib.hid hr2
        have HJ2 : Hid (n + 1 = (D ++ [cur]).length + 1 ∧ w2.ownsRow w.heap.size 9 1 (.slice (some ⟨g2, 0, none⟩) (n + 1) c2) (n + 1) ((D ++ [cur] ++ [[]]).map sv) ∧ D ++ [cur] ++ partsF [] (t.data.toList.drop (q + 1)) = partsL t.data.toList) :=
          Lib.hid ⟨by rw [List.length_append, List.length_singleton, hJ.out.1], ho2, by rw [← hj3, List.append_assoc]; rfl⟩
        have HB2 := Lib.hid (HBX.out.trans hb2)
        obtain ⟨n1, hn1⟩ : ∃ n1, n1 = n + 1 := ⟨_, rfl⟩
        rw [← hn1] at HR2 HJ2
        have hn1b : n1 ≤ q + 1 + 1 := by omega
        clear hJ hj3 hr2 ho2 hb2 hdn hx e2 hbyte hn1 hsz
        go_wp2_with (at_builtin; refine Lib.wpList_append_run _ rfl (.tmp 16) (.tmp 17) 108 108 rfl (.slice (some ⟨g, 0, none⟩) n c) (.slice (some ⟨wr.heap.size, 0, none⟩) 1 1) rfl rfl (.slice (some ⟨g2, 0, none⟩) n1 c2) w2 HR2.out ?_)
        go_roundw
        case rel => exact ⟨D ++ [cur], [], q + 1, n1, g2, c2, rfl, by go_num, by omega, Nat.zero_le _, hn1b, HB2.out, HJ2⟩
        case measure => simp [intOf]; omega
      · have d1 : ((((t[q]).toNat : Nat) : Int) == 47) = false := by
          refine beq_false_of_ne fun h => e2 ?_
          rw [hbyte]
          apply UInt8.toNat_inj.1
          show (t[q]).toNat = 47
          omega
        rw [partsF, if_neg e2] at hj3
        obtain ⟨p, hp⟩ : ∃ p, p = D.length := ⟨_, rfl⟩
        have hnp := hJ.out.1
        rw [← hp] at hnp
        have hpz : (n : Int) - 1 = (p : Int) := by omega
        have hpn : (p : Int) < (n : Int) := by omega
        have hown := hJ.out.2.1
        have hcell : wr.cell? ⟨g, p, none⟩ = some (.string (strP cur)) := by
          rw [World.ownsRow.cellAt hown p (by omega), List.getElem?_map, List.getElem?_append_right (by omega), hp, Nat.sub_self]
          rfl
        have hfrz : wr.frozen? ⟨g, p, none⟩ = false := World.ownsRow.frozenAt hown p
        have hst := (World.ownsRow.stored hown p (sv (cur ++ [x]))).1
        rw [hp, set_last, ← hp] at hst
        have hgB := (World.ownsRow.lt hown g rfl).1
        have hext := byte_ext t q e
        rw [← hx] at hext
        have hcat : strP cur ++ t.extract q (q + 1) = strP (cur ++ [x]) := by rw [hext, strP_app]
        obtain ⟨q1, hq1⟩ : ∃ q1, q1 = q + 1 := ⟨_, rfl⟩
        have hq1z : (q : Int) + 1 = (q1 : Int) := by omega
        have hq1a : (q : Int) ≤ (q1 : Int) := by omega
        have hq1b : (q1 : Int) ≤ (t.size : Int) := by omega
        rw [← hq1] at hcat hext hj3
        have hcs : (strP cur).size ≤ 4000000 := by rw [strP_size]; omega
        have hes : (t.extract q q1).size ≤ 1 := by rw [hext]; exact Nat.le_refl _
        have HCAT := Lib.hid hcat
        have HJ2 : Hid (n = D.length + 1 ∧ ((wr.setCell ⟨g, p, none⟩ (sv (cur ++ [x]))).ownsRow w.heap.size 9 1 (.slice (some ⟨g, 0, none⟩) n c) n ((D ++ [cur ++ [x]]).map sv)) ∧ D ++ partsF (cur ++ [x]) (t.data.toList.drop q1) = partsL t.data.toList) := Lib.hid ⟨by omega, hst, hj3⟩
        have HB2 := Lib.hid (HBX.out.setCell (p := ⟨g, p, none⟩) hgB (sv (cur ++ [x])))
        have hq1c : q1 ≤ t.size := by omega
        have hq1d : (cur ++ [x]).length ≤ q1 := by rw [List.length_append, List.length_singleton]; omega
        have hn1d : n ≤ q1 + 1 := by omega
        have hq1e : q1 - q = 1 := by omega
        have HQ1 := Lib.hid hq1
        clear hJ hj3 hdn hx e2 hbyte hsz hown hst hext hcat hp hnp hq1
        go_wp2_with fail
        go_region
        go_wp2_with fail
        rw [HCAT.out]
        go_roundw
        case rel => exact ⟨D, cur ++ [x], q1, n, g, c, rfl, by go_num, hq1c, hq1d, hn1d, HB2.out.drew, HJ2⟩
        case measure => simp [intOf]; omega
    · obtain rfl : q = t.size := by omega
      have hj3 := hJ.out.2.2
      rw [List.drop_of_length_le (by rw [HLL.out]; exact Nat.le_refl _), partsF] at hj3
      have hown := hJ.out.2.1
      obtain ⟨_, _, hv, hc1, hc2, _⟩ := own_slice hown
      have hcc : n ≤ c ∧ c ≤ maxLen := by
        cases hv
        exact ⟨hc1, hc2⟩
      have HF := Lib.hid (HP.out _ n c _ wr hj3 hcc.1 hcc.2 (sln_of_own hown) HBX.out)
      clear hJ hj3 hown hv hc1 hc2 hcc
      go_wp2_with fail
      exact HF.out
end Go.Proofs.YtdjmfkodjjjhfaaGreatDoor
/- The reference of paths: Clean, Check. Conditions: texts of at most a million bytes. Written ahead of stage 14. -/
namespace Go.Proofs.YtdjmfkodjjjhfaaGreatDoor
open Go.RowKit

theorem joinF_skip {p : List UInt8} (h : p = [] ∨ p = [46]) (O : List UInt8) (l : List (List UInt8)) : joinF O (p :: l) = joinF O l := if_pos h
theorem joinF_put {p : List UInt8} (h : ¬ (p = [] ∨ p = [46])) (O : List UInt8) (l : List (List UInt8)) : joinF O (p :: l) = joinF ((if O = [] then [] else O ++ [47]) ++ p) l := if_neg h
theorem list_drop (L : List (List UInt8)) (q : Nat) (h : q < L.length) : L.drop q = L.getD q [] :: L.drop (q + 1) := by
  rw [List.drop_eq_getElem_cons h, List.getD_eq_getElem?_getD, List.getElem?_eq_getElem h]
  rfl
theorem list_mem (L : List (List UInt8)) (q : Nat) (h : q < L.length) : L.getD q [] ∈ L := by
  rw [List.getD_eq_getElem?_getD, List.getElem?_eq_getElem h]
  exact List.getElem_mem h
theorem strP_toList (p : List UInt8) : (strP p).toList = p := by
  rw [ByteArray.toList_eq]
  rfl

set_option maxHeartbeats 3200000 in
set_option maxRecDepth 100000 in
theorem rclean_any (w : World) (t : ByteArray) (hs : t.size ≤ 4000000) : Calls Tryz.prog 42 #[.string t] w fun e w' => e = .returned (.tuple #[.string (strP (cleanL t.data.toList).1), .int .i64 (cleanL t.data.toList).2]) ∧ Below w.heap.size w w' := by
  have hll : t.data.toList.length = t.size := rfl
  have HLL := Lib.hid hll
  have HPA := Lib.hid (rparts_any w t hs)
  have hmem := partsF_mem t.data.toList []
  have HP : Hid (∀ (X : List UInt8) (k : Nat) (w' : World), cleanL t.data.toList = (X, k) → Below w.heap.size w w' → (fun e w' => e = Ending.returned (.tuple #[.string (strP (cleanL t.data.toList).1), .int .i64 (cleanL t.data.toList).2]) ∧ Below w.heap.size w w') (.returned (.tuple #[.string (strP X), .int .i64 k])) w') := Lib.hid fun X k w' h hb => ⟨by rw [h], hb⟩
  generalize (fun e w' => e = Ending.returned (.tuple #[.string (strP (cleanL t.data.toList).1), .int .i64 (cleanL t.data.toList).2]) ∧ Below w.heap.size w w') = PO at *
  have hclean : cleanL t.data.toList = if [46, 46] ∈ partsL t.data.toList then ([], 140)
    else if ¬ ∀ c ∈ t.data.toList, okB c then ([], 140)
    else if joinF [] (partsL t.data.toList) = [] ∨ 120 < (joinF [] (partsL t.data.toList)).length then ([], 140)
    else (joinF [] (partsL t.data.toList), 0) := rfl
  have hmem2 : ∀ p ∈ partsL t.data.toList, p.length ≤ 4000000 := fun p hp => by
    have := hmem p hp
    rw [List.length_nil, hll] at this
    omega
  have hlenL : (partsL t.data.toList).length ≤ 4000001 := by
    have := partsF_len t.data.toList []
    unfold partsL
    omega
  obtain ⟨L, hL⟩ : ∃ L, L = partsL t.data.toList := ⟨_, rfl⟩
  rw [← hL] at HPA hclean hmem2 hlenL
  have HCL := Lib.hid hclean
  have HMEM := Lib.hid hmem2
  have HLN := Lib.hid hlenL
  clear hll hmem hclean hmem2 hlenL hL
  go_enter Tryz.func42, Tryz.ntmps42
  go_wp2_with fail
  refine HPA.out.mono ?_
  rintro e w2 ⟨A, n, c, rfl, hnc, hcm, hsl, hb2⟩
  have HSL := Lib.hid hsl
  have HB2 := Lib.hid hb2
  have HLEN := Lib.hid hsl.1
  have hn1 : n ≤ 4000001 := by rw [← hsl.1]; exact HLN.out
  unfold maxLen at hcm
  clear hsl hb2
  go_wp2_with fail
  go_loopw [4, 6] (fun so si wx => ∃ (O : List UInt8) (q : Nat), so = .string (strP O) ∧ si = .int .i64 q ∧ q ≤ n ∧ O.length ≤ 4000001 * q ∧ wx = w2 ∧
    Hid ((∀ j, j < q → L.getD j [] ≠ [46, 46]) ∧ joinF O (L.drop q) = joinF [] L)) (fun _ si _ => n - (intOf si).toNat)
  case atStart => exact ⟨[], 0, rfl, rfl, Nat.zero_le _, Nat.le_refl _, rfl, Lib.hid ⟨fun j hj => by omega, rfl⟩⟩
  case round =>
    obtain ⟨O, q, rfl, rfl, hq, hO, rfl, hJ⟩ := hrel
    by_cases e : q < n
    · have d0 : decide ((q : Int) < (n : Int)) = true := decide_eq_true (by omega)
      have hqL : q < L.length := by rw [HLEN.out]; exact e
      obtain ⟨b, off, rfl, hc⟩ := HSL.out.2 (by omega)
      have hcell0 := hc q e
      have hjq := hJ.out.2
      rw [list_drop L q hqL] at hjq
      have hPm := HMEM.out _ (list_mem L q hqL)
      have hmemq := list_mem L q hqL
      have hno := hJ.out.1
      obtain ⟨P, hP⟩ : ∃ P, P = L.getD q [] := ⟨_, rfl⟩
      rw [← hP] at hcell0 hjq hPm hmemq
      have hcell : wr.cell? ⟨b, off + q, none⟩ = some (.string (strP P)) := hcell0
      have HT := Lib.hid (strP_toList P)
      have HTO := Lib.hid (strP_toList O)
      have hOs : (strP O).size ≤ 4000001 * 4000001 := by
        rw [strP_size]
        exact Nat.le_trans hO (Nat.mul_le_mul_left _ (by omega))
      have hPs : (strP P).size ≤ 4000000 := by rw [strP_size]; exact hPm
      have HNO := Lib.hid hno
      have HJQ := Lib.hid hjq
      have HPE := Lib.hid hP
      clear hc hJ hno hjq hP hcell0
      by_cases e2 : P = [46, 46]
      · have d1 : ((strP P).toList == [46, 46]) = true := by rw [HT.out, e2]; rfl
        have HF := Lib.hid (HP.out [] 140 wr (by rw [HCL.out, if_pos (by rw [← e2]; exact hmemq)]) HB2.out)
        clear e2 hmemq
        go_wp2_with fail
        exact HF.out
      · have d1 : ((strP P).toList == [46, 46]) = false := by rw [HT.out]; exact beq_false_of_ne e2
        have HNO2 := Lib.hid (show ∀ j, j < q + 1 → L.getD j [] ≠ [46, 46] from fun j hj => by
          by_cases ej : j = q
          · rw [ej, ← HPE.out]
            exact e2
          · exact HNO.out j (by omega))
        clear hmemq HNO HPE e2
        by_cases e3 : P = []
        · have HJ3 := Lib.hid ((joinF_skip (.inl e3) O (L.drop (q + 1))).symm.trans HJQ.out)
          have d2 : (strP P).toList.isEmpty = true := by rw [HT.out, e3]; rfl
          clear HJQ hPm e3
          go_wp2_with fail
          go_roundw
          case rel => exact ⟨O, q + 1, rfl, by go_num, by omega, by omega, by first | rfl | trivial, Lib.hid ⟨HNO2.out, HJ3.out⟩⟩
          case measure => simp [intOf]; omega
        · have d2 : (strP P).toList.isEmpty = false := by
            rw [HT.out]
            cases P with
            | nil => exact absurd rfl e3
            | cons x l => rfl
          by_cases e4 : P = [46]
          · have HJ3 := Lib.hid ((joinF_skip (.inr e4) O (L.drop (q + 1))).symm.trans HJQ.out)
            have d3 : ((strP P).toList == [46]) = true := by rw [HT.out, e4]; rfl
            clear HJQ hPm e3 e4
            go_wp2_with fail
            go_roundw
            case rel => exact ⟨O, q + 1, rfl, by go_num, by omega, by omega, by first | rfl | trivial, Lib.hid ⟨HNO2.out, HJ3.out⟩⟩
            case measure => simp [intOf]; omega
          · have HJ3 := Lib.hid ((joinF_put (fun h => h.elim e3 e4) O (L.drop (q + 1))).symm.trans HJQ.out)
            have d3 : ((strP P).toList == [46]) = false := by rw [HT.out]; exact beq_false_of_ne e4
            have HLP := Lib.hid hPm
            clear HJQ hPm e3 e4
            by_cases e5 : O = []
            · have HJ4 := HJ3.out
              rw [if_pos e5, List.nil_append] at HJ4
              have HJ5 := Lib.hid HJ4
              have d4 : (strP O).toList.isEmpty = true := by rw [HTO.out, e5]; rfl
              have HE5 := Lib.hid e5
              clear HJ4 HJ3 e5
              go_wp2_with fail
              go_roundw
              case rel => exact ⟨P, q + 1, by rw [HE5.out, strP_app, List.nil_append], by go_num, by omega, by have := HLP.out; omega, by first | rfl | trivial, Lib.hid ⟨HNO2.out, HJ5.out⟩⟩
              case measure => simp [intOf]; omega
            · have HJ4 := HJ3.out
              rw [if_neg e5] at HJ4
              have HJ5 := Lib.hid HJ4
              have d4 : (strP O).toList.isEmpty = false := by
                rw [HTO.out]
                cases O with
                | nil => exact absurd rfl e5
                | cons x l => rfl
              have hc1 : (strP O ++ (⟨#[47]⟩ : ByteArray)).size ≤ 4000001 * 4000001 + 1 := by
                rw [ByteArray.size_append]
                exact Nat.add_le_add_right hOs 1
              clear HJ4 HJ3 e5
              go_wp2_with fail
              go_roundw
              case rel => exact ⟨O ++ [47] ++ P, q + 1, by rw [← strP_app, ← strP_app]; rfl, by go_num, by omega, by rw [List.length_append, List.length_append, List.length_singleton]; have := HLP.out; omega, by first | rfl | trivial, Lib.hid ⟨HNO2.out, HJ5.out⟩⟩
              case measure => simp [intOf]; omega
    · obtain rfl : q = n := by omega
      have hjq := hJ.out.2
      rw [List.drop_of_length_le (by rw [HLEN.out]; exact Nat.le_refl _), joinF] at hjq
      have hno : ¬ [46, 46] ∈ L := fun h => by
        obtain ⟨j, hj, e2⟩ := List.getElem_of_mem h
        refine hJ.out.1 j (by rw [← HLEN.out]; exact hj) ?_
        rw [List.getD_eq_getElem?_getD, List.getElem?_eq_getElem hj]
        exact e2
      have hcl := HCL.out
      rw [if_neg hno, ← hjq] at hcl
      have HCL2 := Lib.hid hcl
      have HTO := Lib.hid (strP_toList O)
      have hOs : (strP O).size ≤ 4000001 * 4000001 := by
        rw [strP_size]
        exact Nat.le_trans hO (Nat.mul_le_mul_left _ (by omega))
      have hsO : (strP O).size = O.length := rfl
      have HSO := Lib.hid hsO
      clear hJ hjq hno hcl HCL HMEM HLN HLEN HSL hsO
      go_wp2_with fail
      go_loopw [7] (fun si wx => ∃ k : Nat, si = .int .i64 k ∧ k ≤ t.size ∧ wx = wr ∧ Hid (∀ j, j < k → okB (t.data.toList.getD j 0))) (fun si _ => t.size - (intOf si).toNat)
      case atStart => exact ⟨0, rfl, Nat.zero_le _, rfl, Lib.hid fun j hj => by omega⟩
      case round =>
        obtain ⟨k, rfl, hk, rfl, hok⟩ := hrel
        by_cases e : k < t.size
        · have d0 : decide ((k : Int) < (t.size : Int)) = true := decide_eq_true (by omega)
          have hkz : (k : Int) < t.size := by omega
          have hby := byte_at t k e
          have bad : ¬ okB (t[k]) → (cleanL t.data.toList = ([], 140)) := fun h => by
            rw [HCL2.out, if_pos]
            intro h2
            refine h (h2 _ ?_)
            rw [← hby, List.getD_eq_getElem?_getD, List.getElem?_eq_getElem (by show k < t.size; exact e)]
            exact List.getElem_mem _
          by_cases e2 : (t[k]).toNat < 32
          · have d1 : decide (((t[k]).toNat : Int) < 32) = true := decide_eq_true (by omega)
            have HF := Lib.hid (HP.out [] 140 wr (bad fun h => by have := h.1; omega) HB2.out)
            clear bad hby hok
            go_wp2_with fail
            exact HF.out
          · have d1 : decide (((t[k]).toNat : Int) < 32) = false := decide_eq_false (by omega)
            by_cases e3 : 126 < (t[k]).toNat
            · have d2 : decide ((126 : Int) < ((t[k]).toNat : Int)) = true := decide_eq_true (by omega)
              have HF := Lib.hid (HP.out [] 140 wr (bad fun h => by have := h.2; omega) HB2.out)
              clear bad hby hok
              go_wp2_with fail
              exact HF.out
            · have d2 : decide ((126 : Int) < ((t[k]).toNat : Int)) = false := decide_eq_false (by omega)
              have HO := Lib.hid (show ∀ j, j < k + 1 → okB (t.data.toList.getD j 0) from fun j hj => by
                by_cases ej : j = k
                · rw [ej, hby]
                  exact ⟨by omega, by omega⟩
                · exact hok.out j (by omega))
              clear bad hby hok
              go_wp2_with fail
              go_roundw
              case rel => exact ⟨k + 1, by go_num, by omega, by first | rfl | trivial, HO⟩
              case measure => simp [intOf]; omega
        · have d0 : decide ((k : Int) < (t.size : Int)) = false := decide_eq_false (by omega)
          have hall : ∀ c ∈ t.data.toList, okB c := fun c hc => by
            obtain ⟨j, hj, e2⟩ := List.getElem_of_mem hc
            have hjs : j < t.size := hj
            have h := hok.out j (by omega)
            rw [List.getD_eq_getElem?_getD, List.getElem?_eq_getElem hj] at h
            rw [← e2]
            exact h
          have hcl := HCL2.out
          rw [if_neg (not_not_intro hall)] at hcl
          by_cases e2 : O = []
          · have d1 : (strP O).toList.isEmpty = true := by rw [HTO.out, e2]; rfl
            have HF := Lib.hid (HP.out [] 140 wr (by rw [hcl, if_pos (.inl e2)]) HB2.out)
            clear hcl hall hok e2
            go_wp2_with fail
            exact HF.out
          · have d1 : (strP O).toList.isEmpty = false := by
              rw [HTO.out]
              cases O with
              | nil => exact absurd rfl e2
              | cons x l => rfl
            by_cases e3 : 120 < O.length
            · have d2 : decide ((120 : Int) < ((strP O).size : Int)) = true := decide_eq_true (by rw [HSO.out]; omega)
              have HF := Lib.hid (HP.out [] 140 wr (by rw [hcl, if_pos (.inr e3)]) HB2.out)
              clear hcl hall hok e2
              go_wp2_with fail
              exact HF.out
            · have d2 : decide ((120 : Int) < ((strP O).size : Int)) = false := decide_eq_false (by rw [HSO.out]; omega)
              have HF := Lib.hid (HP.out O 0 wr (by rw [hcl, if_neg (fun h => h.elim e2 e3)]) HB2.out)
              clear hcl hall hok e2
              go_wp2_with fail
              exact HF.out

set_option maxHeartbeats 1600000 in
set_option maxRecDepth 100000 in
theorem rcheck_any (w : World) (t : ByteArray) (hs : t.size ≤ 4000000) : Calls Tryz.prog 30 #[.string t] w fun e w' => e = .returned (.int .i64 (checkL t.data.toList)) ∧ Below w.heap.size w w' := by
  have HC := Lib.hid (rclean_any w t hs)
  have HK : Hid (checkL t.data.toList = if (cleanL t.data.toList).2 ≠ 0 ∨ (cleanL t.data.toList).1 ≠ t.data.toList then 140 else 0) := Lib.hid rfl
  have hst := strP_self t
  generalize cleanL t.data.toList = ans at *
  obtain ⟨X, k⟩ := ans
  dsimp only at HC HK
  have HP : Hid (∀ (k : Nat) (w' : World), checkL t.data.toList = k → Below w.heap.size w w' → (fun e w' => e = Ending.returned (.int .i64 (checkL t.data.toList)) ∧ Below w.heap.size w w') (.returned (.int .i64 k)) w') := Lib.hid fun k w' h hb => ⟨by rw [h], hb⟩
  generalize (fun e w' => e = Ending.returned (.int .i64 (checkL t.data.toList)) ∧ Below w.heap.size w w') = PO at *
  generalize checkL t.data.toList = ck at *
  have hne : X ≠ t.data.toList → ((strP X).toList == t.toList) = false := fun h => by
    rw [same_text, decide_eq_false]
    exact h
  have hyes : X = t.data.toList → strP X = t := fun h => by rw [h, hst]
  clear hst
  by_cases e : k ≠ 0
  · have d0 : ((k : Int) != 0) = true := by
      rw [bne_iff_ne]
      omega
    have hk := HK.out
    rw [if_pos (.inl e)] at hk
    have HKK := Lib.hid hk
    clear hk hne hyes e
    go_enter Tryz.func30, Tryz.ntmps30
    go_wp2_with fail
    refine HC.out.mono ?_
    rintro e w2 ⟨rfl, hb2⟩
    have HF := Lib.hid (HP.out 140 w2 HKK.out hb2)
    clear hb2
    go_wp2_with fail
    exact HF.out
  · have d0 : ((k : Int) != 0) = false := by
      rw [bne_eq_false_iff_eq]
      omega
    by_cases e2 : X = t.data.toList
    · have hst := hyes e2
      have hk := HK.out
      rw [if_neg (fun h => h.elim e (not_not_intro e2))] at hk
      have HKK := Lib.hid hk
      rw [hst] at HC
      clear hk hne hyes e e2 hst HK
      go_enter Tryz.func30, Tryz.ntmps30
      go_wp2_with fail
      refine HC.out.mono ?_
      rintro e w2 ⟨rfl, hb2⟩
      have HF := Lib.hid (HP.out 0 w2 HKK.out hb2)
      clear hb2
      go_wp2_with fail
      exact HF.out
    · have hst := hne e2
      have hst2 : ((strP X).toList != t.toList) = true := by
        rw [bne, hst]
        rfl
      have hk := HK.out
      rw [if_pos (.inr e2)] at hk
      have HKK := Lib.hid hk
      clear hk hne hyes e e2 HK
      generalize strP X = Y at *
      go_enter Tryz.func30, Tryz.ntmps30
      go_wp2_with fail
      refine HC.out.mono ?_
      rintro e w2 ⟨rfl, hb2⟩
      have HF := Lib.hid (HP.out 140 w2 HKK.out hb2)
      clear hb2
      go_wp2_with fail
      exact HF.out
end Go.Proofs.YtdjmfkodjjjhfaaGreatDoor
/- The reference of paths: Cmp, Split, Under. Conditions: for Cmp texts of at most a million bytes. Written ahead of stage 14. -/
namespace Go.Proofs.YtdjmfkodjjjhfaaGreatDoor
open Go.RowKit

theorem cmpF_step (X Y : List (List UInt8)) (q : Nat) (hx : q < X.length) (hy : q < Y.length) : cmpF (X.drop q) (Y.drop q) = if X.getD q [] < Y.getD q [] then -1 else if Y.getD q [] < X.getD q [] then 1 else cmpF (X.drop (q + 1)) (Y.drop (q + 1)) := by
  rw [list_drop X q hx, list_drop Y q hy, cmpF]
theorem SLn.drewN {w : World} {A : Option Addr} {n : Nat} {L : List (List UInt8)} (h : SLn w A n L) (k : Nat) : SLn (w.drewN k) A n L := h

set_option maxHeartbeats 3200000 in
set_option maxRecDepth 100000 in
theorem rcmpp_any (w : World) (a b : ByteArray) (ha : a.size ≤ 4000000) (hb : b.size ≤ 4000000) : Calls Tryz.prog 49 #[.string a, .string b] w fun e w' => e = .returned (.int .i64 (cmpL a.data.toList b.data.toList)) ∧ Below w.heap.size w w' := by
  have HPA := Lib.hid (rparts_any w a ha)
  have HPB := Lib.hid fun wx => rparts_any wx b hb
  have hxl := partsF_len a.data.toList []
  have hyl := partsF_len b.data.toList []
  have hla : a.data.toList.length = a.size := rfl
  have hlb : b.data.toList.length = b.size := rfl
  have HP : Hid (∀ (k : Int) (w' : World), cmpL a.data.toList b.data.toList = k → Below w.heap.size w w' → (fun e w' => e = Ending.returned (.int .i64 (cmpL a.data.toList b.data.toList)) ∧ Below w.heap.size w w') (.returned (.int .i64 k)) w') := Lib.hid fun k w' h hb => ⟨by rw [h], hb⟩
  generalize (fun e w' => e = Ending.returned (.int .i64 (cmpL a.data.toList b.data.toList)) ∧ Below w.heap.size w w') = PO at *
  have hdef : cmpL a.data.toList b.data.toList = cmpF (partsL a.data.toList) (partsL b.data.toList) := rfl
  rw [hdef] at HP
  obtain ⟨X, hX⟩ : ∃ X, X = partsL a.data.toList := ⟨_, rfl⟩
  obtain ⟨Y, hY⟩ : ∃ Y, Y = partsL b.data.toList := ⟨_, rfl⟩
  have hxl : X.length ≤ 4000001 := by rw [hX]; unfold partsL; omega
  have hyl : Y.length ≤ 4000001 := by rw [hY]; unfold partsL; omega
  rw [← hX, ← hY] at HP
  rw [← hX] at HPA
  rw [← hY] at HPB
  clear hdef hX hY hla hlb ha hb
  go_enter Tryz.func49, Tryz.ntmps49
  go_wp2_with fail
  refine HPA.out.mono ?_
  rintro e w2 ⟨A, n, c, rfl, hnc, hcm, hsx, hb2⟩
  have HSX := Lib.hid hsx
  have HB2 := Lib.hid hb2
  have hn : n ≤ 4000001 := by rw [← hsx.1]; exact hxl
  have HLX := Lib.hid hsx.1
  unfold maxLen at hcm
  clear hsx hb2 HPA
  go_wp2_with fail
  refine (HPB.out w2).mono ?_
  rintro e w3 ⟨B, m, d, rfl, hmd, hdm, hsy, hb3⟩
  have HSX3 := Lib.hid (HSX.out.below hb3)
  have HSY := Lib.hid hsy
  have HB3 := Lib.hid (HB2.out.trans (hb3.mono HB2.out.size))
  have hm : m ≤ 4000001 := by rw [← hsy.1]; exact hyl
  have HLY := Lib.hid hsy.1
  unfold maxLen at hdm
  clear hsy hb3 HPB HSX HB2 hxl hyl
  go_wp2_with fail
  go_loopw [7] (fun si wx => ∃ q : Nat, si = .int .i64 q ∧ q ≤ n ∧ q ≤ m ∧ (∃ j, wx = w3.drewN j) ∧ Hid (cmpF (X.drop q) (Y.drop q) = cmpF X Y)) (fun si _ => n - (intOf si).toNat)
  case atStart => exact ⟨0, rfl, Nat.zero_le _, Nat.zero_le _, ⟨0, rfl⟩, Lib.hid rfl⟩
  case round =>
    obtain ⟨q, rfl, hqn, hqm, ⟨j, rfl⟩, hJ⟩ := hrel
    have HBJ := Lib.hid (below_drewN HB3.out j)
    have HSXJ := Lib.hid (HSX3.out.drewN j)
    have HSYJ := Lib.hid (HSY.out.drewN j)
    generalize hwj : w3.drewN j = w4 at *
    have HWJ := Lib.hid hwj
    clear hwj
    by_cases e1 : q < n
    · have d1 : decide ((q : Int) < (n : Int)) = true := decide_eq_true (by omega)
      by_cases e2 : q < m
      · have d2 : decide ((q : Int) < (m : Int)) = true := decide_eq_true (by omega)
        obtain ⟨b1, o1, rfl, hc1⟩ := HSXJ.out.2 (by omega)
        obtain ⟨b2, o2, rfl, hc2⟩ := HSYJ.out.2 (by omega)
        have c1 := hc1 q e1
        have c2 := hc2 q e2
        have hst := cmpF_step X Y q (by rw [HLX.out]; exact e1) (by rw [HLY.out]; exact e2)
        rw [hJ.out] at hst
        obtain ⟨x, hx⟩ : ∃ x, x = X.getD q [] := ⟨_, rfl⟩
        obtain ⟨y, hy⟩ : ∃ y, y = Y.getD q [] := ⟨_, rfl⟩
        rw [← hx] at c1 hst
        rw [← hy] at c2 hst
        have l1 := less_text (strP x) (strP y)
        have l2 := less_text (strP y) (strP x)
        have l3 := same_text (strP x) (strP y)
        rw [strP_list, strP_list] at l1 l2 l3
        unfold sv at c1 c2
        have HST := Lib.hid hst
        clear hc1 hc2 hJ hst hx hy
        by_cases e3 : x < y
        · rw [decide_eq_true e3] at l1
          have HF := Lib.hid fun w' (hb : Below w.heap.size w w') => HP.out (-1) w' (by rw [HST.out, if_pos e3]) hb
          generalize strP x = sx at *
          generalize strP y = sy at *
          clear e3 HST HP
          go_wp2_with fail
          go_region
          go_wp2_with fail
          exact HF.out _ HBJ.out.drew
        · rw [decide_eq_false e3] at l1
          by_cases e4 : y < x
          · rw [decide_eq_true e4] at l2
            rw [decide_eq_false (fun h : x = y => by rw [h] at e4; exact absurd e4 (List.lt_irrefl _))] at l3
            have HF := Lib.hid fun w' (hb : Below w.heap.size w w') => HP.out 1 w' (by rw [HST.out, if_neg e3, if_pos e4]) hb
            generalize strP x = sx at *
            generalize strP y = sy at *
            clear e3 e4 HST HP
            go_wp2_with fail
            go_region
            go_wp2_with fail
            go_region
            go_wp2_with fail
            exact HF.out _ HBJ.out.drew.drew
          · rw [decide_eq_false e4] at l2
            rw [decide_eq_true (List.le_antisymm (List.not_lt.1 e4) (List.not_lt.1 e3))] at l3
            have HJ2 := Lib.hid (show cmpF (X.drop (q + 1)) (Y.drop (q + 1)) = cmpF X Y by rw [HST.out, if_neg e3, if_neg e4])
            generalize strP x = sx at *
            generalize strP y = sy at *
            clear e3 e4 HST
            go_wp2_with fail
            go_region
            go_wp2_with fail
            go_region
            go_wp2_with fail
            go_roundw
            case rel => exact ⟨q + 1, by go_num, by omega, by omega, ⟨j + 2, by rw [← HWJ.out]; rfl⟩, HJ2⟩
            case measure => simp [intOf]; omega
      · obtain rfl : q = m := by omega
        have d2 : decide ((q : Int) < (q : Int)) = false := decide_eq_false (by omega)
        have d2n : ¬ q < q := e2
        have d3 : decide ((n : Int) < (q : Int)) = false := decide_eq_false (by omega)
        have d4 : decide ((q : Int) < (n : Int)) = true := d1
        have hj := hJ.out
        rw [list_drop X q (by rw [HLX.out]; exact e1), List.drop_of_length_le (l := Y) (by rw [HLY.out]; exact Nat.le_refl _), cmpF] at hj
        have HF := Lib.hid (HP.out 1 w4 hj.symm HBJ.out)
        have d3n : ¬ n < q := by omega
        clear hj hJ
        go_wp2_with fail
        exact HF.out
    · obtain rfl : q = n := by omega
      have d1 : decide ((q : Int) < (q : Int)) = false := decide_eq_false (by omega)
      have hj := hJ.out
      rw [List.drop_of_length_le (l := X) (by rw [HLX.out]; exact Nat.le_refl _)] at hj
      by_cases e2 : q < m
      · have d2 : decide ((q : Int) < (m : Int)) = true := decide_eq_true (by omega)
        rw [list_drop Y q (by rw [HLY.out]; exact e2), cmpF] at hj
        have HF := Lib.hid (HP.out (-1) w4 hj.symm HBJ.out)
        clear hj hJ
        go_wp2_with fail
        exact HF.out
      · obtain rfl : q = m := by omega
        rw [List.drop_of_length_le (l := Y) (by rw [HLY.out]; exact Nat.le_refl _), cmpF] at hj
        have HF := Lib.hid (HP.out 0 w4 hj.symm HBJ.out)
        clear hj hJ
        go_wp2_with fail
        exact HF.out

theorem extract_take (t : ByteArray) (k : Nat) : t.extract 0 k = strP (t.data.toList.take k) := by
  apply ByteArray.ext
  apply Array.toList_inj.1
  rw [ext_list, List.drop_zero]
  rfl
theorem extract_drop (t : ByteArray) (k : Nat) : t.extract k t.size = strP (t.data.toList.drop k) := by
  apply ByteArray.ext
  apply Array.toList_inj.1
  rw [ext_list, List.take_of_length_le (show t.data.toList.length ≤ t.size from Nat.le_refl _)]
  rfl
theorem splitF_no {p : List UInt8} {k i : Nat} (h : ¬ okAt p i) : splitF p (k + 1) i = splitF p k (i + 1) := if_neg h
theorem splitF_yes {p : List UInt8} {k i : Nat} (h : okAt p i) : splitF p (k + 1) i = (p.take i, p.drop (i + 1), true) := if_pos h
set_option maxHeartbeats 3200000 in
set_option maxRecDepth 100000 in
theorem rsplit_any (w : World) (p : ByteArray) (hp : p.size ≤ 9223372036854775807) : Calls Tryz.prog 31 #[.string p] w fun e w' => e = .returned (.tuple #[.string (strP (splitL p.data.toList).1), .string (strP (splitL p.data.toList).2.1), .bool (splitL p.data.toList).2.2]) ∧ Below w.heap.size w w' := by
  have hlp : p.data.toList.length = p.size := rfl
  have hself := strP_self p
  have hsp : splitL p.data.toList = if p.size ≤ 100 then ([], p.data.toList, true) else splitF p.data.toList p.size 0 := rfl
  have HP : Hid (∀ (x y : List UInt8) (b : Bool) (w' : World), splitL p.data.toList = (x, y, b) → Below w.heap.size w w' → (fun e w' => e = Ending.returned (.tuple #[.string (strP (splitL p.data.toList).1), .string (strP (splitL p.data.toList).2.1), .bool (splitL p.data.toList).2.2]) ∧ Below w.heap.size w w') (.returned (.tuple #[.string (strP x), .string (strP y), .bool b])) w') := Lib.hid fun x y b w' h hb => ⟨by rw [h], hb⟩
  generalize (fun e w' => e = Ending.returned (.tuple #[.string (strP (splitL p.data.toList).1), .string (strP (splitL p.data.toList).2.1), .bool (splitL p.data.toList).2.2]) ∧ Below w.heap.size w w') = PO at *
  generalize splitL p.data.toList = S at *
  by_cases e0 : p.size ≤ 100
  · have d0 : decide ((p.size : Int) ≤ 100) = true := decide_eq_true (by omega)
    rw [if_pos e0] at hsp
    have HF := Lib.hid (HP.out _ _ _ w hsp (Below.refl _ _))
    rw [hself] at HF
    clear hsp hself hlp
    go_enter Tryz.func31, Tryz.ntmps31
    go_wp2_with fail
    go_ret3
    exact HF.out
  · have d0 : decide ((p.size : Int) ≤ 100) = false := decide_eq_false (by omega)
    rw [if_neg e0] at hsp
    have HSP := Lib.hid hsp
    have HLP := Lib.hid hlp
    clear hsp hself hlp e0
    go_enter Tryz.func31, Tryz.ntmps31
    go_wp2_with fail
    go_loopw [5] (fun si wx => ∃ q : Nat, si = .int .i64 q ∧ q ≤ p.size ∧ wx = w ∧ Hid (S = splitF p.data.toList (p.size - q) q)) (fun si _ => p.size - (intOf si).toNat)
    case atStart => exact ⟨0, rfl, Nat.zero_le _, rfl, Lib.hid HSP.out⟩
    case round =>
      obtain ⟨q, rfl, hq, rfl, hJ⟩ := hrel
      by_cases e : q < p.size
      · have dq : decide ((q : Int) < (p.size : Int)) = true := decide_eq_true (by omega)
        have hqz : (q : Int) < p.size := by omega
        obtain ⟨k, hk⟩ : ∃ k, p.size - q = k + 1 := ⟨p.size - q - 1, by omega⟩
        have hj := hJ.out
        rw [hk] at hj
        have hby := byte_at p q e
        obtain ⟨b1, hb1⟩ : ∃ b1, b1 = p.size - q := ⟨_, rfl⟩
        obtain ⟨b2, hb2⟩ : ∃ b2, b2 = p.size - q - 1 := ⟨_, rfl⟩
        have hb1z : (p.size : Int) - (q : Int) = (b1 : Int) := by omega
        have hb2z : (b1 : Int) - 1 = (b2 : Int) := by omega
        have HJ := Lib.hid hj
        have HK := Lib.hid hk
        have HB2 := Lib.hid hb2
        have hok : okAt p.data.toList q ↔ (p[q]).toNat = 47 ∧ 1 ≤ q ∧ q ≤ 155 ∧ 1 ≤ b2 ∧ b2 ≤ 100 := by
          unfold okAt
          rw [hby, HLP.out]
          omega
        have HOK := Lib.hid hok
        clear hj hk hb1 hb2 hJ hok hby
        have no : ¬ okAt p.data.toList q → S = splitF p.data.toList (p.size - (q + 1)) (q + 1) := fun h => by
          rw [HJ.out, splitF_no h, show p.size - (q + 1) = k by have := HK.out; omega]
        by_cases g1 : (p[q]).toNat = 47
        · have f1 : ((((p[q]).toNat : Nat) : Int) == 47) = true := beq_iff_eq.2 (by omega)
          by_cases g2 : 1 ≤ q
          · have f2 : decide ((1 : Int) ≤ (q : Int)) = true := decide_eq_true (by omega)
            by_cases g3 : q ≤ 155
            · have f3 : decide ((q : Int) ≤ 155) = true := decide_eq_true (by omega)
              by_cases g4 : 1 ≤ b2
              · have f4 : decide ((1 : Int) ≤ (b2 : Int)) = true := decide_eq_true (by omega)
                by_cases g5 : b2 ≤ 100
                · have f5 : decide ((b2 : Int) ≤ 100) = true := decide_eq_true (by omega)
                  have hy := splitF_yes (k := k) (HOK.out.2 ⟨g1, g2, g3, g4, g5⟩)
                  have HF := Lib.hid fun w' (hb : Below wr.heap.size wr w') => HP.out _ _ _ w' (HJ.out.trans hy) hb
                  rw [← extract_take, ← extract_drop] at HF
                  obtain ⟨q1, hq1⟩ : ∃ q1, q1 = q + 1 := ⟨_, rfl⟩
                  have hq1z : (q : Int) + 1 = (q1 : Int) := by omega
                  have hq1b : (q1 : Int) ≤ (p.size : Int) := by omega
                  rw [← hq1] at HF
                  clear no hq1 hy g1
                  go_wp2_with fail
                  go_region
                  go_wp2_with fail
                  go_ret3
                  exact HF.out _ ((Below.refl _ _).drew)
                · have f5 : decide ((b2 : Int) ≤ 100) = false := decide_eq_false (by omega)
                  have HN := Lib.hid (no fun h => g5 (HOK.out.1 h).2.2.2.2)
                  clear no g1
                  go_wp2_with fail
                  go_roundw
                  case rel => exact ⟨q + 1, by go_num, by omega, by first | rfl | trivial, HN⟩
                  case measure => simp [intOf]; omega
              · have f4 : decide ((1 : Int) ≤ (b2 : Int)) = false := decide_eq_false (by omega)
                have HN := Lib.hid (no fun h => g4 (HOK.out.1 h).2.2.2.1)
                clear no g1
                go_wp2_with fail
                go_roundw
                case rel => exact ⟨q + 1, by go_num, by omega, by first | rfl | trivial, HN⟩
                case measure => simp [intOf]; omega
            · have f3 : decide ((q : Int) ≤ 155) = false := decide_eq_false (by omega)
              have HN := Lib.hid (no fun h => g3 (HOK.out.1 h).2.2.1)
              clear no g1
              go_wp2_with fail
              go_roundw
              case rel => exact ⟨q + 1, by go_num, by omega, by first | rfl | trivial, HN⟩
              case measure => simp [intOf]; omega
          · have f2 : decide ((1 : Int) ≤ (q : Int)) = false := decide_eq_false (by omega)
            have HN := Lib.hid (no fun h => g2 (HOK.out.1 h).2.1)
            clear no g1
            go_wp2_with fail
            go_roundw
            case rel => exact ⟨q + 1, by go_num, by omega, by first | rfl | trivial, HN⟩
            case measure => simp [intOf]; omega
        · have f1 : ((((p[q]).toNat : Nat) : Int) == 47) = false := beq_false_of_ne (by omega)
          have HN := Lib.hid (no fun h => g1 (HOK.out.1 h).1)
          clear no g1
          go_wp2_with fail
          go_roundw
          case rel => exact ⟨q + 1, by go_num, by omega, by first | rfl | trivial, HN⟩
          case measure => simp [intOf]; omega
      · obtain rfl : q = p.size := by omega
        have hj := hJ.out
        rw [Nat.sub_self, splitF] at hj
        have HF := Lib.hid (HP.out [] [] false wr hj (Below.refl _ _))
        clear hj hJ
        go_wp2_with fail
        go_ret3
        exact HF.out
end Go.Proofs.YtdjmfkodjjjhfaaGreatDoor
/- Paths: plain: one form, one order. Written ahead of stage 14. -/
namespace Go.Proofs.YtdjmfkodjjjhfaaGreatDoor
open Go.RowKit

/-- Parts with slashes between. -/
def joinS : List (List UInt8) → List UInt8
  | [] => []
  | p :: l => p ++ l.flatMap fun q => 47 :: q
def kept (l : List (List UInt8)) : List (List UInt8) := l.filter fun q => decide (¬ (q = [] ∨ q = [46]))
set_option maxRecDepth 100000 in
theorem kept_no {p : List UInt8} (h : p = [] ∨ p = [46]) (l : List (List UInt8)) : kept (p :: l) = kept l := by
  unfold kept
  rw [List.filter_cons_of_neg (by simp [h])]
set_option maxRecDepth 100000 in
theorem kept_yes {p : List UInt8} (h : ¬ (p = [] ∨ p = [46])) (l : List (List UInt8)) : kept (p :: l) = p :: kept l := by
  unfold kept
  rw [List.filter_cons_of_pos (by simp [h])]
theorem kept_mem {l : List (List UInt8)} {q : List UInt8} (h : q ∈ kept l) : q ∈ l ∧ ¬ (q = [] ∨ q = [46]) := by
  unfold kept at h
  have := List.mem_filter.1 h
  exact ⟨this.1, of_decide_eq_true this.2⟩
set_option maxRecDepth 100000 in
theorem joinF_on : ∀ (l : List (List UInt8)) (O : List UInt8), O ≠ [] → joinF O l = O ++ (kept l).flatMap fun q => 47 :: q
  | [], O, _ => by simp [joinF, kept]
  | p :: l, O, h => by
    by_cases hp : p = [] ∨ p = [46]
    · rw [joinF_skip hp, kept_no hp, joinF_on l O h]
    · rw [joinF_put hp, kept_yes hp, if_neg h, joinF_on l _ (by simp), List.flatMap_cons]
      simp
theorem joinF_new : ∀ l : List (List UInt8), joinF [] l = joinS (kept l)
  | [] => rfl
  | p :: l => by
    by_cases hp : p = [] ∨ p = [46]
    · rw [joinF_skip hp, kept_no hp, joinF_new l]
    · rw [joinF_put hp, kept_yes hp, if_pos rfl, List.nil_append, joinF_on l p (fun e => hp (.inl e))]
      rfl
theorem partsF_app (r : List UInt8) : ∀ (a cur : List UInt8), partsF cur (a ++ 47 :: r) = partsF cur a ++ partsL r
  | [], cur => by
    show partsF cur (47 :: r) = [cur] ++ partsL r
    rw [partsF, if_pos rfl]
    rfl
  | c :: a, cur => by
    rw [List.cons_append, partsF, partsF]
    by_cases h : c = 47
    · rw [if_pos h, if_pos h, partsF_app r a [], List.cons_append]
    · rw [if_neg h, if_neg h, partsF_app r a _]
theorem partsL_app (a r : List UInt8) : partsL (a ++ 47 :: r) = partsL a ++ partsL r := partsF_app r a []
set_option maxRecDepth 100000 in
theorem partsF_whole : ∀ (a cur : List UInt8), 47 ∉ a → partsF cur a = [cur ++ a]
  | [], cur, _ => by simp [partsF]
  | c :: a, cur, h => by
    rw [partsF, if_neg (fun e => h (by rw [e]; exact List.mem_cons_self)), partsF_whole a _ (fun h2 => h (List.mem_cons_of_mem _ h2)), List.append_assoc]
    rfl
theorem partsL_whole {a : List UInt8} (h : 47 ∉ a) : partsL a = [a] := partsF_whole a [] h
set_option maxRecDepth 100000 in
theorem joinS_more (p : List UInt8) (l : List (List UInt8)) (h : l ≠ []) : joinS (p :: l) = p ++ 47 :: joinS l := by
  match l, h with
  | q :: l, _ => simp [joinS]
set_option maxRecDepth 100000 in
theorem joinS_app (x : List (List UInt8)) : ∀ y : List (List UInt8), x ≠ [] → y ≠ [] → joinS (x ++ y) = joinS x ++ 47 :: joinS y := by
  induction x with
  | nil => intro y h _; exact absurd rfl h
  | cons p x ih =>
    intro y _ hy
    by_cases hx : x = []
    · subst hx
      rw [List.cons_append, List.nil_append, joinS_more p y hy]
      simp [joinS]
    · rw [List.cons_append, joinS_more p _ (by simp [hx]), ih y hx hy, joinS_more p x hx]
      simp
set_option maxRecDepth 100000 in
theorem joinS_parts : ∀ (s cur : List UInt8), joinS (partsF cur s) = cur ++ s
  | [], cur => by simp [partsF, joinS]
  | c :: s, cur => by
    rw [partsF]
    by_cases h : c = 47
    · rw [if_pos h, joinS_more cur _ (partsF_ne s []), joinS_parts s [], List.nil_append, h]
    · rw [if_neg h, joinS_parts s _, List.append_assoc]
      rfl
theorem parts_back (s : List UInt8) : joinS (partsL s) = s := joinS_parts s []
theorem parts_inj {a b : List UInt8} (h : partsL a = partsL b) : a = b := by rw [← parts_back a, ← parts_back b, h]
set_option maxRecDepth 100000 in
theorem partsL_join : ∀ K : List (List UInt8), K ≠ [] → (∀ q ∈ K, 47 ∉ q) → partsL (joinS K) = K
  | [], h, _ => absurd rfl h
  | p :: l, _, hq => by
    by_cases hl : l = []
    · subst hl
      have : joinS [p] = p := by simp [joinS]
      rw [this, partsL_whole (hq p List.mem_cons_self)]
    · rw [joinS_more p l hl, partsL_app, partsL_whole (hq p List.mem_cons_self), partsL_join l hl fun q h => hq q (List.mem_cons_of_mem _ h)]
      rfl
set_option maxRecDepth 100000 in
theorem parts_no : ∀ (s cur : List UInt8), 47 ∉ cur → ∀ q ∈ partsF cur s, 47 ∉ q
  | [], cur, h, q, hq => by
    rw [partsF, List.mem_singleton] at hq
    rw [hq]
    exact h
  | c :: s, cur, h, q, hq => by
    rw [partsF] at hq
    by_cases e : c = 47
    · rw [if_pos e] at hq
      rcases List.mem_cons.1 hq with rfl | hq
      · exact h
      · exact parts_no s [] List.not_mem_nil q hq
    · rw [if_neg e] at hq
      refine parts_no s _ (fun h2 => ?_) q hq
      rcases List.mem_append.1 h2 with h2 | h2
      · exact h h2
      · exact e (List.mem_singleton.1 h2).symm
set_option maxRecDepth 100000 in
theorem parts_bytes : ∀ (s cur : List UInt8) (q : List UInt8), q ∈ partsF cur s → ∀ c ∈ q, c ∈ cur ∨ c ∈ s
  | [], cur, q, hq, c, hc => by
    rw [partsF, List.mem_singleton] at hq
    rw [hq] at hc
    exact .inl hc
  | x :: s, cur, q, hq, c, hc => by
    rw [partsF] at hq
    by_cases e : x = 47
    · rw [if_pos e] at hq
      rcases List.mem_cons.1 hq with rfl | hq
      · exact .inl hc
      · rcases parts_bytes s [] q hq c hc with h | h
        · exact absurd h List.not_mem_nil
        · exact .inr (List.mem_cons_of_mem _ h)
    · rw [if_neg e] at hq
      rcases parts_bytes s _ q hq c hc with h | h
      · rcases List.mem_append.1 h with h | h
        · exact .inl h
        · rw [List.mem_singleton.1 h]
          exact .inr List.mem_cons_self
      · exact .inr (List.mem_cons_of_mem _ h)
set_option maxRecDepth 100000 in
theorem join_bytes {K : List (List UInt8)} {c : UInt8} (h : c ∈ joinS K) : c = 47 ∨ ∃ q ∈ K, c ∈ q := by
  match K, h with
  | p :: l, h =>
    rcases List.mem_append.1 h with h | h
    · exact .inr ⟨p, List.mem_cons_self, h⟩
    · obtain ⟨q, hq, hc⟩ := List.mem_flatMap.1 h
      rcases List.mem_cons.1 hc with rfl | hc
      · exact .inl rfl
      · exact .inr ⟨q, List.mem_cons_of_mem _ hq, hc⟩
set_option maxRecDepth 100000 in
/-- The kept parts of a path. -/
theorem clean_parts {s p : List UInt8} (h : cleanL s = (p, 0)) : p ≠ [] ∧ p.length ≤ 120 ∧ (∀ c ∈ p, okB c) ∧ partsL p ≠ [] ∧ (∀ q ∈ partsL p, q ≠ [46, 46] ∧ ¬ (q = [] ∨ q = [46]) ∧ 47 ∉ q) := by
  unfold cleanL at h
  by_cases h1 : [46, 46] ∈ partsL s
  · rw [if_pos h1] at h; cases h
  rw [if_neg h1] at h
  by_cases h2 : ¬ ∀ c ∈ s, okB c
  · rw [if_pos h2] at h; cases h
  rw [if_neg h2] at h
  have h2 := Decidable.not_not.1 h2
  by_cases h3 : joinF [] (partsL s) = [] ∨ 120 < (joinF [] (partsL s)).length
  · rw [if_pos h3] at h; cases h
  rw [if_neg h3] at h
  have hp : joinF [] (partsL s) = p := (Prod.mk.inj h).1
  rw [hp] at h3
  rw [joinF_new] at hp
  have hK0 : kept (partsL s) ≠ [] := fun e => by
    rw [e] at hp
    exact h3 (.inl hp.symm)
  have hno : ∀ q ∈ kept (partsL s), 47 ∉ q := fun q hq => parts_no s [] List.not_mem_nil q (kept_mem hq).1
  have hpp : partsL p = kept (partsL s) := by rw [← hp, partsL_join _ hK0 hno]
  refine ⟨fun e => h3 (.inl e), by omega, fun c hc => ?_, by rw [hpp]; exact hK0, fun q hq => ?_⟩
  · rw [← hp] at hc
    rcases join_bytes hc with rfl | ⟨q, hq, hcq⟩
    · decide
    · rcases parts_bytes s [] q (kept_mem hq).1 c hcq with h | h
      · exact absurd h List.not_mem_nil
      · exact h2 c h
  · rw [hpp] at hq
    exact ⟨fun e => h1 (by rw [← e]; exact (kept_mem hq).1), (kept_mem hq).2, hno q hq⟩
theorem kept_all {K : List (List UInt8)} (h : ∀ q ∈ K, ¬ (q = [] ∨ q = [46])) : kept K = K := by
  unfold kept
  exact List.filter_eq_self.2 fun q hq => decide_eq_true (h q hq)
theorem clean_of {t p : List UInt8} (h1 : [46, 46] ∉ partsL t) (h2 : ∀ c ∈ t, okB c) (h3 : joinS (kept (partsL t)) = p) (h4 : p ≠ []) (h5 : p.length ≤ 120) : cleanL t = (p, 0) := by
  unfold cleanL
  rw [if_neg h1, if_neg (not_not_intro h2), joinF_new, h3, if_neg (fun h => h.elim h4 (by omega))]
/-- P14.4. -/
theorem clean_twice {s p : List UInt8} (h : cleanL s = (p, 0)) : cleanL p = (p, 0) := by
  obtain ⟨h1, h2, h3, h4, h5⟩ := clean_parts h
  exact clean_of (fun hm => (h5 _ hm).1 rfl) h3 (by rw [kept_all fun q hq => (h5 q hq).2.1, parts_back]) h1 h2
set_option maxRecDepth 100000 in
theorem check_clean {s p : List UInt8} (h : cleanL s = (p, 0)) : checkL p = 0 := by
  unfold checkL
  rw [clean_twice h, if_neg (by simp)]
/-- The same, with slashes and dots around. -/
def wideF (K : List (List UInt8)) : List UInt8 := K.flatMap fun q => 46 :: 47 :: (q ++ [47, 47])
set_option maxRecDepth 100000 in
theorem parts_wide : ∀ K : List (List UInt8), (∀ q ∈ K, 47 ∉ q) → partsL (wideF K) = (K.flatMap fun q => [[46], q, []]) ++ [[]]
  | [], _ => rfl
  | q :: K, h => by
    have e : wideF (q :: K) = [46] ++ 47 :: (q ++ 47 :: ([] ++ 47 :: wideF K)) := by simp [wideF]
    rw [e, partsL_app, partsL_app, partsL_app, partsL_whole (by decide), partsL_whole (h q List.mem_cons_self), parts_wide K fun x hx => h x (List.mem_cons_of_mem _ hx)]
    rfl
theorem kept_wide : ∀ K : List (List UInt8), (∀ q ∈ K, ¬ (q = [] ∨ q = [46])) → kept ((K.flatMap fun q => [[46], q, []]) ++ [[]]) = K
  | [], _ => rfl
  | q :: K, h => by
    rw [List.flatMap_cons]
    show kept ([46] :: q :: [] :: ((K.flatMap fun q => [[46], q, []]) ++ [[]])) = q :: K
    rw [kept_no (.inr rfl), kept_yes (h q List.mem_cons_self), kept_no (.inl rfl), kept_wide K fun x hx => h x (List.mem_cons_of_mem _ hx)]
set_option maxRecDepth 100000 in
theorem clean_wide {s p : List UInt8} (h : cleanL s = (p, 0)) : cleanL (47 :: wideF (partsL p)) = (p, 0) := by
  obtain ⟨h1, h2, h3, h4, h5⟩ := clean_parts h
  have hw := parts_wide (partsL p) fun q hq => (h5 q hq).2.2
  have e : partsL (47 :: wideF (partsL p)) = [] :: ((partsL p).flatMap fun q => [[46], q, []]) ++ [[]] := by
    rw [show (47 :: wideF (partsL p)) = [] ++ 47 :: wideF (partsL p) from rfl, partsL_app, hw]
    rfl
  refine clean_of ?_ ?_ ?_ h1 h2
  · rw [e]
    intro hm
    rcases List.mem_append.1 hm with hm | hm
    · rcases List.mem_cons.1 hm with hm | hm
      · cases hm
      · obtain ⟨q, hq, hm⟩ := List.mem_flatMap.1 hm
        rcases List.mem_cons.1 hm with hm | hm
        · cases hm
        rcases List.mem_cons.1 hm with hm | hm
        · exact (h5 q hq).1 hm.symm
        · rcases List.mem_cons.1 hm with hm | hm
          · cases hm
          · cases hm
    · cases List.mem_singleton.1 hm
  · intro c hc
    rcases List.mem_cons.1 hc with rfl | hc
    · decide
    · obtain ⟨q, hq, hc⟩ := List.mem_flatMap.1 hc
      rcases List.mem_cons.1 hc with rfl | hc
      · decide
      rcases List.mem_cons.1 hc with rfl | hc
      · decide
      rcases List.mem_append.1 hc with hc | hc
      · rcases parts_bytes p [] q hq c hc with h | h
        · exact absurd h List.not_mem_nil
        · exact h3 c h
      · rcases List.mem_cons.1 hc with rfl | hc
        · decide
        · rw [List.mem_singleton.1 hc]
          decide
  · rw [e, List.cons_append, kept_no (.inl rfl), kept_wide _ fun q hq => (h5 q hq).2.1, parts_back]
/-- What is refused is nothing. -/
theorem clean_err (s : List UInt8) : (cleanL s).2 = 0 ∨ cleanL s = ([], 140) := by
  unfold cleanL
  split
  · exact .inr rfl
  split
  · exact .inr rfl
  split
  · exact .inr rfl
  · exact .inl rfl

/- The order. -/
theorem cmpF_more (x y : List UInt8) (xs ys : List (List UInt8)) : cmpF (x :: xs) (y :: ys) = if x < y then -1 else if y < x then 1 else cmpF xs ys := rfl
theorem cmpF_three : ∀ X Y : List (List UInt8), cmpF X Y = -1 ∨ cmpF X Y = 0 ∨ cmpF X Y = 1
  | [], [] => .inr (.inl rfl)
  | [], _ :: _ => .inl rfl
  | _ :: _, [] => .inr (.inr rfl)
  | x :: xs, y :: ys => by
    rw [cmpF_more]
    split
    · exact .inl rfl
    split
    · exact .inr (.inr rfl)
    · exact cmpF_three xs ys
theorem lt_not {x y : List UInt8} (h : x < y) : ¬ y < x := fun h2 => List.lt_irrefl x (List.lt_trans h h2)
theorem lt_one {x y : List UInt8} (h : ¬ x < y) (h2 : ¬ y < x) : x = y := List.le_antisymm (List.not_lt.1 h2) (List.not_lt.1 h)
theorem cmpF_turn : ∀ X Y : List (List UInt8), cmpF Y X = - cmpF X Y
  | [], [] => rfl
  | [], _ :: _ => rfl
  | _ :: _, [] => rfl
  | x :: xs, y :: ys => by
    rw [cmpF_more, cmpF_more]
    by_cases h : x < y
    · rw [if_pos h, if_neg (lt_not h), if_pos h]
      rfl
    · rw [if_neg h]
      by_cases h2 : y < x
      · rw [if_pos h2, if_pos h2, if_neg h] <;> rfl
      · rw [if_neg h2, if_neg h2, if_neg h]
        exact cmpF_turn xs ys
theorem cmpF_self : ∀ X : List (List UInt8), cmpF X X = 0
  | [] => rfl
  | x :: xs => by
    rw [cmpF_more, if_neg (List.lt_irrefl x), if_neg (List.lt_irrefl x), cmpF_self xs]
theorem cmpF_zero : ∀ X Y : List (List UInt8), cmpF X Y = 0 → X = Y
  | [], [], _ => rfl
  | [], _ :: _, h => by cases h
  | _ :: _, [], h => by cases h
  | x :: xs, y :: ys, h => by
    rw [cmpF_more] at h
    by_cases h1 : x < y
    · rw [if_pos h1] at h; cases h
    rw [if_neg h1] at h
    by_cases h2 : y < x
    · rw [if_pos h2] at h; cases h
    rw [if_neg h2] at h
    rw [lt_one h1 h2, cmpF_zero xs ys h]
theorem cmpF_trans : ∀ X Y Z : List (List UInt8), cmpF X Y ≤ 0 → cmpF Y Z ≤ 0 → cmpF X Z ≤ 0
  | [], _, [], _, _ => Int.le_refl _
  | [], _, _ :: _, _, _ => show (-1 : Int) ≤ 0 by decide
  | x :: xs, [], _, h, _ => absurd h (show ¬ (1 : Int) ≤ 0 by decide)
  | x :: xs, y :: ys, [], _, h => absurd h (show ¬ (1 : Int) ≤ 0 by decide)
  | x :: xs, y :: ys, z :: zs, h1, h2 => by
    rw [cmpF_more] at h1 h2 ⊢
    by_cases a1 : x < y
    · by_cases a2 : y < z
      · rw [if_pos (List.lt_trans a1 a2)]
        decide
      · rw [if_neg a2] at h2
        by_cases a3 : z < y
        · rw [if_pos a3] at h2
          exact absurd h2 (by decide)
        · rw [lt_one a2 a3] at a1
          rw [if_pos a1]
          decide
    · rw [if_neg a1] at h1
      by_cases a2 : y < x
      · rw [if_pos a2] at h1
        exact absurd h1 (by decide)
      · rw [if_neg a2] at h1
        have e := lt_one a1 a2
        subst e
        by_cases a3 : x < z
        · rw [if_pos a3]
          decide
        · rw [if_neg a3] at h2 ⊢
          by_cases a4 : z < x
          · rw [if_pos a4] at h2
            exact absurd h2 (by decide)
          · rw [if_neg a4] at h2 ⊢
            exact cmpF_trans xs ys zs h1 h2
theorem cmpF_longer : ∀ (X Y : List (List UInt8)), Y ≠ [] → cmpF X (X ++ Y) = -1
  | [], [], h => absurd rfl h
  | [], _ :: _, _ => rfl
  | x :: xs, Y, h => by
    rw [List.cons_append, cmpF_more, if_neg (List.lt_irrefl x), if_neg (List.lt_irrefl x)]
    exact cmpF_longer xs Y h
set_option maxRecDepth 100000 in
theorem cmpF_under (R : List (List UInt8)) : ∀ (X C : List (List UInt8)), cmpF X C = -1 → (¬ ∃ Y, Y ≠ [] ∧ C = X ++ Y) → cmpF (X ++ R) C = -1
  | [], [], h, _ => by cases h
  | [], c :: cs, _, h2 => absurd ⟨c :: cs, by simp, rfl⟩ h2
  | _ :: _, [], h, _ => by cases h
  | x :: xs, c :: cs, h, h2 => by
    rw [cmpF_more] at h
    rw [List.cons_append, cmpF_more]
    by_cases a1 : x < c
    · rw [if_pos a1]
    · rw [if_neg a1] at h ⊢
      by_cases a2 : c < x
      · rw [if_pos a2] at h; cases h
      · rw [if_neg a2] at h ⊢
        refine cmpF_under R xs cs h fun ⟨Y, hY, e⟩ => h2 ⟨Y, hY, ?_⟩
        rw [lt_one a1 a2, e]
        rfl
set_option maxRecDepth 100000 in
theorem under_iff {d p : List UInt8} : underL d p = true ↔ ∃ r, p = d ++ 47 :: r := by
  unfold underL
  rw [decide_eq_true_iff]
  constructor
  · rintro ⟨_, h⟩
    refine ⟨p.drop (d.length + 1), ?_⟩
    have := List.take_append_drop (d.length + 1) p
    rw [h] at this
    rw [← this]
    simp
  · rintro ⟨r, rfl⟩
    refine ⟨by simp, ?_⟩
    rw [show d ++ 47 :: r = (d ++ [47]) ++ r by simp]
    exact List.take_left' (by simp)
theorem under_parts {d p : List UInt8} (h : underL d p = true) : ∃ Y, Y ≠ [] ∧ partsL p = partsL d ++ Y := by
  obtain ⟨r, rfl⟩ := under_iff.1 h
  exact ⟨partsL r, partsF_ne r [], partsL_app d r⟩
theorem parts_under {d p : List UInt8} {Y : List (List UInt8)} (hY : Y ≠ []) (h : partsL p = partsL d ++ Y) : underL d p = true := by
  refine under_iff.2 ⟨joinS Y, ?_⟩
  rw [← parts_back p, h, joinS_app (partsL d) Y (partsF_ne d []) hY, parts_back]
/-- P14.5, what the law asks. -/
theorem cmp_zero {a b : List UInt8} : cmpL a b = 0 ↔ a = b := ⟨fun h => parts_inj (cmpF_zero _ _ h), fun h => by rw [h]; exact cmpF_self _⟩
theorem cmp_turn (a b : List UInt8) : cmpL b a = - cmpL a b := cmpF_turn _ _
theorem cmp_trans {a b c : List UInt8} (h1 : cmpL a b ≤ 0) (h2 : cmpL b c ≤ 0) : cmpL a c ≤ 0 := cmpF_trans _ _ _ h1 h2
theorem cmp_three (a b : List UInt8) : cmpL a b = -1 ∨ cmpL a b = 0 ∨ cmpL a b = 1 := cmpF_three _ _
theorem cmp_under {a b : List UInt8} (h : underL a b = true) : cmpL a b = -1 := by
  obtain ⟨Y, hY, e⟩ := under_parts h
  unfold cmpL
  rw [e]
  exact cmpF_longer _ _ hY
theorem cmp_behind {a b c : List UInt8} (h : underL a b = true) (h2 : underL a c = false) (h3 : cmpL a c < 0) : cmpL b c = -1 := by
  obtain ⟨Y, hY, e⟩ := under_parts h
  have h4 : cmpF (partsL a) (partsL c) = -1 := by
    have := cmp_three a c
    unfold cmpL at this h3
    omega
  unfold cmpL
  rw [e]
  refine cmpF_under Y _ _ h4 fun ⟨Z, hZ, e2⟩ => ?_
  rw [parts_under hZ e2] at h2
  cases h2
end Go.Proofs.YtdjmfkodjjjhfaaGreatDoor
/- Ustar: plain: what a header is; the reference's Zero, laid, number. Written ahead of stage 16. -/
namespace Go.Proofs.YtdjmfkodjjjhfaaGreatDoor
open Go.RowKit

/-- A head. -/
structure HeadP where
  path : ByteArray
  size : Int
  kind : Nat
  mode : Int
  time : Int
  link : ByteArray
  user : ByteArray
  group : ByteArray
  uid : Int
  gid : Int
/-- A head, cell by cell. -/
def headCs (h : HeadP) : Array Value := #[.string h.path, .int .i64 h.size, .int .u8 h.kind, .int .i64 h.mode, .int .i64 h.time, .string h.link, .string h.user, .string h.group, .int .i64 h.uid, .int .i64 h.gid]
def headV (h : HeadP) : Value := .agg (headCs h)
def textOk (s : List UInt8) : Prop := cutZ s = s
instance (s : List UInt8) : Decidable (textOk s) := by unfold textOk; infer_instance
def smallOk (n : Int) : Prop := 0 ≤ n ∧ n ≤ 2097151
instance (n : Int) : Decidable (smallOk n) := by unfold smallOk; infer_instance
def greatOk (n : Int) : Prop := 0 ≤ n ∧ n ≤ 8589934591
instance (n : Int) : Decidable (greatOk n) := by unfold greatOk; infer_instance
/-- May a header be, but for its path's length? -/
def mayA (h : HeadP) : Prop :=
  (h.kind = 48 ∨ h.kind = 53 ∨ h.kind = 120 ∨ h.kind = 103) ∧
  (h.path.size ≤ 1099511627776 ∧ textOk h.path.data.toList) ∧ (h.link.size ≤ 100 ∧ textOk h.link.data.toList) ∧ (h.user.size ≤ 31 ∧ textOk h.user.data.toList) ∧ (h.group.size ≤ 31 ∧ textOk h.group.data.toList) ∧
  smallOk h.mode ∧ smallOk h.uid ∧ smallOk h.gid ∧ greatOk h.size ∧ greatOk h.time
instance (h : HeadP) : Decidable (mayA h) := by unfold mayA; infer_instance
/-- What Zero answers. -/
def allZ (s : List UInt8) : Bool := s.all fun c => decide (c = 0)
def zeroA (s : List UInt8) : Bool := allZ s && decide (s.length = 512)

set_option maxHeartbeats 1600000 in
set_option maxRecDepth 100000 in
theorem rzero_any (w : World) (t : ByteArray) (hs : t.size ≤ 9223372036854775807) : Calls Tryz.prog 45 #[.string t] w fun e w' => e = .returned (.bool (zeroA t.data.toList)) ∧ w' = w := by
  have HP : Hid (∀ (b : Bool) (w' : World), zeroA t.data.toList = b → w' = w → (fun e w' => e = Ending.returned (.bool (zeroA t.data.toList)) ∧ w' = w) (.returned (.bool b)) w') := Lib.hid fun b w' h hb => ⟨by rw [h], hb⟩
  generalize (fun e w' => e = Ending.returned (.bool (zeroA t.data.toList)) ∧ w' = w) = PO at *
  obtain ⟨S, hS⟩ : ∃ S, S = t.data.toList := ⟨_, rfl⟩
  have HS := Lib.hid hS
  have HLL := Lib.hid (show S.length = t.size by rw [hS]; rfl)
  rw [← hS] at HP
  clear hS
  go_enter Tryz.func45, Tryz.ntmps45
  go_wp2_with fail
  go_loopw [3] (fun si wx => ∃ q : Nat, si = .int .i64 q ∧ q ≤ t.size ∧ wx = w ∧ Hid (allZ S = allZ (S.drop q))) (fun si _ => t.size - (intOf si).toNat)
  case atStart => exact ⟨0, rfl, Nat.zero_le _, rfl, Lib.hid rfl⟩
  case round =>
    obtain ⟨q, rfl, hq, rfl, hJ⟩ := hrel
    by_cases e : q < t.size
    · have dq : decide ((q : Int) < (t.size : Int)) = true := decide_eq_true (by omega)
      have hqz : (q : Int) < t.size := by omega
      have hqS : q < S.length := by rw [HLL.out]; exact e
      have hby := fbyte t q e
      rw [← HS.out] at hby
      have hdr : S.drop q = S.getD q 0 :: S.drop (q + 1) := by
        rw [List.drop_eq_getElem_cons hqS, List.getD_eq_getElem?_getD, List.getElem?_eq_getElem hqS]
        rfl
      have hj := hJ.out
      rw [hdr, hby] at hj
      by_cases e2 : t[q] = 0
      · have f : ((((t[q]).toNat : Nat) : Int) != 0) = false := by rw [e2]; rfl
        have HJ2 := Lib.hid (show allZ S = allZ (S.drop (q + 1)) by rw [hj, e2]; rfl)
        clear hj hJ hby hdr e2
        go_wp2_with fail
        go_roundw
        case rel => exact ⟨q + 1, by go_num, by omega, by first | rfl | trivial, HJ2⟩
        case measure => simp [intOf]; omega
      · have f : ((((t[q]).toNat : Nat) : Int) != 0) = true := by
          refine bne_iff_ne.2 fun h => e2 ?_
          apply UInt8.toNat_inj.1
          show (t[q]).toNat = 0
          omega
        have HF := Lib.hid (HP.out false wr (by
          unfold zeroA
          rw [hj]
          show (decide (t[q] = 0) && allZ (S.drop (q + 1)) && _) = false
          rw [decide_eq_false e2]
          rfl) rfl)
        clear hj hJ hby hdr e2
        go_wp2_with fail
        exact HF.out
    · have hqe : q = t.size := by omega
      have dq : decide ((q : Int) < (t.size : Int)) = false := decide_eq_false (by omega)
      have hj := hJ.out
      rw [List.drop_of_length_le (by rw [HLL.out, hqe]; exact Nat.le_refl _)] at hj
      by_cases e3 : t.size = 512
      · have f : ((t.size : Int) == 512) = true := beq_iff_eq.2 (by omega)
        have HF := Lib.hid (HP.out true wr (by
          unfold zeroA
          rw [hj, HLL.out, decide_eq_true e3]
          rfl) rfl)
        clear hj hJ hqe e3
        go_wp2_with fail
        exact HF.out
      · have f : ((t.size : Int) == 512) = false := beq_false_of_ne (by omega)
        have HF := Lib.hid (HP.out false wr (by
          unfold zeroA
          rw [decide_eq_false (show ¬ S.length = 512 by rw [HLL.out]; exact e3), Bool.and_false]) rfl)
        clear hj hJ hqe e3
        go_wp2_with fail
        exact HF.out
set_option maxRecDepth 100000 in
theorem rlaid_any (w : World) (t : ByteArray) (width : Int) (hs : t.size ≤ 9223372036854775807) (h3 : -9223372036854775808 ≤ width) (h4 : width ≤ 9223372036854775807) :
    Calls Tryz.prog 95 #[.string t, .int .i64 width] w fun e w' => e = .returned (.string (strF (textA t.data.toList width).1)) ∧ w' = w := by
  have HC := Lib.hid (rtext_any w t width hs h3 h4)
  go_enter Tryz.func95, Tryz.ntmps95
  go_wp2_with fail
  refine HC.out.mono ?_
  rintro e w1 ⟨rfl, rfl⟩
  go_wp2_with fail
  go_ret
  exact ⟨rfl, rfl⟩
set_option maxRecDepth 100000 in
theorem rnumber16_any (w : World) (n width : Int) (h1 : -9223372036854775808 ≤ n) (h2 : n ≤ 9223372036854775807) (h3 : -9223372036854775808 ≤ width) (h4 : width ≤ 9223372036854775807) :
    Calls Tryz.prog 96 #[.int .i64 n, .int .i64 width] w fun e w' => e = .returned (.string (strF (octalA n width).1)) ∧ w' = w := by
  have HC := Lib.hid (roctal_any w n width h1 h2 h3 h4)
  go_enter Tryz.func96, Tryz.ntmps96
  go_wp2_with fail
  refine HC.out.mono ?_
  rintro e w1 ⟨rfl, rfl⟩
  go_wp2_with fail
  go_ret
  exact ⟨rfl, rfl⟩
end Go.Proofs.YtdjmfkodjjjhfaaGreatDoor
