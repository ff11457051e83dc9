/- The reference of paths: Parts, Under. Conditions: for Parts texts of at most a million bytes. Written ahead of stage 14. -/
import Derived.Test.YtlnopdlpdnengaaPta
import Derived.Lib.AppendZeros
namespace Go.Proofs.Ytlnopdlpdnengaa
open Go.RowKit

/-- A list of texts that is read. -/
def SLn (w : World) (A : Option Addr) (n : Nat) (L : List (List UInt8)) : Prop := L.length = n ∧ (0 < n → ∃ b off, A = some ⟨b, off, none⟩ ∧ ∀ i, i < n → w.cell? ⟨b, off + i, none⟩ = some (sv (L.getD i [])))
theorem SLn.below {w w' : World} {A : Option Addr} {n : Nat} {L : List (List UInt8)} (h : SLn w A n L) (hb : Below w.heap.size w w') : SLn w' A n L := by
  refine ⟨h.1, fun hn => ?_⟩
  obtain ⟨b, off, rfl, hc⟩ := h.2 hn
  exact ⟨b, off, rfl, fun i hi => (hb.cell (p := ⟨b, off + i, none⟩) (World.block_lt_of_cell? w _ (hc i hi))).trans (hc i hi)⟩
set_option maxRecDepth 100000 in
theorem sln_of_own {w : World} {B n c g : Nat} {L : List (List UInt8)} (h : w.ownsRow B 9 1 (.slice (some ⟨g, 0, none⟩) n c) n (L.map sv)) : SLn w (some ⟨g, 0, none⟩) n L := by
  have hl : L.length = n := by
    have := h.1
    simpa using this
  refine ⟨hl, fun _ => ⟨g, 0, rfl, fun i hi => ?_⟩⟩
  rw [Nat.zero_add, World.ownsRow.cellAt h i (by omega), List.getElem?_map, List.getD_eq_getElem?_getD, List.getElem?_eq_getElem (by omega)]
  rfl
/-- A list of texts is answered. -/
def TextsPost (w : World) (L : List (List UInt8)) (e : Ending) (w' : World) : Prop := ∃ A n c, e = .returned (.slice A n c) ∧ n ≤ c ∧ c ≤ maxLen ∧ SLn w' A n L ∧ Below w.heap.size w w'
set_option maxRecDepth 100000 in
theorem info_str : ∃ i, Try.prog.info? 9 = some i ∧ i.zero = some (.string ⟨#[]⟩) ∧ i.size = 1 ∧ i.bytes = 16 := by
  have h0 : (Try.prog.info? 9).map (·.zero) = some (some (.string ⟨#[]⟩)) := by kernel_rfl
  have h1 : (Try.prog.info? 9).map (·.size) = some 1 := by kernel_rfl
  have h2 : (Try.prog.info? 9).map (·.bytes) = some 16 := by kernel_rfl
  cases hq : Try.prog.info? 9 with
  | none => simp [hq] at h1
  | some i => exact ⟨i, rfl, by simpa [hq] using h0, by simpa [hq] using h1, by simpa [hq] using h2⟩
set_option maxRecDepth 100000 in
theorem cell_alone (w : World) (v : Value) (t : TypeId) : ∀ (j : Nat) (u : Value), [v][j]? = some u → (w.alloc (.cells #[v] t)).cell? ((⟨w.heap.size, 0, none⟩ : Addr).add j) = some u := by
  intro j u hu
  have hj : j = 0 := by
    have := (List.getElem?_eq_some_iff.1 hu).1
    simp at this
    exact this
  subst hj
  have e : (⟨w.heap.size, 0, none⟩ : Addr).add 0 = ⟨w.heap.size, 0, none⟩ := by
    unfold Addr.add
    split <;> simp_all
  rw [e, World.cell?_alloc_new]
  simpa using hu
set_option maxRecDepth 100000 in
/-- A text behind a row of the call's own. -/
theorem text_one (w : World) (B g n c : Nat) (L : List (List UInt8)) (h : w.ownsRow B 9 1 (.slice (some ⟨g, 0, none⟩) n c) n (L.map sv)) (x : List UInt8) (hn : n ≤ 1000001) (hB : B ≤ w.heap.size) :
    ∃ g2 c2 w2, (Builtin.append_ #[32, 32] 32 #[.slice (some ⟨g, 0, none⟩) n c, .slice (some ⟨w.heap.size, 0, none⟩) 1 1]).run Try.prog (w.alloc (.cells #[.string (strP x)] 9)) = .ok (.slice (some ⟨g2, 0, none⟩) (n + 1) c2) w2 ∧
      w2.ownsRow B 9 1 (.slice (some ⟨g2, 0, none⟩) (n + 1) c2) (n + 1) ((L ++ [x]).map sv) ∧ Below B w w2 := by
  obtain ⟨i3, h3, hz0, hz1, hz2⟩ := info_str
  obtain ⟨v2, w2, hr, ho, hg, _, hat⟩ := run_append_own_at (P := Try.prog) (w.alloc (.cells #[.string (strP x)] 9)) B 32 32 9 i3 (.string ⟨#[]⟩) 1 16 Try.underlying32 h3 hz0 hz1 hz2 rfl (by decide) _ _ _ (h.alloc _) ⟨w.heap.size, 0, none⟩ 1 1 [sv x] rfl (cell_alone w (sv x) 9)
    (fun u hu => by rw [List.mem_singleton.1 hu]; rfl) (by unfold maxLen; omega) (by omega) (by simp; omega)
  obtain ⟨A, c2, rfl, hc, hm, hA⟩ := own_slice ho
  obtain ⟨g2, rfl⟩ := hA (by omega)
  refine ⟨g2, c2, w2, hr, by rw [List.map_append]; exact ho, ?_⟩
  refine ((Below.refl B w).alloc hB _).grown hg (by simp; omega) fun k hk => ?_
  have hlt := World.ownsRow.lt h g rfl
  have : g = k := by simpa [Value.ownBlock] using hk
  omega
theorem set_last (D : List (List UInt8)) (x y : List UInt8) : ((D ++ [x]).map sv).set D.length (sv y) = (D ++ [y]).map sv := by
  rw [List.map_append, List.map_append, List.set_append_right _ _ (by rw [List.length_map]; exact Nat.le_refl _), List.length_map, Nat.sub_self]
  rfl
theorem byte_ext (t : ByteArray) (i : Nat) (h : i < t.size) : t.extract i (i + 1) = strP [t.data.toList.getD i 0] := by
  apply ByteArray.ext
  apply Array.toList_inj.1
  rw [ext_list]
  show _ = [t.data.toList.getD i 0]
  have hl : i < t.data.toList.length := h
  rw [List.drop_take, show i + 1 - i = 1 by omega, List.drop_eq_getElem_cons hl, List.getD_eq_getElem?_getD, List.getElem?_eq_getElem hl]
  rfl
theorem byte_at (t : ByteArray) (i : Nat) (h : i < t.size) : t.data.toList.getD i 0 = t[i] := by
  rw [List.getD_eq_getElem?_getD, List.getElem?_eq_getElem (by show i < t.size; exact h)]
  rfl
theorem drop_next (l : List UInt8) (i : Nat) (h : i < l.length) : l.drop i = l.getD i 0 :: l.drop (i + 1) := by
  rw [List.drop_eq_getElem_cons h, List.getD_eq_getElem?_getD, List.getElem?_eq_getElem h]
  rfl

set_option maxHeartbeats 3200000 in
set_option maxRecDepth 100000 in
theorem rparts_any (w : World) (t : ByteArray) (hs : t.size ≤ 1000000) : Calls Try.prog 16 #[.string t] w (TextsPost w (partsL t.data.toList)) := by
  have hll : t.data.toList.length = t.size := rfl
  obtain ⟨w1, hw1⟩ : ∃ w1, w1 = w.alloc (.cells #[.string ⟨#[]⟩] 9) := ⟨_, rfl⟩
  have hb1 : Below w.heap.size w w1 := by rw [hw1]; exact (Below.refl _ _).alloc (Nat.le_refl _) _
  have ho1 : w1.ownsRow w.heap.size 9 1 (.slice (some ⟨w.heap.size, 0, none⟩) 1 1) 1 (([[]] : List (List UInt8)).map sv) := by
    rw [hw1]
    exact ⟨rfl, .inr ⟨w.heap.size, 1, _, rfl, Nat.le_refl _, heap_alloc_new w _, Nat.le_refl _, by unfold maxLen; omega, rfl, rfl⟩⟩
  have HO1 := Lib.hid ho1
  have HB1 := Lib.hid hb1
  have HLL := Lib.hid hll
  have HP : Hid (∀ (A : Option Addr) (n c : Nat) (L : List (List UInt8)) (w' : World), L = partsL t.data.toList → n ≤ c → c ≤ maxLen → SLn w' A n L → Below w.heap.size w w' → TextsPost w (partsL t.data.toList) (.returned (.slice A n c)) w') := Lib.hid fun A n c L w' hL h1 h2 h3 h4 => ⟨A, n, c, rfl, h1, h2, hL ▸ h3, h4⟩
  generalize TextsPost w (partsL t.data.toList) = PO at *
  clear ho1 hb1 hll
  go_enter Try.func16, Try.ntmps16
  go_wp2_with fail
  rw [← hw1]
  clear hw1
  go_loopw [3, 4] (fun so si wx => ∃ (D : List (List UInt8)) (cur : List UInt8) (q n g c : Nat), so = .slice (some ⟨g, 0, none⟩) n c ∧ si = .int .i64 q ∧ q ≤ t.size ∧ cur.length ≤ q ∧ n ≤ q + 1 ∧ Below w.heap.size w wx ∧
    Hid (n = D.length + 1 ∧ wx.ownsRow w.heap.size 9 1 (.slice (some ⟨g, 0, none⟩) n c) n ((D ++ [cur]).map sv) ∧ D ++ partsF cur (t.data.toList.drop q) = partsL t.data.toList)) (fun _ si _ => t.size - (intOf si).toNat)
  case atStart => exact ⟨[], [], 0, 1, w.heap.size, 1, rfl, rfl, Nat.zero_le _, Nat.le_refl _, Nat.le_refl _, HB1.out, Lib.hid ⟨rfl, HO1.out, rfl⟩⟩
  case round =>
    obtain ⟨D, cur, q, n, g, c, rfl, rfl, hq, hcur, hn, hbx, hJ⟩ := hrel
    have HBX := Lib.hid hbx
    clear hbx
    by_cases e : q < t.size
    · have d0 : decide ((q : Int) < (t.size : Int)) = true := decide_eq_true (by omega)
      have hqz : (q : Int) < t.size := by omega
      have hbyte := byte_at t q e
      obtain ⟨x, hx⟩ : ∃ x, x = t.data.toList.getD q 0 := ⟨_, rfl⟩
      rw [← hx] at hbyte
      have hdn := drop_next t.data.toList q (by rw [HLL.out]; exact e)
      rw [← hx] at hdn
      have hj3 := hJ.out.2.2
      rw [hdn] at hj3
      have hsz := HBX.out.size
      by_cases e2 : x = 47
      · have d1 : ((((t[q]).toNat : Nat) : Int) == 47) = true := by rw [← hbyte, e2]; rfl
        rw [partsF, if_pos e2] at hj3
        obtain ⟨g2, c2, w2, hr2, ho2, hb2⟩ := text_one wr w.heap.size g n c _ hJ.out.2.1 [] (by omega) hsz
        have HR2 : Hid ((Builtin.append_ #[32, 32] 32 #[.slice (some ⟨g, 0, none⟩) n c, .slice (some ⟨wr.heap.size, 0, none⟩) 1 1]).run Try.prog (wr.alloc (.cells #[.string ⟨#[]⟩] 9)) = .ok (.slice (some ⟨g2, 0, none⟩) (n + 1) c2) w2) := Lib.hid hr2
        have HJ2 : Hid (n + 1 = (D ++ [cur]).length + 1 ∧ w2.ownsRow w.heap.size 9 1 (.slice (some ⟨g2, 0, none⟩) (n + 1) c2) (n + 1) ((D ++ [cur] ++ [[]]).map sv) ∧ D ++ [cur] ++ partsF [] (t.data.toList.drop (q + 1)) = partsL t.data.toList) :=
          Lib.hid ⟨by rw [List.length_append, List.length_singleton, hJ.out.1], ho2, by rw [← hj3, List.append_assoc]; rfl⟩
        have HB2 := Lib.hid (HBX.out.trans hb2)
        obtain ⟨n1, hn1⟩ : ∃ n1, n1 = n + 1 := ⟨_, rfl⟩
        rw [← hn1] at HR2 HJ2
        have hn1b : n1 ≤ q + 1 + 1 := by omega
        clear hJ hj3 hr2 ho2 hb2 hdn hx e2 hbyte hn1 hsz
        go_wp2_with (at_builtin; refine Lib.wpList_append_run _ rfl (.tmp 16) (.tmp 17) 32 32 rfl (.slice (some ⟨g, 0, none⟩) n c) (.slice (some ⟨wr.heap.size, 0, none⟩) 1 1) rfl rfl (.slice (some ⟨g2, 0, none⟩) n1 c2) w2 HR2.out ?_)
        go_roundw
        case rel => exact ⟨D ++ [cur], [], q + 1, n1, g2, c2, rfl, by go_num, by omega, Nat.zero_le _, hn1b, HB2.out, HJ2⟩
        case measure => simp [intOf]; omega
      · have d1 : ((((t[q]).toNat : Nat) : Int) == 47) = false := by
          refine beq_false_of_ne fun h => e2 ?_
          rw [hbyte]
          apply UInt8.toNat_inj.1
          show (t[q]).toNat = 47
          omega
        rw [partsF, if_neg e2] at hj3
        obtain ⟨p, hp⟩ : ∃ p, p = D.length := ⟨_, rfl⟩
        have hnp := hJ.out.1
        rw [← hp] at hnp
        have hpz : (n : Int) - 1 = (p : Int) := by omega
        have hpn : (p : Int) < (n : Int) := by omega
        have hown := hJ.out.2.1
        have hcell : wr.cell? ⟨g, p, none⟩ = some (.string (strP cur)) := by
          rw [World.ownsRow.cellAt hown p (by omega), List.getElem?_map, List.getElem?_append_right (by omega), hp, Nat.sub_self]
          rfl
        have hfrz : wr.frozen? ⟨g, p, none⟩ = false := World.ownsRow.frozenAt hown p
        have hst := (World.ownsRow.stored hown p (sv (cur ++ [x]))).1
        rw [hp, set_last, ← hp] at hst
        have hgB := (World.ownsRow.lt hown g rfl).1
        have hext := byte_ext t q e
        rw [← hx] at hext
        have hcat : strP cur ++ t.extract q (q + 1) = strP (cur ++ [x]) := by rw [hext, strP_app]
        obtain ⟨q1, hq1⟩ : ∃ q1, q1 = q + 1 := ⟨_, rfl⟩
        have hq1z : (q : Int) + 1 = (q1 : Int) := by omega
        have hq1a : (q : Int) ≤ (q1 : Int) := by omega
        have hq1b : (q1 : Int) ≤ (t.size : Int) := by omega
        rw [← hq1] at hcat hext hj3
        have hcs : (strP cur).size ≤ 1000000 := by rw [strP_size]; omega
        have hes : (t.extract q q1).size ≤ 1 := by rw [hext]; exact Nat.le_refl _
        have HCAT := Lib.hid hcat
        have HJ2 : Hid (n = D.length + 1 ∧ ((wr.setCell ⟨g, p, none⟩ (sv (cur ++ [x]))).ownsRow w.heap.size 9 1 (.slice (some ⟨g, 0, none⟩) n c) n ((D ++ [cur ++ [x]]).map sv)) ∧ D ++ partsF (cur ++ [x]) (t.data.toList.drop q1) = partsL t.data.toList) := Lib.hid ⟨by omega, hst, hj3⟩
        have HB2 := Lib.hid (HBX.out.setCell (p := ⟨g, p, none⟩) hgB (sv (cur ++ [x])))
        have hq1c : q1 ≤ t.size := by omega
        have hq1d : (cur ++ [x]).length ≤ q1 := by rw [List.length_append, List.length_singleton]; omega
        have hn1d : n ≤ q1 + 1 := by omega
        have hq1e : q1 - q = 1 := by omega
        have HQ1 := Lib.hid hq1
        clear hJ hj3 hdn hx e2 hbyte hsz hown hst hext hcat hp hnp hq1
        go_wp2_with fail
        go_region
        go_wp2_with fail
        rw [HCAT.out]
        go_roundw
        case rel => exact ⟨D, cur ++ [x], q1, n, g, c, rfl, by go_num, hq1c, hq1d, hn1d, HB2.out.drew, HJ2⟩
        case measure => simp [intOf]; omega
    · obtain rfl : q = t.size := by omega
      have hj3 := hJ.out.2.2
      rw [List.drop_of_length_le (by rw [HLL.out]; exact Nat.le_refl _), partsF] at hj3
      have hown := hJ.out.2.1
      obtain ⟨_, _, hv, hc1, hc2, _⟩ := own_slice hown
      have hcc : n ≤ c ∧ c ≤ maxLen := by
        cases hv
        exact ⟨hc1, hc2⟩
      have HF := Lib.hid (HP.out _ n c _ wr hj3 hcc.1 hcc.2 (sln_of_own hown) HBX.out)
      clear hJ hj3 hown hv hc1 hc2 hcc
      go_wp2_with fail
      exact HF.out
end Go.Proofs.Ytlnopdlpdnengaa
