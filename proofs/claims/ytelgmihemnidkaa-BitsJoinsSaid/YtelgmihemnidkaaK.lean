/- The law BitsBack, for every list of numbers and widths: numbers that were put are taken again. No conditions. -/
import Derived.Test.YtelgmihemnidkaaO
import Derived.Test.YtelgmihemnidkaaF
import Derived.Test.YtelgmihemnidkaaR3
import Derived.Deep.RegionWith
import Derived.StillTailTactics
namespace Go.Proofs.Ytelgmihemnidkaa
open Go.RowKit

theorem Try.info31 : (Try.prog.info? 31).map (fun i => (i.zero, i.size, i.bytes)) = some (some (.agg #[.int .u64 0, .int .i64 0]), 2, 16) := by kernel_rfl

/-- The bits of numbers and widths, one behind the other. -/
def insBits (l : List (Nat × Nat)) : List Nat := l.flatMap fun q => bitsN q.1 q.2
def insCells (l : List (Nat × Nat)) : List Value := l.flatMap fun q => [.int .u64 q.1, .int .i64 q.2]

theorem insBits_snoc (l : List (Nat × Nat)) (q : Nat × Nat) : insBits (l ++ [q]) = insBits l ++ bitsN q.1 q.2 := by simp [insBits]
theorem insCells_snoc (l : List (Nat × Nat)) (q : Nat × Nat) : insCells (l ++ [q]) = insCells l ++ [.int .u64 q.1, .int .i64 q.2] := by simp [insCells]
theorem insBits_length (l : List (Nat × Nat)) (h : ∀ q ∈ l, q.2 ≤ 64) : (insBits l).length ≤ 64 * l.length := by
  induction l with
  | nil => simp [insBits]
  | cons q l ih =>
    have h1 := ih (fun x hx => h x (by simp [hx]))
    have h2 := h q (by simp)
    simp only [insBits, List.flatMap_cons, List.length_append, bitsN_length, List.length_cons] at *
    omega

/-- What may not be put, and what may. -/
def BadPut (x : Nat) (k : Int) : Prop := (k < 0 ∨ 64 < k) ∨ 2 ^ k.toNat ≤ x

theorem put_bad (w : World) (p : Nat) (h0 : w.cell? ⟨p, 0, none⟩ = some (.bool true)) (x : Nat) (k : Int) (h : BadPut x k) :
    Calls Try.prog 13 #[.pointer (some ⟨p, 0, none⟩), .int .u64 x, .int .i64 k] w fun e w' => e = .returned (.int .i64 2) ∧ w = w' := by
  by_cases hk : k < 0 ∨ 64 < k
  · exact put_arg1 w p h0 x k hk
  · rcases h with h | h
    · exact absurd h hk
    · have hk0 : 0 ≤ k := by omega
      obtain ⟨m, rfl⟩ := Int.eq_ofNat_of_zero_le hk0
      rw [Int.toNat_natCast] at h
      exact put_arg2 w p h0 x m (by omega) h

theorem good_put {x : Nat} {k : Int} (h : ¬ BadPut x k) : ∃ m : Nat, k = m ∧ m ≤ 64 ∧ x < 2 ^ m := by
  have h1 : ¬ (k < 0 ∨ 64 < k) := fun e => h (.inl e)
  have h2 : ¬ 2 ^ k.toNat ≤ x := fun e => h (.inr e)
  exact ⟨k.toNat, by omega, by omega, by omega⟩

theorem IsW.drew {B : Nat} {w : World} {p : Nat} {v : Value} {L : List Nat} (h : IsW B w p v L) : IsW B w.drew p v L := ⟨h.lo, h.blk, h.row, h.bit⟩

theorem two_new (w : World) (a b : Value) (t : TypeId) : ∀ (j : Nat) (u : Value), [a, b][j]? = some u → (w.alloc (.cells #[a, b] t)).cell? ((⟨w.heap.size, 0, none⟩ : Addr).add j) = some u := by
  intro j u hu
  rw [Addr.add_lit, blk_cell (blk_new w t #[a, b])]
  simpa using hu

theorem own_slice {w : World} {B : Nat} {e : TypeId} {size n : Nat} {v : Value} {xs : List Value} (h : w.ownsRow B e size v n xs) : ∃ A cap, v = .slice A n cap ∧ n ≤ cap ∧ cap ≤ maxLen ∧ (0 < n → ∃ g, A = some ⟨g, 0, none⟩) := by
  rcases h.2 with ⟨rfl, rfl⟩ | ⟨g, cap, cur, rfl, _, _, hn, hm, _⟩
  · exact ⟨none, 0, rfl, Nat.le_refl _, by unfold maxLen; omega, fun h => by omega⟩
  · exact ⟨some ⟨g, 0, none⟩, cap, rfl, hn, hm, fun _ => ⟨g, rfl⟩⟩

theorem insCells_get (l : List (Nat × Nat)) : ∀ j (h : j < l.length), (insCells l)[j * 2]? = some (.int .u64 l[j].1) ∧ (insCells l)[j * 2 + 1]? = some (.int .i64 l[j].2) := by
  induction l with
  | nil => intro j h; simp at h
  | cons q l ih =>
    intro j h
    cases j with
    | zero => exact ⟨rfl, rfl⟩
    | succ j =>
      have := ih j (by simpa using h)
      rw [show (j + 1) * 2 = j * 2 + 1 + 1 by omega]
      exact this

theorem ins_split (l : List (Nat × Nat)) (j : Nat) (h : j < l.length) : insBits l = insBits (l.take j) ++ (bitsN l[j].1 l[j].2 ++ insBits (l.drop (j + 1))) := by
  have e : l.take j ++ (l[j] :: l.drop (j + 1)) = l := by rw [← List.drop_eq_getElem_cons h, List.take_append_drop]
  have h1 : ∀ a b : List (Nat × Nat), insBits (a ++ b) = insBits a ++ insBits b := fun a b => by simp [insBits]
  have h2 := h1 (l.take j) (l[j] :: l.drop (j + 1))
  rw [e] at h2
  exact h2

theorem ins_next (l : List (Nat × Nat)) (j : Nat) (h : j < l.length) : (insBits (l.take (j + 1))).length = (insBits (l.take j)).length + l[j].2 := by
  rw [List.take_succ_eq_append_getElem h, insBits_snoc, List.length_append, bitsN_length]

theorem bit01_ins (l : List (Nat × Nat)) : Bit01 (insBits l) := by
  induction l with
  | nil => intro b h; simp [insBits] at h
  | cons q l ih =>
    have : insBits (q :: l) = bitsN q.1 q.2 ++ insBits l := rfl
    rw [this]
    exact (bit01_bitsN _ _).append ih

/-- What is taken at a number's place is the number. -/
theorem back_val (l : List (Nat × Nat)) (j : Nat) (h : j < l.length) (hx : l[j].1 < 2 ^ l[j].2) : val (((bitsB (pack (insBits l))).drop (insBits (l.take j)).length).take l[j].2) = l[j].1 := by
  rw [bitsB_pack _ (bit01_ins l)]
  conv => lhs; rw [ins_split l j h]
  rw [List.append_assoc, List.drop_left, List.append_assoc, List.take_left' (bitsN_length _ _), val_bitsN, Nat.mod_eq_of_lt hx]

theorem below_drewN {B : Nat} {a w : World} (h : Below B a w) (k : Nat) : Below B a (w.drewN k) := ⟨h.os, h.tape, h.output, h.size, h.block⟩

theorem back_walk (w : World) (A : Option Addr) (n c : Nat) (V : Nat → Nat) (N : Nat → Int) (hp : PairsIn w w.heap.size A n (fun i => .int .u64 (V i)) (fun i => .int .i64 (N i))) (hV : ∀ i, i < n → V i < 2 ^ 64) (hN : ∀ i, i < n → -9223372036854775808 ≤ N i ∧ N i ≤ 9223372036854775807) (hn : n ≤ 300) :
    Calls Try.prog 7 #[.slice A n c] w fun e w' => e = .returned (.bool true) ∧ Below w.heap.size w w' := by
  obtain ⟨i31, hi, hz0, hz1, hz2⟩ := info_parts Try.info31
  go_enter Try.func7, Try.ntmps7
  go_wp2_with fail
  refine (newW w).mono ?_
  rintro e w1 ⟨rfl, hw1⟩
  have hW1 : IsW w.heap.size w1 w.heap.size (.slice none 0 0) [] := by rw [hw1]; exact isW_new w _ (Nat.le_refl _)
  have hb1 : Below w.heap.size w w1 := by rw [hw1]; exact (Below.refl _ _).alloc (Nat.le_refl _) _
  have HW1 := Lib.hid hw1
  clear hw1
  go_wp2_with fail
  go_loopw [4, 5] (fun vi i wr => ∃ (j : Nat) (v : Value) (ins : List (Nat × Nat)), j ≤ n ∧ i = .int .i64 j ∧ IsW w.heap.size wr w.heap.size v (insBits ins) ∧ wr.ownsRow w.heap.size 31 2 vi ins.length (insCells ins) ∧ ins.length ≤ j ∧ (∀ q ∈ ins, q.2 ≤ 64 ∧ q.1 < 2 ^ q.2) ∧ Below w.heap.size w wr) (fun _ i _ => n - (intOf i).toNat)
  case atStart => exact ⟨0, _, [], Nat.zero_le _, rfl, hW1, World.ownsRow_nil _ _ _ _, by simp, by simp, hb1⟩
  case round =>
    obtain ⟨j, v, ins, hj, rfl, hW, hown, hlen, hall, hb⟩ := hrel
    by_cases h : j < n
    · obtain ⟨b, off, rfl, hbB, hc⟩ := hp (by omega)
      have g1 : wr.cell? ⟨b, off + j * 2, none⟩ = some (.int .u64 (V j)) := (hb.cell (p := ⟨b, off + j * 2, none⟩) hbB).trans (hc j h).1
      have g2 : wr.cell? ⟨b, off + j * 2 + 1, none⟩ = some (.int .i64 (N j)) := (hb.cell (p := ⟨b, off + j * 2 + 1, none⟩) hbB).trans (hc j h).2
      have HV := hV j h
      have HN := hN j h
      clear hc
      have hwd := hW.drew
      have hbd := hb.drew
      have hod : wr.drew.ownsRow _ _ _ _ _ _ := hown
      have g1d : wr.drew.cell? ⟨b, off + j * 2, none⟩ = some (.int .u64 (V j)) := g1
      have g2d : wr.drew.cell? ⟨b, off + j * 2 + 1, none⟩ = some (.int .i64 (N j)) := g2
      by_cases hbad : BadPut (V j) (N j)
      · go_upto_region 10 with fail
        go_still_tail 11, (by kernel_rfl)
        change wpList _ _ _ _ _ wr.drew
        generalize wr.drew = wd at *
        have c0 := blk_cell hwd.blk 0
        simp at c0
        go_wp2_with (go_at_call 13; refine (put_bad _ _ c0 _ _ hbad).mono ?_; rintro e w' ⟨rfl, rfl⟩)
        go_roundw
        case rel => exact ⟨j + 1, v, ins, h, by go_num, hwd, hod, by omega, hall, hbd⟩
        case measure => simp [intOf]; omega
      · obtain ⟨k, hk, hk64, hx⟩ := good_put hbad
        clear hbad
        rw [hk] at g2 g2d
        have HK := Lib.hid hk
        clear hk HN HV
        go_upto_region 10 with fail
        go_still_tail 11, (by kernel_rfl)
        change wpList _ _ _ _ _ wr.drew
        generalize wr.drew = wd at *
        have hib := insBits_length ins (fun q hq => (hall q hq).1)
        go_wp2_with (first | (go_at_call 13; refine (put_ok _ _ _ _ _ _ _ hwd (by omega) hk64 hx).mono ?_; rintro e w2 ⟨rfl, v2, hW2, hS2⟩; have d1 := (hS2.below.cell (p := ⟨b, off + j * 2, none⟩) hbB).trans g1d; have d2 := (hS2.below.cell (p := ⟨b, off + j * 2 + 1, none⟩) hbB).trans g2d; have ho2 := hS2.row hod (fun g hg => by simpa using row_ne hod hwd.blk (by decide) g hg) (by decide)) | (at_builtin; refine wpList_append_own _ rfl _ _ 22 rfl w.heap.size 31 i31 (.agg #[.int .u64 0, .int .i64 0]) 2 16 Try.underlying22 hi hz0 hz1 hz2 rfl (by decide) _ _ _ rfl (ho2.alloc _) ⟨w2.heap.size, 0, none⟩ 1 1 [.int .u64 (V j), .int .i64 k] rfl rfl ?c1 ?c2 ?c3 ?c4 ?c5 ?_))
        case c1 => exact two_new _ _ _ _
        case c2 => intro u hu; simp at hu; rcases hu with rfl | rfl <;> rfl
        case c3 => unfold maxLen; omega
        case c4 => omega
        case c5 => have := hS2.size; have := hbd.size; simp; omega
        intro v3 w3 hown3 hgrow3 _
        have hs3 : Step w.heap.size [] [31] (w2.alloc (.cells #[.int .u64 (V j), .int .i64 k] 31)) w3 := (Step.refl _ _ _ _).grown hgrow3 (by have := hS2.size; have := hbd.size; simp; omega) (row_blk (ho2.alloc _))
        have hW3 := (hW2.alloc (.cells #[.int .u64 (V j), .int .i64 k] 31)).step hs3 (by simp) (by simp) (by decide) (by decide)
        have hb3 : Below w.heap.size w w3 := ((hbd.trans hS2.below).alloc (by have := hS2.size; have := hbd.size; omega) _).trans hs3.below
        clear hs3 hgrow3
        go_wp2
        go_roundw
        case rel => exact ⟨j + 1, v2, ins ++ [(V j, k)], h, by go_num, by rw [insBits_snoc]; exact hW3, by rw [insCells_snoc, List.length_append, List.length_singleton]; exact hown3, by rw [List.length_append, List.length_singleton]; omega, fun q hq => by
          rcases List.mem_append.1 hq with hq | hq
          · exact hall q hq
          · obtain rfl := List.mem_singleton.1 hq; exact ⟨hk64, hx⟩, hb3⟩
        case measure => simp [intOf]; omega
    · obtain rfl : j = n := by omega
      obtain ⟨A', cap, hv, hcap, hcm, hA'⟩ := own_slice hown
      rw [hv] at hown ⊢
      have HV := Lib.hid hv
      clear hv
      have hib := insBits_length ins (fun q hq => (hall q hq).1)
      have hsz : (pack (insBits ins)).length = ((insBits ins).length + 7) / 8 := pack_length _
      go_wp2_with fail
      refine (wtext_yes _ _ _ _ _ hW).mono ?_
      rintro e w' ⟨rfl, rfl⟩
      go_wp2_with fail
      have hs0 : ((ByteArray.mk (pack (insBits ins)).toArray).size : Int) = (((insBits ins).length + 7) / 8 : Nat) := by
        rw [← hsz]; rfl
      refine (newR_yes _ _ 0 (by rw [← Int.ofNat_le]; rw [hs0]; omega) (by omega) (by omega)).mono ?_
      rintro e w4 ⟨rfl, hw4⟩
      have hW4 : IsW w.heap.size w4 w.heap.size v (insBits ins) := by rw [hw4]; exact hW.alloc _
      have hR4 : IsR w.heap.size w4 wr.heap.size ⟨(pack (insBits ins)).toArray⟩ 0 := by rw [hw4]; exact isR_new wr _ hb.size _ 0
      have ho4 : w4.ownsRow w.heap.size 31 2 (.slice A' ins.length cap) ins.length (insCells ins) := by rw [hw4]; exact hown.alloc _
      have hb4 : Below w.heap.size w w4 := by rw [hw4]; exact hb.alloc hb.size _
      have HW4 := Lib.hid hw4
      have HS0 := Lib.hid hs0
      have HSZ := Lib.hid hsz
      clear hw4 hs0 hsz
      go_wp2_with fail
      generalize hgs : (ByteArray.mk (pack (insBits ins)).toArray) = s at *
      have HGS := Lib.hid hgs
      clear hgs
      have hs8 : 8 * s.size < (insBits ins).length + 8 ∧ (insBits ins).length ≤ 8 * s.size := by have := HS0.out; omega
      go_loopw [7] (fun i wx => ∃ m : Nat, m ≤ ins.length ∧ i = .int .i64 m ∧ IsW w.heap.size wx w.heap.size v (insBits ins) ∧ IsR w.heap.size wx wr.heap.size s (insBits (ins.take m)).length ∧ wx.ownsRow w.heap.size 31 2 (.slice A' ins.length cap) ins.length (insCells ins) ∧ Below w.heap.size w wx) (fun i _ => ins.length - (intOf i).toNat)
      case atStart => exact ⟨0, Nat.zero_le _, rfl, hW4, hR4, ho4, hb4⟩
      case round =>
        obtain ⟨m, hm, rfl, hW5, hR5, ho5, hb5⟩ := hrel
        by_cases hml : m < ins.length
        · obtain ⟨x, hx⟩ : ∃ x, x = ins[m].1 := ⟨_, rfl⟩
          obtain ⟨k, hk⟩ : ∃ k, k = ins[m].2 := ⟨_, rfl⟩
          have hxk : k ≤ 64 ∧ x < 2 ^ k := by rw [hx, hk]; exact hall _ (List.getElem_mem hml)
          have hget := insCells_get ins m hml
          rw [← hx, ← hk] at hget
          obtain ⟨g, hg⟩ := hA' (by omega)
          obtain rfl := hg
          have q1 := ho5.cellAt (m * 2) (by omega)
          have q2 := ho5.cellAt (m * 2 + 1) (by omega)
          rw [hget.1] at q1
          rw [hget.2] at q2
          have hnext := ins_next ins m hml
          have hle : (insBits (ins.take m)).length + k ≤ 8 * s.size := by
            have h1 := congrArg List.length (ins_split ins m hml)
            rw [List.length_append, List.length_append, bitsN_length, ← hk] at h1
            omega
          have htake := take_ok _ _ _ _ _ k hR5 (by omega) hxk.1 hle
          have hval := back_val ins m hml (by rw [← hx, ← hk]; exact hxk.2)
          have hsl : s.data.toList = pack (insBits ins) := by rw [← HGS.out]
          rw [hsl, hk, hval, ← hk, ← hx] at htake
          rw [← hk] at hnext
          have HT := Lib.hid htake
          have HNX := Lib.hid hnext
          clear htake hnext hval hsl hget hx hk
          go_wp2_with (go_at_call 21; refine HT.out.mono ?_; rintro e w6 ⟨rfl, hR6, hS6⟩; have ho6 := hS6.row ho5 (fun g hg => by simpa using row_ne ho5 hR5.blk (by decide) g hg) (by simp); have q3 := (ho6.cellAt (m * 2) (by omega)).trans ((ho5.cellAt (m * 2) (by omega)).symm.trans q1))
          go_roundw
          case rel => exact ⟨m + 1, hml, rfl, hW5.take hR5 hS6, by rw [HNX.out]; exact hR6, ho6, hb5.trans hS6.below⟩
          case measure => simp [intOf]; omega
        · obtain rfl : m = ins.length := by omega
          rw [List.take_length] at hR5
          have a0 := blk_cell hR5.blk 0
          have a1 := blk_cell hR5.blk 1
          have a2 := blk_cell hR5.blk 2
          have b0 := blk_cell hW5.blk 0
          have b2 := blk_cell hW5.blk 2
          simp at a0 a1 a2 b0 b2
          generalize (insBits ins).length = len at *
          have hlt : (decide (8 * (s.size : Int) - len < 8)) = true := by rw [decide_eq_true_iff]; omega
          have hsb := hb5.size
          go_wp2_with (first | (go_at_call 23; refine (rat_yes _ _ _ a0 a2).mono ?_; rintro e w' ⟨rfl, rfl⟩) | (go_at_call 14; refine (wlen_yes _ _ _ b0 b2).mono ?_; rintro e w' ⟨rfl, rfl⟩) | (go_at_call 24; refine (rleft_yes _ _ s len (by omega) (by omega) a0 a1 a2).mono ?_; rintro e w' ⟨rfl, kk, rfl⟩) | (go_at_call 10; refine (awake_any _).mono ?_; rintro e w' ⟨rfl, hbw⟩))
          go_ret
          exact ⟨rfl, (below_drewN hb5 kk).trans (hbw.mono hsb)⟩

theorem back_big (w : World) (A : Option Addr) (n c : Nat) (hn : 300 < n) (_hm : n ≤ maxLen) :
    Calls Try.prog 7 #[.slice A n c] w fun e w' => e = .returned (.bool true) ∧ Below w.heap.size w w' := by
  go_enter Try.func7, Try.ntmps7
  go_wp2_with (go_at_call 10; refine (awake_any _).mono ?_; rintro e w' ⟨rfl, hbw⟩)
  go_ret
  exact ⟨rfl, hbw⟩

end Go.Proofs.Ytelgmihemnidkaa
namespace Go.Proofs.Ytelgmihemnidkaa.BitsBack
open Go.ChangeShapes Go.WideShapes Go.ChangeAt Go.RowKit

set_option maxRecDepth 100000 in
theorem lifted (os : Os) (started : os.Started) (H : Type) (enc : TypeId × Value → H) :
    ReturnsInHanded {} Try.checked os 7 .any (Rows.bitsBackSpec.pre6 enc Try.prog Try.f7 Rows.bitsBackRow.domain false) (Rows.bitsBackSpec.post enc Try.prog Try.f7 false true false false) := by
  refine returnsInHanded_of_change (C := Try.checked) own started (by kernel_rfl) Try.func7
    (ChangeSpec.witness6 (enc := enc) (C := Try.checked) false ⟨#[], #[.slice none 0 0], []⟩ 8 (by kernel_rfl) (by kernel_rfl) (by kernel_rfl) (by kernel_rfl)) ?_
  intro W base args ds gs before hval0 hW hcnd _
  have hval : ∀ (j : Nat) t v, Try.f7.params[j]? = some t → args[j]? = some v → Value.okWide Try.prog W .any base t v := hval0
  have hW' := hW
  obtain ⟨p, q, hA0, hV, rfl, hfz, hnd⟩ := hW
  have hA : DataW.TrodAll enc Try.prog W 0 (fun _ => true) true Try.f7.params.toList args.toList ds p := hA0
  rw [Try.params7] at hA hval
  obtain ⟨v0, vs0, d0, ds0, p0, q0, hargs, rfl, rfl, h0, r0⟩ := trodAll_cons hA
  obtain ⟨rfl, rfl, rfl⟩ := trodAll_nil r0
  obtain rfl : args = #[v0] := by cases args; simp_all
  obtain ⟨rfl, rfl⟩ := trodVars_none hV
  obtain ⟨A, n, c, rfl⟩ := okWide_slice Try.underlying22 (hval 0 22 v0 rfl rfl)
  obtain ⟨V, N, hnc, hm, hp, hV', hN'⟩ := open_puts h0
  clear hA0 hval0
  have fin : ∀ e W', (e = Ending.returned (.bool true) ∧ Below W.heap.size W W') → ∃ v, e = Ending.returned v ∧ Rows.bitsBackSpec.post enc Try.prog Try.f7 false true false false W #[.slice A n c] v W' := by
    rintro e W' ⟨rfl, hb⟩
    exact ⟨_, rfl, law_done hW' rfl hb (by kernel_rfl) (by kernel_rfl) rfl⟩
  by_cases hn : n ≤ 300
  · exact (back_walk W A n c V N hp hV' hN' hn).mono fin
  · exact (back_big W A n c (by omega) hm).mono fin

theorem over : Rows.bitsBackRow.holds Try.pinned (OpenSpec.ofChange Rows.bitsBackSpec) :=
  OpenClaim.holds_of_wide 7 Try.f7 rfl rfl rfl rfl rfl rfl rfl ⟨rfl, rfl, rfl, rfl, rfl⟩ rfl rfl rfl rfl rfl (by kernel_rfl) Try.func7 (by kernel_rfl)
    (of_decide_eq_true (by kernel_rfl)) (by unfold Func.isWrapper; first | (rw [if_pos (by decide +kernel)]; kernel_rfl) | (rw [if_neg (by decide +kernel)]; exact ⟨rfl, rfl⟩))
    (fun os started H enc _ => lifted os started H enc)

end Go.Proofs.Ytelgmihemnidkaa.BitsBack
namespace Go.Proofs.Ytelgmihemnidkaa
/-- The given statement. -/
theorem bitsBack_holds : Rows.BitsBackSaid := BitsBack.over
#print axioms bitsBack_holds
end Go.Proofs.Ytelgmihemnidkaa
