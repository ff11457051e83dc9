/- Ustar: heads compared. Written ahead of stage 16. -/
import Derived.Test.YtdjmfkodjjjhfaaGreatDoorUse
import Derived.Laws.StructEq
import Derived.Test.YtdjmfkodjjjhfaaGreatDoorPxj
import Derived.Test.YtdjmfkodjjjhfaaGreatDoorTpd
import Derived.Laws.MakeOwn
import Derived.Test.YtdjmfkodjjjhfaaGreatDoorFdb
import Derived.BigRegion
import Derived.Lib.AppendZeros
import Derived.Deep.RegionHeld3
import Derived.BigQuiet
import Derived.Laws.CopyRow
namespace Go.Proofs.YtdjmfkodjjjhfaaGreatDoor
open Go.RowKit

theorem rdec16_any (w : World) (t : ByteArray) (hs : t.size ≤ 9223372036854775807) : Calls Tryz.prog 67 #[.string t] w fun e w' => e = .returned (.tuple #[headV (decA t.data.toList).1, .int .i64 (decA t.data.toList).2]) ∧ Below w.heap.size w w' := by
  by_cases h : t.size = 512 ∧ fld t.data.toList 257 265 = ustarL
  · exact rdec_yes w t h.1 h.2
  · have hd : decA t.data.toList = (zeroHead, 160) := by
      unfold decA
      rw [if_neg (fun hok => h ⟨hok.1, hok.2.1⟩)]
    rw [hd]
    refine rdec_no w t hs ?_
    by_cases h1 : t.size = 512
    · exact .inr fun h2 => h ⟨h1, h2⟩
    · exact .inl h1
set_option maxRecDepth 100000 in
theorem str2_in (d : Nat) (a b c e : ByteArray) (w : World) : (Op.equalIn (d + 1 + 1) 62 (.agg #[.string a, .string b]) (.agg #[.string c, .string e])).run Tryz.prog w = .ok (a.toList == c.toList && b.toList == e.toList) w := by
  rw [Op.equalIn]
  simp [run_underlying Tryz.underlying62, part, go_sem, List.range']
  by_cases h0 : a.toList = c.toList
  · by_cases h1 : b.toList = e.toList
    · simp [h0, h1]
    · simp [h0, h1]
  · simp [h0]
set_option maxRecDepth 100000 in
theorem int2_in (d : Nat) (a b c e : Int) (w : World) : (Op.equalIn (d + 1 + 1) 63 (.agg #[.int .i64 a, .int .i64 b]) (.agg #[.int .i64 c, .int .i64 e])).run Tryz.prog w = .ok (a == c && b == e) w := by
  rw [Op.equalIn]
  simp [run_underlying Tryz.underlying63, part, go_sem, List.range']
  by_cases h0 : a = c
  · by_cases h1 : b = e
    · simp [h0, h1]
    · simp [h0, h1]
  · simp [h0]
set_option maxRecDepth 100000 in
theorem guardH : Tryz.prog.eqGuardType Tryz.prog.depth 65 = false := by kernel_rfl
set_option maxRecDepth 100000 in
theorem heldH : Tryz.prog.stoodInHeld 65 = false := by kernel_rfl
set_option maxRecDepth 100000 in
theorem fieldsH : Tryz.prog.underlying 65 = some (.struct (Tryz.prog.fieldsOf 65)) := by simp [Program.fieldsOf, Tryz.underlying65]
def sameH (x y : HeadP) : Bool := x.path.toList == y.path.toList && (x.size == y.size && ((x.kind : Int) == (y.kind : Int) && (x.mode == y.mode && (x.time == y.time && (x.link.toList == y.link.toList && ((x.user.toList == y.user.toList && x.group.toList == y.group.toList) && (x.uid == y.uid && x.gid == y.gid)))))))
theorem bytes_same (a b : ByteArray) : (a.toList == b.toList) = true ↔ a = b := by
  rw [ByteArray.toList_eq, ByteArray.toList_eq, beq_iff_eq]
  constructor
  · intro h
    apply ByteArray.ext
    exact Array.toList_inj.1 h
  · exact fun h => by rw [h]
theorem bytes_eq {a b : ByteArray} (h : a.toList = b.toList) : a = b := (bytes_same a b).1 (by rw [beq_iff_eq]; exact h)
set_option maxRecDepth 100000 in
theorem sameH_true (x y : HeadP) : sameH x y = true ↔ x = y := by
  constructor
  · intro hs
    unfold sameH at hs
    simp only [Bool.and_eq_true, beq_iff_eq] at hs
    obtain ⟨h1, h2, h3, h4, h5, h6, ⟨h7, h8⟩, h9, h10⟩ := hs
    cases x
    cases y
    simp only [HeadP.mk.injEq]
    exact ⟨bytes_eq h1, h2, Int.ofNat.inj h3, h4, h5, bytes_eq h6, bytes_eq h7, bytes_eq h8, h9, h10⟩
  · intro h
    subst h
    unfold sameH
    simp
instance (x y : HeadP) : Decidable (x = y) := decidable_of_iff _ (sameH_true x y)
theorem sameH_iff (x y : HeadP) : sameH x y = decide (x = y) := by
  by_cases h : x = y
  · rw [decide_eq_true h]
    exact (sameH_true x y).2 h
  · rw [decide_eq_false h, ← Bool.not_eq_true]
    exact fun hs => h ((sameH_true x y).1 hs)
set_option maxRecDepth 100000 in
set_option maxHeartbeats 1600000 in
theorem head_eql (x y : HeadP) (w : World) : (binOp .eql 65 (headV x) (headV y)).run Tryz.prog w = .ok (.bool (decide (x = y))) w := by
  rw [← sameH_iff]
  unfold headV headCs
  rw [run_eql_struct, run_equalIn_agg w 9999 65 _ _ fieldsH heldH]
  have hs := fun (a b c e : ByteArray) wx => str2_in 9997 a b c e wx
  have hi := fun (a b c e : Int) wx => int2_in 9997 a b c e wx
  simp [Program.fieldsOf, Tryz.underlying65, Op.eqFields, part, go_sem, hs, hi, Tryz.sizeOf62, Tryz.sizeOf63]
  unfold sameH
  by_cases a0 : x.path.toList = y.path.toList
  · by_cases a1 : x.size = y.size
    · by_cases a2 : (x.kind : Int) = (y.kind : Int)
      · by_cases a3 : x.mode = y.mode
        · by_cases a4 : x.time = y.time
          · by_cases a5 : x.link.toList = y.link.toList
            · by_cases a6 : x.user.toList = y.user.toList
              · by_cases a7 : x.group.toList = y.group.toList
                · by_cases a8 : x.uid = y.uid
                  · by_cases a9 : x.gid = y.gid
                    · simp [a0, a1, a2, a3, a4, a5, a6, a7, a8, a9]
                    · simp [a0, a1, a2, a3, a4, a5, a6, a7, a8, a9]
                  · simp [a0, a1, a2, a3, a4, a5, a6, a7, a8]
                · simp [a0, a1, a2, a3, a4, a5, a6, a7]
              · simp [a0, a1, a2, a3, a4, a5, a6]
            · simp [a0, a1, a2, a3, a4, a5]
          · simp [a0, a1, a2, a3, a4]
        · simp [a0, a1, a2, a3]
      · simp [a0, a1, a2]
    · simp [a0, a1]
  · simp [a0]
end Go.Proofs.YtdjmfkodjjjhfaaGreatDoor
/- Tar: the reference's Filled, part. Written ahead of stage 18. -/
namespace Go.Proofs.YtdjmfkodjjjhfaaGreatDoor
open Go.RowKit

theorem encA_le (h : HeadP) : (encA h).1.length ≤ 512 := by
  by_cases e : (encA h).2 = 0
  · rw [(enc_dec h (encA h).1 (Prod.ext rfl e)).2.1]
    exact Nat.le_refl _
  · rw [enc_err h e]
    exact Nat.zero_le _
theorem made_conv (w : World) (n : Nat) : (convert 80 9 (.slice (some ⟨w.heap.size, 0, none⟩) n n)).run Tryz.prog (w.alloc (.cells (madeCells #[.int .u8 0] n) 5)) = .ok (.string (strF (List.replicate n 0))) (w.alloc (.cells (madeCells #[.int .u8 0] n) 5)) := by
  have h := run_convert_bytes_arg (P := Tryz.prog) (w.alloc (.cells (madeCells #[.int .u8 0] n) 5)) 80 5 Tryz.underlying80 Tryz.underlying5 w.heap.size 0 n n (List.replicate n 0) List.length_replicate (fun i hi => by
    rw [Nat.zero_add, blk_cell (blk_new w _ _) i, ← Array.getElem?_toList, toList_madeCells_one, List.getElem?_replicate, if_pos hi, List.getD_eq_getElem?_getD, List.getElem?_replicate, if_pos hi]
    rfl) 9 Tryz.underlying9
  rw [show strOfNums (List.replicate n 0) = strF (List.replicate n 0) from by
    unfold strOfNums strF
    rw [List.map_replicate]
    rfl] at h
  exact h
theorem made_run (wx : World) (n : Nat) (hn : n ≤ 1000000) : (Instr.makeSlice 80 (.int .i64 n) (.int .i64 n)).run Tryz.prog wx = .ok (.slice (some ⟨wx.heap.size, 0, none⟩) n n) (wx.alloc (.cells (madeCells #[.int .u8 0] n) 5)) := by
  obtain ⟨i5, h5, hz0, hz1, hz2⟩ := info_parts Tryz.info5
  have h := run_make (P := Tryz.prog) wx 80 5 i5 (.int .u8 0) Tryz.underlying80 h5 hz0 .i64 .i64 (n : Int) (n : Int) (by omega) (by omega) (by rw [hz2]; omega) (by omega)
  rw [hz1, Int.toNat_natCast, Nat.mul_one] at h
  exact h
set_option maxHeartbeats 1600000 in
set_option maxRecDepth 100000 in
theorem rfilled_any (w : World) (t : ByteArray) (hs : t.size ≤ 1000000) : Calls Tryz.prog 58 #[.string t] w fun e w' => e = .returned (.string (strF (fillL t.data.toList))) ∧ Below w.heap.size w w' := by
  have hl : t.data.toList.length = t.size := rfl
  have hself := strF_self t
  obtain ⟨m, hm⟩ : ∃ m, m = t.size % 512 := ⟨_, rfl⟩
  have hmz : (t.size : Int) % 512 = (m : Int) := by omega
  by_cases e : m = 0
  · have hf : fillL t.data.toList = t.data.toList := by
      unfold fillL
      rw [show upTo t.data.toList.length - t.data.toList.length = 0 by rw [hl]; unfold upTo; omega]
      exact List.append_nil _
    have HF : Hid (strF (fillL t.data.toList) = t) := Lib.hid (by rw [hf, hself])
    rw [HF.out]
    have d0 : ((m : Int) == 0) = true := by rw [e]; rfl
    clear hl hself hm e hf
    go_enter Tryz.func58, Tryz.ntmps58
    go_wp2_with fail
    go_ret
    exact ⟨rfl, Below.refl _ _⟩
  · have hk : upTo t.size - t.size = 512 - m := by unfold upTo; omega
    have HF : Hid (t ++ strF (List.replicate (512 - m) 0) = strF (fillL t.data.toList)) := Lib.hid (by
      unfold fillL
      rw [hl, hk, ← strF_app, hself])
    have d0 : ((m : Int) == 0) = false := beq_false_of_ne (by omega)
    obtain ⟨k, hkk⟩ : ∃ k, k = 512 - m := ⟨_, rfl⟩
    have hsub : (512 : Int) - (m : Int) = (k : Int) := by omega
    rw [← hkk] at HF
    have hzk : (strF (List.replicate k (0 : UInt8))).size ≤ 512 := by show (List.replicate k (0 : UInt8)).length ≤ _; rw [List.length_replicate]; omega
    have hmk := made_run w k (by omega)
    have hcv := made_conv w k
    have HB : Hid (Below w.heap.size w (w.alloc (.cells (madeCells #[.int .u8 0] k) 5))) := Lib.hid ((Below.refl _ _).alloc (Nat.le_refl _) _)
    generalize strF (List.replicate k (0 : UInt8)) = Z at *
    generalize strF (fillL t.data.toList) = RES at *
    clear hl hself hm e hk hkk
    go_enter Tryz.func58, Tryz.ntmps58
    go_wp2_with fail
    rw [HF.out]
    go_ret
    exact ⟨rfl, HB.out⟩
set_option maxRecDepth 100000 in
theorem hdV (p : ByteArray) (k n : Nat) : headV (hdT p.data.toList k n) = .agg #[.string p, .int .i64 n, .int .u8 k, .int .i64 420, .int .i64 0, .string ⟨#[]⟩, .string ⟨#[]⟩, .string ⟨#[]⟩, .int .i64 0, .int .i64 0] := by
  unfold headV headCs hdT
  dsimp only
  rw [strF_self]
set_option maxRecDepth 100000 in
theorem hdB (p : ByteArray) (k n : Nat) (hk : k < 256) (hp : p.size ≤ 1000000) : HeadB (hdT p.data.toList k n) := ⟨hk, fun i hi => by
  have h0 : (strF p.data.toList).size = p.size := rfl
  have : i = 0 ∨ i = 1 ∨ i = 2 ∨ i = 3 := by omega
  rcases this with rfl | rfl | rfl | rfl
  · show (strF p.data.toList).size ≤ _
    omega
  · show (⟨#[]⟩ : ByteArray).size ≤ _; decide
  · show (⟨#[]⟩ : ByteArray).size ≤ _; decide
  · show (⟨#[]⟩ : ByteArray).size ≤ _; decide⟩
theorem fill_le (l : List UInt8) : (fillL l).length ≤ l.length + 511 := by
  rw [fillL_length]
  unfold upTo
  omega
theorem partT_le (p : List UInt8) (k : Nat) (d : List UInt8) : (partT p k d).length ≤ d.length + 1023 := by
  have h1 := encA_le (hdT p k d.length)
  have h2 := fill_le d
  unfold partT
  rw [List.length_append]
  omega
set_option maxHeartbeats 1600000 in
set_option maxRecDepth 100000 in
theorem rpart_any (w : World) (p d : ByteArray) (k : Nat) (hk : k < 256) (hp : p.size ≤ 1000000) (hd : d.size ≤ 900000) :
    Calls Tryz.prog 32 #[.string p, .int .u8 k, .string d] w fun e w' => e = .returned (.string (strF (partT p.data.toList k d.data.toList))) ∧ Below w.heap.size w w' := by
  have C1 := Lib.hid fun wx : World => renc16_any wx (hdT p.data.toList k d.size) (hdB p k d.size hk hp)
  rw [hdV] at C1
  have C2 := Lib.hid fun wx : World => rfilled_any wx d (by omega)
  have HF : Hid (strP (encA (hdT p.data.toList k d.size)).1 ++ strF (fillL d.data.toList) = strF (partT p.data.toList k d.data.toList)) := Lib.hid (strF_app _ _)
  have h1 : (strP (encA (hdT p.data.toList k d.size)).1).size ≤ 512 := encA_le _
  have h2 : (strF (fillL d.data.toList)).size ≤ 1000000 := by
    have := fill_le d.data.toList
    have hl : d.data.toList.length = d.size := rfl
    show (fillL d.data.toList).length ≤ _
    omega
  generalize strP (encA (hdT p.data.toList k d.size)).1 = X at *
  generalize (encA (hdT p.data.toList k d.size)).2 = E at *
  generalize strF (fillL d.data.toList) = FD at *
  generalize strF (partT p.data.toList k d.data.toList) = RES at *
  go_enter Tryz.func32, Tryz.ntmps32
  go_wp2_with fail
  refine (C1.out _).mono ?_
  rintro e w2 ⟨rfl, hb2⟩
  have HB2 := Lib.hid hb2
  clear hb2
  go_wp2_with fail
  refine (C2.out _).mono ?_
  rintro e w3 ⟨rfl, hb3⟩
  have HB3 := Lib.hid (HB2.out.trans (hb3.mono HB2.out.size))
  clear hb3
  go_wp2_with fail
  rw [HF.out]
  go_ret
  exact ⟨rfl, HB3.out⟩
end Go.Proofs.YtdjmfkodjjjhfaaGreatDoor
/- Pax: the reference's Decode. Written ahead of stage 18. -/
namespace Go.Proofs.YtdjmfkodjjjhfaaGreatDoor
open Go.RowKit

/-- Decode's answer: the pairs whose text it is, or none. -/
def PairsPost (w : World) (t : ByteArray) (e : Ending) (w' : World) : Prop :=
  (∃ A n c L, e = .returned (.tuple #[.slice A n c, .int .i64 0]) ∧ keysK (L.map toL) ∧ flatP (L.map toL) = t.data.toList ∧ n ≤ maxLen ∧ w'.ownsRow w.heap.size 56 2 (.slice A n c) n (cellsB L) ∧ Below w.heap.size w w') ∨
  (e = .returned (.tuple #[.slice none 0 0, .int .i64 (170 : Nat)]) ∧ (∀ l, keysK l → flatP l ≠ t.data.toList) ∧ Below w.heap.size w w')
def sizeS : Value → Nat
  | .string s => s.size
  | _ => 0
set_option maxRecDepth 100000 in
theorem empty_list {R : ByteArray} : R.toList.isEmpty = true ↔ R.data.toList = [] := by
  rw [ByteArray.toList_eq]
  cases R.data.toList <;> simp
theorem ext_some (t : ByteArray) (a b : Nat) : (t.extract a b).data.toList = (t.data.toList.take b).drop a := fext_list t a b
set_option maxHeartbeats 6400000 in
set_option maxRecDepth 100000 in
theorem rpdec_any (w : World) (t : ByteArray) (hs : t.size ≤ 200000) : Calls Tryz.prog 39 #[.string t] w (PairsPost w t) := by
  have HYES : Hid (∀ (A : Option Addr) (n c : Nat) (L : List PairB) (w' : World), keysK (L.map toL) → flatP (L.map toL) = t.data.toList → n ≤ maxLen → w'.ownsRow w.heap.size 56 2 (.slice A n c) n (cellsB L) → Below w.heap.size w w' → PairsPost w t (.returned (.tuple #[.slice A n c, .int .i64 0])) w') := Lib.hid fun A n c L w' h1 h2 h3 h4 h5 => .inl ⟨A, n, c, L, rfl, h1, h2, h3, h4, h5⟩
  have HNO : Hid (∀ (L : List PairB) (R : ByteArray) (w' : World), keysK (L.map toL) → flatP (L.map toL) ++ R.data.toList = t.data.toList → noRec R.data.toList → Below w.heap.size w w' → PairsPost w t (.returned (.tuple #[.slice none 0 0, .int .i64 170])) w') := Lib.hid fun L R w' h1 h2 h3 h4 => .inr ⟨rfl, stuck_none (L.map toL) R.data.toList t.data.toList h1 (by show t.size ≤ _; omega) h2 h3, h4⟩
  generalize PairsPost w t = PO at *
  have d0 : decide ((262144 : Int) < (t.size : Int)) = false := decide_eq_false (by omega)
  have HPL := Lib.hid fun (wx : World) (s : ByteArray) (b : UInt8) (h : s.size ≤ 9223372036854775807) => rplace_any wx s b h
  have HDE := Lib.hid fun (wx : World) (s : ByteArray) (h : s.size ≤ 9223372036854775807) => rdecimal_any wx s h
  have HMAY := Lib.hid fun (wx : World) (s : ByteArray) (h : s.size ≤ 9223372036854775807) => rkey_any wx s h
  have HREC := Lib.hid fun (wx : World) (k v : ByteArray) (h : k.size + v.size ≤ 900000) => rrecord_any wx k v h
  have hnil : w.ownsRow w.heap.size 56 2 (.slice none 0 0) 0 (cellsB []) := ⟨rfl, .inl ⟨rfl, rfl⟩⟩
  have HNIL := Lib.hid hnil
  have htz : t.size ≤ 200000 := hs
  clear hnil hs
  go_enter Tryz.func39, Tryz.ntmps39
  go_wp2_with fail
  go_loopw [0, 4] (fun sv so wx => ∃ (R : ByteArray) (L : List PairB) (A : Option Addr) (n c : Nat), sv = .string R ∧ so = .slice A n c ∧ R.size ≤ 200000 ∧ n ≤ 200000 ∧ Below w.heap.size w wx ∧
    Hid (wx.ownsRow w.heap.size 56 2 (.slice A n c) n (cellsB L) ∧ keysK (L.map toL) ∧ flatP (L.map toL) ++ R.data.toList = t.data.toList ∧ n + R.size ≤ 200000)) (fun sv _ _ => sizeS sv)
  case atStart => exact ⟨t, [], none, 0, 0, rfl, rfl, htz, Nat.zero_le _, Below.refl _ _, Lib.hid ⟨HNIL.out, fun p hp => by simp at hp, rfl, by omega⟩⟩
  case round =>
    obtain ⟨R, L, A, n, c, rfl, rfl, hRz, hnz, hbx, hJ⟩ := hrel
    have HBX := Lib.hid hbx
    clear htz hbx
    by_cases er : R.data.toList = []
    · have d1 : R.toList.isEmpty = true := empty_list.2 er
      have HF := Lib.hid (HYES.out A n c L wr hJ.out.2.1 (by rw [← hJ.out.2.2.1, er, List.append_nil]) (by unfold maxLen; omega) hJ.out.1 HBX.out)
      clear er hJ
      go_wp2_with fail
      exact HF.out
    have d1 : R.toList.isEmpty = false := by
      cases h : R.toList.isEmpty
      · rfl
      · exact absurd (empty_list.1 h) er
    have HER := Lib.hid er
    have hll : R.data.toList.length = R.size := rfl
    have HRI := Lib.hid fun (p : PairL) (r : List UInt8) (h : R.data.toList = recL p ++ r) => rec_if (R := R.data.toList) (by show R.size ≤ _; omega) h
    have HBAD : Hid ((∀ p r, keyK p.1 → R.data.toList ≠ recL p ++ r) → PO (.returned (.tuple #[.slice none 0 0, .int .i64 170])) wr) := Lib.hid fun h => HNO.out L R wr hJ.out.2.1 hJ.out.2.2.1 ⟨HER.out, h⟩ HBX.out
    have hp32 := (placeL_upto 32 R.data.toList).2
    obtain ⟨a0, ha0⟩ : ∃ a, a = placeL 32 R.data.toList := ⟨_, rfl⟩
    have HA0 := Lib.hid ha0
    have C1 := Lib.hid (HPL.out wr R 32 (by omega))
    rw [← ha0] at C1 hp32
    rw [hll] at hp32
    have ha0z : (a0 : Int) ≤ (R.size : Int) := by omega
    obtain ⟨S0, hS0⟩ : ∃ S, S = R.extract 0 a0 := ⟨_, rfl⟩
    have hS0l : S0.data.toList = R.data.toList.take a0 := by rw [hS0, fext_list, List.drop_zero]
    have hS0z : S0.size ≤ 200000 := by rw [hS0, ByteArray.size_extract]; omega
    have C2 := Lib.hid (HDE.out wr S0 (by omega))
    rw [hS0l, ha0] at C2
    obtain ⟨n0, hn0⟩ : ∃ x, x = (decimalA (R.data.toList.take (placeL 32 R.data.toList))).1 := ⟨_, rfl⟩
    obtain ⟨e0, he0⟩ : ∃ x, x = (decimalA (R.data.toList.take (placeL 32 R.data.toList))).2 := ⟨_, rfl⟩
    rw [← hn0, ← he0] at C2 HRI
    have HS0 := Lib.hid hS0.symm
    clear ha0 hS0 hS0l hll hn0 he0 er
    by_cases ee : e0 = 0
    · have t0 : ((e0 : Int) != 0) = false := by rw [ee]; rfl
      by_cases en : R.size < n0
      · have t1 : decide ((R.size : Int) < (n0 : Int)) = true := decide_eq_true (by omega)
        have HF := Lib.hid (HBAD.out fun p r hk h => by
          have h1 := (HRI.out p r h).2.1
          have h2 : R.data.toList.length = R.size := rfl
          omega)
        clear ee hJ
        go_wp2_with fail
        refine C1.out.mono ?_
        rintro e w2 ⟨rfl, rfl⟩
        go_wp2_with fail
        rw [HS0.out]
        refine C2.out.mono ?_
        rintro e w2 ⟨rfl, rfl⟩
        go_wp2_with fail
        exact HF.out
      have t1 : decide ((R.size : Int) < (n0 : Int)) = false := decide_eq_false (by omega)
      have hn0z : (n0 : Int) ≤ (R.size : Int) := by omega
      obtain ⟨X, hX⟩ : ∃ X, X = R.extract 0 n0 := ⟨_, rfl⟩
      have hXl : X.data.toList = R.data.toList.take n0 := by rw [hX, fext_list, List.drop_zero]
      have hXz : X.size = n0 := by rw [hX, ByteArray.size_extract]; omega
      have HXL := Lib.hid hXl
      have hXb : X.size ≤ 200000 := by omega
      have HXZ := Lib.hid hXz
      have HX := Lib.hid hX.symm
      have hq32 := (placeL_upto 32 X.data.toList).2
      have hq61 := (placeL_upto 61 X.data.toList).2
      obtain ⟨a, ha⟩ : ∃ a, a = placeL 32 X.data.toList := ⟨_, rfl⟩
      obtain ⟨b, hb⟩ : ∃ a, a = placeL 61 X.data.toList := ⟨_, rfl⟩
      have C3 := Lib.hid (HPL.out wr X 32 (by omega))
      have C4 := Lib.hid (HPL.out wr X 61 (by omega))
      rw [← ha] at C3 hq32
      rw [← hb] at C4 hq61
      have hxl2 : X.data.toList.length = X.size := rfl
      rw [hxl2] at hq32 hq61
      -- a record has these places
      have HPR : Hid (∀ p r, keyK p.1 → R.data.toList = recL p ++ r → a + 1 ≤ b ∧ b + 1 ≤ X.size - 1 ∧ 1 ≤ X.size ∧ (X.extract (a + 1) b).data.toList = p.1 ∧ (X.extract (b + 1) (X.size - 1)).data.toList = p.2 ∧ X.data.toList = recL p) := Lib.hid fun p r hk h => by
        have h1 := (HRI.out p r h).2.2
        have h2 : X.data.toList = recL p := by rw [HXL.out, h1]
        obtain ⟨p1, p2, p3, p4, p5⟩ := place_rec p hk
        have h3 : X.size = (recL p).length := by rw [← h2]; rfl
        rw [← h2] at p1 p2
        rw [← ha] at p1
        rw [← hb] at p2
        refine ⟨by omega, by omega, by omega, ?_, ?_, h2⟩
        · rw [fext_list, h2, p1, p2]; exact p4
        · rw [fext_list, h2, h3, p2]; exact p5
      clear hX hXl hXz ha hb hxl2 ee
      by_cases e1 : b < a + 1
      · have t2 : decide ((b : Int) < (a : Int) + 1) = true := decide_eq_true (by omega)
        have HF := Lib.hid (HBAD.out fun p r hk h => by
          have := (HPR.out p r hk h).1
          omega)
        clear hJ
        go_wp2_with fail
        refine C1.out.mono ?_
        rintro e w2 ⟨rfl, rfl⟩
        go_wp2_with fail
        rw [HS0.out]
        refine C2.out.mono ?_
        rintro e w2 ⟨rfl, rfl⟩
        go_wp2_with fail
        rw [HX.out]
        refine C3.out.mono ?_
        rintro e w2 ⟨rfl, rfl⟩
        go_wp2_with fail
        refine C4.out.mono ?_
        rintro e w2 ⟨rfl, rfl⟩
        go_wp2_with fail
        exact HF.out
      have t2 : decide ((b : Int) < (a : Int) + 1) = false := decide_eq_false (by omega)
      by_cases e2 : (X.size : Int) - 1 < (b : Int) + 1
      · have t3 : decide ((X.size : Int) - 1 < (b : Int) + 1) = true := decide_eq_true e2
        have HF := Lib.hid (HBAD.out fun p r hk h => by
          have := (HPR.out p r hk h).2.1
          have := (HPR.out p r hk h).2.2.1
          omega)
        clear hJ e2
        go_wp2_with fail
        refine C1.out.mono ?_
        rintro e w2 ⟨rfl, rfl⟩
        go_wp2_with fail
        rw [HS0.out]
        refine C2.out.mono ?_
        rintro e w2 ⟨rfl, rfl⟩
        go_wp2_with fail
        rw [HX.out]
        refine C3.out.mono ?_
        rintro e w2 ⟨rfl, rfl⟩
        go_wp2_with fail
        refine C4.out.mono ?_
        rintro e w2 ⟨rfl, rfl⟩
        go_wp2_with fail
        exact HF.out
      have t3 : decide ((X.size : Int) - 1 < (b : Int) + 1) = false := decide_eq_false e2
      obtain ⟨m, hm⟩ : ∃ m : Nat, m = X.size - 1 := ⟨_, rfl⟩
      have hmz : (X.size : Int) - 1 = (m : Int) := by omega
      have h1 : (a : Int) + 1 ≤ (b : Int) := by omega
      have h2 : (b : Int) ≤ (X.size : Int) := by omega
      have h3 : (b : Int) + 1 ≤ (m : Int) := by omega
      have h4 : (m : Int) ≤ (X.size : Int) := by omega
      go_wp2_with fail
      refine C1.out.mono ?_
      rintro e w2 ⟨rfl, rfl⟩
      go_wp2_with fail
      rw [HS0.out]
      refine C2.out.mono ?_
      rintro e w2 ⟨rfl, rfl⟩
      go_wp2_with fail
      rw [HX.out]
      refine C3.out.mono ?_
      rintro e w2 ⟨rfl, rfl⟩
      go_wp2_with fail
      refine C4.out.mono ?_
      rintro e w2 ⟨rfl, rfl⟩
      go_wp2_with fail
      go_region
      obtain ⟨K, hK⟩ : ∃ K, K = X.extract (a + 1) b := ⟨_, rfl⟩
      obtain ⟨V, hV⟩ : ∃ V, V = X.extract (b + 1) (X.size - 1) := ⟨_, rfl⟩
      rw [← hK, ← hV] at HPR ⊢
      have hKz : K.size ≤ 200000 := by rw [hK, ByteArray.size_extract]; omega
      have hVz : V.size ≤ 200000 := by rw [hV, ByteArray.size_extract]; omega
      have hk3 : Blk (w2.alloc (.cells #[.string K, .string V] 56)).drew w2.heap.size 56 #[.string K, .string V] := blk_new w2 _ _
      have hb23 : Below w2.heap.size w2 (w2.alloc (.cells #[.string K, .string V] 56)).drew := ((Below.refl _ _).alloc (Nat.le_refl _) _).drew
      have HB3 := Lib.hid (HBX.out.trans (hb23.mono HBX.out.size))
      have HJ3 : Hid ((w2.alloc (.cells #[.string K, .string V] 56)).drew.ownsRow w.heap.size 56 2 (.slice A n c) n (cellsB L)) := Lib.hid ((step_of_below hb23).row hJ.out.1 (fun k _ => List.not_mem_nil) List.not_mem_nil)
      have HN0 : Hid (1 ≤ n0) := Lib.hid (by have := HXZ.out; omega)
      generalize (w2.alloc (.cells #[.string K, .string V] 56)).drew = w3 at *
      generalize w2.heap.size = g0 at *
      have HK3 := Lib.hid hk3
      have c0 : w3.cell? ⟨g0, 0, none⟩ = some (.string K) := blk_cell hk3 0
      have HMY := Lib.hid (HMAY.out w3 K (by omega))
      clear hK hV hk3 hb23 C1 C2 C3 C4 HS0 h1 h2 h3 h4 hmz hm t2 t3 e1 e2 hq32 hq61
      by_cases hkk : keyK K.data.toList
      · rw [decide_eq_true hkk] at HMY
        have c1 : w3.cell? ⟨g0, 1, none⟩ = some (.string V) := blk_cell HK3.out 1
        have HRC := Lib.hid (HREC.out w3 K V (by omega))
        obtain ⟨T, hT⟩ : ∃ T, T = strF (recL (K.data.toList, V.data.toList)) := ⟨_, rfl⟩
        rw [← hT] at HRC
        have hTX := fsame T X
        by_cases ht : T.data.toList = X.data.toList
        · rw [decide_eq_true ht] at hTX
          have hRL : recL (toL (K, V)) = R.data.toList.take n0 := by
            rw [← HXL.out, ← ht, hT]
            rfl
          obtain ⟨R2, hR2⟩ : ∃ r, r = R.extract n0 R.size := ⟨_, rfl⟩
          have hR2l : R2.data.toList = R.data.toList.drop n0 := by
            rw [hR2, fext_list]
            rw [List.take_of_length_le (Nat.le_refl R.size)]
          have hR2z : R2.size + n0 = R.size := by rw [hR2, ByteArray.size_extract]; omega
          have HKEY : Hid (keysK ((L ++ [(K, V)]).map toL)) := Lib.hid (by
            rw [List.map_append]
            refine keysK_append hJ.out.2.1 fun p hp => ?_
            rw [List.mem_singleton.1 (show p ∈ [toL (K, V)] from hp)]
            exact hkk)
          have HFL : Hid (flatP ((L ++ [(K, V)]).map toL) ++ R2.data.toList = t.data.toList) := Lib.hid (by
            rw [List.map_append, flatP_append, show flatP ([(K, V)].map toL) = recL (toL (K, V)) from List.append_nil _, hRL, hR2l, List.append_assoc, List.take_append_drop]
            exact hJ.out.2.2.1)
          have HNN : Hid (n + 1 + R2.size ≤ 200000) := Lib.hid (by have := hJ.out.2.2.2; have := HN0.out; omega)
          have HR2 := Lib.hid hR2.symm
          have HR2Z := Lib.hid hR2z
          clear ht hT hRL hR2 hR2l hR2z hkk
          go_wp2_with fail
          refine HMY.out.mono ?_
          rintro e w3' ⟨rfl, rfl⟩
          go_wp2_with fail
          refine HRC.out.mono ?_
          rintro e w4 ⟨rfl, hb4⟩
          have hk4 := (step_of_below hb4).blk HK3.out List.not_mem_nil List.not_mem_nil
          have hj4 := (step_of_below hb4).row HJ3.out (fun k _ => List.not_mem_nil) List.not_mem_nil
          have hb04 := HB3.out.trans (hb4.mono HB3.out.size)
          obtain ⟨g2, c2, w5, hr5, ho5, hb5⟩ := pair_one w4 w.heap.size n c A L hj4 K V (by omega) hb04.size
          have HR5 := Lib.hid hr5
          have HO5 := Lib.hid ho5
          have HB5 := Lib.hid (hb04.trans hb5)
          have x0 : w4.cell? ⟨g0, 0, none⟩ = some (.string K) := blk_cell hk4 0
          have x1 : w4.cell? ⟨g0, 1, none⟩ = some (.string V) := blk_cell hk4 1
          clear hb4 hk4 hj4 hb04 hr5 ho5 hb5 HJ3 HB3 HK3 c0 c1 hJ HBX
          obtain ⟨n1, hn1⟩ : ∃ n1, n1 = n + 1 := ⟨_, rfl⟩
          rw [← hn1] at HR5 HO5 HNN
          have hn1z : n1 ≤ 200000 := by have := HNN.out; omega
          clear hn1
          go_upto_region 16 with fail
          go_wp2_with (at_builtin; refine Lib.wpList_append_run _ rfl (.tmp 73) (.tmp 75) 57 57 rfl (.slice A n c) (.slice (some ⟨w4.heap.size, 0, none⟩) 1 1) rfl rfl (.slice (some ⟨g2, 0, none⟩) n1 c2) w5 HR5.out ?_)
          rw [HR2.out]
          go_roundw
          case rel => exact ⟨R2, L ++ [(K, V)], some ⟨g2, 0, none⟩, n1, c2, rfl, rfl, by have := HR2Z.out; omega, hn1z, HB5.out, Lib.hid ⟨HO5.out, HKEY.out, HFL.out, HNN.out⟩⟩
          case measure => have h1 := HR2Z.out; have h2 := HN0.out; simp [sizeS]; omega
        · rw [decide_eq_false ht] at hTX
          have HF : Hid (∀ w', Below w.heap.size w w' → PO (.returned (.tuple #[.slice none 0 0, .int .i64 170])) w') := Lib.hid fun w' hb => HNO.out L R w' hJ.out.2.1 hJ.out.2.2.1 ⟨HER.out, fun p r hk h => ht (by
            obtain ⟨_, _, _, h4, h5, h6⟩ := HPR.out p r hk h
            rw [hT, h6, h4, h5]
            rfl)⟩ hb
          clear ht hT hkk hJ HBAD
          go_wp2_with fail
          refine HMY.out.mono ?_
          rintro e w3' ⟨rfl, rfl⟩
          go_wp2_with fail
          refine HRC.out.mono ?_
          rintro e w4 ⟨rfl, hb4⟩
          have HG := Lib.hid (HF.out w4 (HB3.out.trans (hb4.mono HB3.out.size)))
          clear hb4
          go_wp2_with fail
          exact HG.out
      · rw [decide_eq_false hkk] at HMY
        have HF := Lib.hid (HNO.out L R w3 hJ.out.2.1 hJ.out.2.2.1 ⟨HER.out, fun p r hk h => hkk (by
          rw [(HPR.out p r hk h).2.2.2.1]
          exact hk)⟩ HB3.out)
        clear hkk hJ HBAD
        go_wp2_with fail
        refine HMY.out.mono ?_
        rintro e w3' ⟨rfl, rfl⟩
        go_wp2_with fail
        exact HF.out
    · have t0 : ((e0 : Int) != 0) = true := bne_iff_ne.2 (by omega)
      have HF := Lib.hid (HBAD.out fun p r hk h => ee (HRI.out p r h).1)
      clear ee hJ
      go_wp2_with fail
      refine C1.out.mono ?_
      rintro e w2 ⟨rfl, rfl⟩
      go_wp2_with fail
      rw [HS0.out]
      refine C2.out.mono ?_
      rintro e w2 ⟨rfl, rfl⟩
      go_wp2_with fail
      exact HF.out
end Go.Proofs.YtdjmfkodjjjhfaaGreatDoor
/- Tar: the reference's Entry. Written ahead of stage 18. -/
namespace Go.Proofs.YtdjmfkodjjjhfaaGreatDoor
open Go.RowKit

theorem path_flat (p : List UInt8) : flatP [(pathK, p)] = recL (pathK, p) := List.append_nil _
def pathB18 : ByteArray := ⟨#[112, 97, 116, 104]⟩
set_option maxHeartbeats 6400000 in
set_option maxRecDepth 100000 in
theorem rentry_any (w : World) (p d : ByteArray) (hp : p.size ≤ 4000000) (hd : d.size ≤ 140737488355328) :
    Calls Tryz.prog 13 #[.agg #[.string p, .string d]] w fun e w' => e = .returned (.tuple #[.string (strF (entryA p.data.toList d.data.toList).1), .int .i64 (entryA p.data.toList d.data.toList).2]) ∧ Below w.heap.size w w' := by
  have HP : Hid (∀ (l : List UInt8) (k : Nat) (w' : World), entryA p.data.toList d.data.toList = (l, k) → Below w.heap.size w w' → (fun e w' => e = Ending.returned (.tuple #[.string (strF (entryA p.data.toList d.data.toList).1), .int .i64 (entryA p.data.toList d.data.toList).2]) ∧ Below w.heap.size w w') (.returned (.tuple #[.string (strF l), .int .i64 k])) w') := Lib.hid fun l k w' e hb => ⟨by rw [e], hb⟩
  have HE : Hid (entryA p.data.toList d.data.toList = if checkL p.data.toList ≠ 0 then ([], 140) else if 262144 < d.size then ([], 3) else (entT p.data.toList d.data.toList, 0)) := Lib.hid rfl
  generalize (fun e w' => e = Ending.returned (.tuple #[.string (strF (entryA p.data.toList d.data.toList).1), .int .i64 (entryA p.data.toList d.data.toList).2]) ∧ Below w.heap.size w w') = PO at *
  have CC := Lib.hid fun wx : World => rcheck_any wx p hp
  have CS := Lib.hid fun wx : World => rsplit_any wx p (by omega)
  have HK1 := Lib.hid (blk_new w 23 #[.string p, .string d])
  have HB1 := Lib.hid (show Below w.heap.size w (w.alloc (.cells #[.string p, .string d] 23)) from (Below.refl _ _).alloc (Nat.le_refl _) _)
  have c0 : (w.alloc (.cells #[.string p, .string d] 23)).cell? ⟨w.heap.size, 0, none⟩ = some (.string p) := blk_cell HK1.out 0
  obtain ⟨ck, hck⟩ : ∃ k, k = checkL p.data.toList := ⟨_, rfl⟩
  rw [← hck] at CC HE
  have HCK := Lib.hid hck
  obtain ⟨spl, hspl⟩ : ∃ s, s = splitL p.data.toList := ⟨_, rfl⟩
  obtain ⟨pre, name, ok⟩ := spl
  rw [← hspl] at CS
  have HSPL := Lib.hid hspl
  clear hck hspl
  go_enter Tryz.func13, Tryz.ntmps13
  go_upto_region 1 with fail
  generalize w.alloc (.cells #[.string p, .string d] 23) = w1 at *
  go_wp2_with fail
  refine (CC.out _).mono ?_
  rintro e w2 ⟨rfl, hb2⟩
  have hk2 := (step_of_below hb2).blk HK1.out List.not_mem_nil List.not_mem_nil
  have HK2 := Lib.hid hk2
  have HB2 := Lib.hid (HB1.out.trans (hb2.mono HB1.out.size))
  have q0 : w2.cell? ⟨w.heap.size, 0, none⟩ = some (.string p) := blk_cell hk2 0
  have q1 : w2.cell? ⟨w.heap.size, 1, none⟩ = some (.string d) := blk_cell hk2 1
  clear c0 hb2 hk2 HK1 HB1 CC
  by_cases ec : ck = 0
  · have t0 : ((ck : Int) != 0) = false := by rw [ec]; rfl
    by_cases ed : 262144 < d.size
    · have t1 : decide ((262144 : Int) < (d.size : Int)) = true := decide_eq_true (by omega)
      have HG := Lib.hid (HP.out [] 3 w2 (by rw [HE.out, if_neg (fun h => h ec), if_pos ed]) HB2.out)
      clear ec ed
      go_wp2_with fail
      exact HG.out
    have t1 : decide ((262144 : Int) < (d.size : Int)) = false := decide_eq_false (by omega)
    have hdz : d.size ≤ 262144 := by omega
    have HE2 : Hid (entryA p.data.toList d.data.toList = (entT p.data.toList d.data.toList, 0)) := Lib.hid (HE.out.trans (by rw [if_neg (fun h => h ec), if_neg ed]))
    have hf := check_facts (HCK.out.symm.trans ec)
    have hpl : p.size ≤ 120 := hf.2.2.1
    have HSN : Hid (ok = false → 100 < p.size) := Lib.hid fun h => by
      have h1 := HSPL.out
      unfold splitL at h1
      split at h1
      · have h2 := congrArg (fun x => x.2.2) h1
        dsimp only at h2
        rw [h] at h2
        cases h2
      · next h2 =>
        have : p.data.toList.length = p.size := rfl
        omega
    have HENT : Hid (entT p.data.toList d.data.toList = if ok = true then partT p.data.toList 48 d.data.toList else partT paxN 120 (recL (pathK, p.data.toList)) ++ partT (p.data.toList.take 100) 48 d.data.toList) := Lib.hid (by
      unfold entT
      rw [← HSPL.out])
    clear ec ed hf hd hp HE
    go_wp2_with fail
    refine (CS.out _).mono ?_
    rintro e w3 ⟨rfl, hb3⟩
    have hk3 := (step_of_below hb3).blk HK2.out List.not_mem_nil List.not_mem_nil
    have HK3 := Lib.hid hk3
    have HB3 := Lib.hid (HB2.out.trans (hb3.mono HB2.out.size))
    have r0 : w3.cell? ⟨w.heap.size, 0, none⟩ = some (.string p) := blk_cell hk3 0
    have r1 : w3.cell? ⟨w.heap.size, 1, none⟩ = some (.string d) := blk_cell hk3 1
    clear q0 q1 hb3 hk3 HK2 HB2 CS
    cases ok
    · have hp100 := HSN.out rfl
      have hrl := rec_len p.data.toList hpl
      have hrz : (flatP ([(pathB18, p)].map toL)).length ≤ 200000 := by
        rw [show flatP ([(pathB18, p)].map toL) = recL (pathK, p.data.toList) from path_flat _]
        omega
      have hkk : keysK ([(pathB18, p)].map toL) := fun q hq => by
        rw [List.mem_singleton.1 (show q ∈ [toL (pathB18, p)] from hq)]
        exact (show keyK pathK by decide)
      have CE : Hid (∀ wx : World, Calls Tryz.prog 33 #[.slice (some ⟨wx.heap.size, 0, none⟩) 1 1] (wx.alloc (.cells #[.string ⟨#[112, 97, 116, 104]⟩, .string p] 56)) fun e w' => e = .returned (.tuple #[.string (strF (recL (pathK, p.data.toList))), .int .i64 0]) ∧ Below wx.heap.size wx w') := Lib.hid fun wx => by
        have hk := blk_new wx 56 #[.string pathB18, .string p]
        have hI : PIn (wx.alloc (.cells #[.string pathB18, .string p] 56)) (some ⟨wx.heap.size, 0, none⟩) 1 [(pathB18, p)] := ⟨rfl, fun _ => ⟨wx.heap.size, 0, rfl, fun i hi => by
          obtain rfl : i = 0 := by omega
          exact ⟨blk_cell hk 0, blk_cell hk 1⟩⟩⟩
        have h := rpenc_any (wx.alloc (.cells #[.string pathB18, .string p] 56)) (some ⟨wx.heap.size, 0, none⟩) 1 1 [(pathB18, p)] hI (by unfold maxLen; omega) hkk hrz
        rw [show flatP ([(pathB18, p)].map toL) = recL (pathK, p.data.toList) from path_flat _] at h
        refine h.mono ?_
        rintro e w' ⟨rfl, hb⟩
        have h0 : Below wx.heap.size wx (wx.alloc (.cells #[.string pathB18, .string p] 56)) := (Below.refl _ _).alloc (Nat.le_refl _) _
        exact ⟨rfl, h0.trans (hb.mono h0.size)⟩
      obtain ⟨RC, hRC⟩ : ∃ r, r = strF (recL (pathK, p.data.toList)) := ⟨_, rfl⟩
      have hRCl : RC.data.toList = recL (pathK, p.data.toList) := by rw [hRC]; rfl
      have hRCz : RC.size ≤ 512 := by rw [hRC]; exact hrl
      rw [← hRC] at CE
      obtain ⟨P1, hP1⟩ : ∃ r, r = p.extract 0 100 := ⟨_, rfl⟩
      have hP1l : P1.data.toList = p.data.toList.take 100 := by rw [hP1, fext_list, List.drop_zero]
      have hP1z : P1.size ≤ 100 := by rw [hP1, ByteArray.size_extract]; omega
      have C1 : Hid (∀ wx : World, Calls Tryz.prog 32 #[.string ⟨#[112, 97, 120]⟩, .int .u8 120, .string RC] wx fun e w' => e = .returned (.string (strF (partT paxN 120 (recL (pathK, p.data.toList))))) ∧ Below wx.heap.size wx w') := Lib.hid fun wx => by
        have h := rpart_any wx ⟨#[112, 97, 120]⟩ RC 120 (by omega) (by decide) (by omega)
        rw [hRCl] at h
        exact h
      have C2 : Hid (∀ wx : World, Calls Tryz.prog 32 #[.string (p.extract 0 100), .int .u8 48, .string d] wx fun e w' => e = .returned (.string (strF (partT (p.data.toList.take 100) 48 d.data.toList))) ∧ Below wx.heap.size wx w') := Lib.hid fun wx => by
        have h := rpart_any wx P1 d 48 (by omega) (by omega) (by omega)
        rw [hP1l, hP1] at h
        exact h
      have z1 : (strF (partT paxN 120 (recL (pathK, p.data.toList)))).size ≤ 2000 := by
        have := partT_le paxN 120 (recL (pathK, p.data.toList))
        show (partT paxN 120 (recL (pathK, p.data.toList))).length ≤ _
        omega
      have z2 : (strF (partT (p.data.toList.take 100) 48 d.data.toList)).size ≤ 300000 := by
        have := partT_le (p.data.toList.take 100) 48 d.data.toList
        have hl : d.data.toList.length = d.size := rfl
        show (partT (p.data.toList.take 100) 48 d.data.toList).length ≤ _
        omega
      have HEND : Hid (strF (partT paxN 120 (recL (pathK, p.data.toList))) ++ strF (partT (p.data.toList.take 100) 48 d.data.toList) = strF (entT p.data.toList d.data.toList)) := Lib.hid (by rw [HENT.out, if_neg (by decide), strF_app])
      have HF := Lib.hid fun w' => HP.out _ 0 w' HE2.out
      have hp100z : (100 : Int) ≤ (p.size : Int) := by omega
      clear hrl hrz hkk hRC hRCl hP1 hP1l HSN HENT HE2 HP HCK HSPL hdz
      generalize strF (partT paxN 120 (recL (pathK, p.data.toList))) = X1 at *
      generalize strF (partT (p.data.toList.take 100) 48 d.data.toList) = X2 at *
      have hcat : ∀ w9 : World, (Op.stringOp .add X1 X2).run Tryz.prog w9 = .ok (.string (X1 ++ X2)) w9 := fun w9 => run_string_add_sum w9 _ _ (by omega)
      go_wp2_with fail
      refine (CE.out _).mono ?_
      rintro e w4 ⟨rfl, hb4⟩
      have hk4 := (step_of_below hb4).blk HK3.out List.not_mem_nil List.not_mem_nil
      have HKC := Lib.hid hk4
      have HBC := Lib.hid (HB3.out.trans (hb4.mono HB3.out.size))
      clear r0 r1 hb4 hk4 HK3 HB3 CE
      go_upto_region 9 with fail
      have HKP : Hid (∀ wx : World, Blk wx w.heap.size 23 #[.string p, .string d] → wx.cell? ⟨w.heap.size, 0, none⟩ = some (.string p) ∧ wx.cell? ⟨w.heap.size, 1, none⟩ = some (.string d)) := Lib.hid fun wx hk => ⟨blk_cell hk 0, blk_cell hk 1⟩
      have HBC2 := Lib.hid HBC.out.drew
      have HKC2 : Hid (Blk w4.drew w.heap.size 23 #[.string p, .string d]) := HKC
      clear HBC HKC
      have HBC := HBC2
      have HKC := HKC2
      clear HBC2 HKC2
      go_region_held3 (fun w' => w'.cell? ⟨w.heap.size, 0, none⟩ = some (.string p) ∧ w'.cell? ⟨w.heap.size, 1, none⟩ = some (.string d))
        (first | exact HKP.out _ HKC.out)
        (first
          | (go_at_call_of 32 (Value.string RC); refine (C1.out _).mono ?_; rintro e wn ⟨rfl, hb9⟩
             have HK9 := Lib.hid ((step_of_below hb9).blk HKC.out List.not_mem_nil List.not_mem_nil)
             have HB9 := Lib.hid (HBC.out.trans (hb9.mono HBC.out.size))
             clear hb9 HKC HBC
             have HKC := HK9
             have HBC := HB9
             clear HK9 HB9)
          | (go_at_call_of 32 (Value.string d); refine (C2.out _).mono ?_; rintro e wn ⟨rfl, hb9⟩
             have HK9 := Lib.hid ((step_of_below hb9).blk HKC.out List.not_mem_nil List.not_mem_nil)
             have HB9 := Lib.hid (HBC.out.trans (hb9.mono HBC.out.size))
             clear hb9 HKC HBC
             have HKC := HK9
             have HBC := HB9
             clear HK9 HB9))
      rw [HEND.out]
      have HG := Lib.hid (HF.out _ HBC.out)
      go_wp2_with fail
      exact HG.out
    · have C1 := Lib.hid fun wx : World => rpart_any wx p d 48 (by omega) (by omega) (by omega)
      have HEND : Hid (entT p.data.toList d.data.toList = partT p.data.toList 48 d.data.toList) := Lib.hid (by rw [HENT.out, if_pos rfl])
      have HF := Lib.hid fun w' => HP.out _ 0 w' (HE2.out.trans (by rw [HEND.out]))
      clear HSN HENT HE2 HP HCK HSPL
      go_wp2_with fail
      refine (C1.out _).mono ?_
      rintro e w4 ⟨rfl, hb4⟩
      have HG := Lib.hid (HF.out w4 (HB3.out.trans (hb4.mono HB3.out.size)))
      clear hb4
      go_wp2_with fail
      exact HG.out
  · have t0 : ((ck : Int) != 0) = true := bne_iff_ne.2 (by omega)
    have HG := Lib.hid (HP.out [] 140 w2 (by rw [HE.out, if_pos ec]) HB2.out)
    clear ec
    go_wp2_with fail
    exact HG.out
end Go.Proofs.YtdjmfkodjjjhfaaGreatDoor
/- Tar: the reference's head and behind. Written ahead of stage 18. -/
namespace Go.Proofs.YtdjmfkodjjjhfaaGreatDoor
open Go.RowKit

/-- What head answers. -/
def headA2 (s : List UInt8) : HeadP × Bool := if s.length < 512 then (zeroHead, false) else ((decA (s.take 512)).1, decide ((decA (s.take 512)).2 = 0))
theorem headA2_T (s : List UInt8) : headT s = if (headA2 s).2 = true then some (headA2 s).1 else none := by
  unfold headT headA2
  split
  · rfl
  · by_cases h : (decA (s.take 512)).2 = 0
    · rw [if_pos h, if_pos (decide_eq_true h)]
    · rw [if_neg h, if_neg (fun e => h (of_decide_eq_true e))]
set_option maxRecDepth 100000 in
/-- What is told of a head in a variable of the call's own. -/
theorem ret_head18 (wx : World) (B : Nat) (h : HeadP) (k : Bool) (hk : Blk wx B 65 (headCs h)) (tmps : Array Value) (h2 : tmps.getD 2 undef = .pointer (some ⟨B, 0, none⟩)) (h3 : tmps.getD 3 undef = .bool k) :
    (results Tryz.f37 tmps).run Tryz.prog wx = .ok (.tuple #[headV h, .bool k]) wx := by
  have c0 : wx.cell? ⟨B, 0, none⟩ = some (.string h.path) := blk_cell hk 0
  have c1 : wx.cell? ⟨B, 1, none⟩ = some (.int .i64 h.size) := blk_cell hk 1
  have c2 : wx.cell? ⟨B, 2, none⟩ = some (.int .u8 h.kind) := blk_cell hk 2
  have c3 : wx.cell? ⟨B, 3, none⟩ = some (.int .i64 h.mode) := blk_cell hk 3
  have c4 : wx.cell? ⟨B, 4, none⟩ = some (.int .i64 h.time) := blk_cell hk 4
  have c5 : wx.cell? ⟨B, 5, none⟩ = some (.string h.link) := blk_cell hk 5
  have c6 : wx.cell? ⟨B, 6, none⟩ = some (.string h.user) := blk_cell hk 6
  have c7 : wx.cell? ⟨B, 7, none⟩ = some (.string h.group) := blk_cell hk 7
  have c8 : wx.cell? ⟨B, 8, none⟩ = some (.int .i64 h.uid) := blk_cell hk 8
  have c9 : wx.cell? ⟨B, 9, none⟩ = some (.int .i64 h.gid) := blk_cell hk 9
  rw [results_cell_tmp rfl, h2, h3]
  simp [asAddr, loadVar, go_sem, c0, c1, c2, c3, c4, c5, c6, c7, c8, c9, headV, headCs]
set_option maxHeartbeats 3200000 in
set_option maxRecDepth 100000 in
theorem rhead_any (w : World) (s : ByteArray) (hs : s.size ≤ 140737488355328) : Calls Tryz.prog 37 #[.string s] w fun e w' => e = .returned (.tuple #[headV (headA2 s.data.toList).1, .bool (headA2 s.data.toList).2]) ∧ Below w.heap.size w w' := by
  have hl : s.data.toList.length = s.size := rfl
  have HK := Lib.hid (blk_new w 65 zeroCs)
  have HB : Hid (Below w.heap.size w (w.alloc (.cells #[.string ⟨#[]⟩, .int .i64 0, .int .u8 0, .int .i64 0, .int .i64 0, .string ⟨#[]⟩, .string ⟨#[]⟩, .string ⟨#[]⟩, .int .i64 0, .int .i64 0] 65))) := Lib.hid ((Below.refl _ _).alloc (Nat.le_refl _) _)
  by_cases e : s.size < 512
  · have d0 : decide ((s.size : Int) < 512) = true := decide_eq_true (by omega)
    have HA : Hid (headA2 s.data.toList = (zeroHead, false)) := Lib.hid (by unfold headA2; rw [if_pos (by rw [hl]; exact e)])
    rw [HA.out]
    clear e hl
    go_enter Tryz.func37, Tryz.ntmps37
    go_upto_region 2 with fail
    apply wp_region_lit
    refine wpList_build rfl 65 #[] rfl (by kernel_rfl) ?_
    refine wpList_store_row rfl 65 (.tmp 2) (.tmp 9) rfl w.heap.size zeroCs rfl (by kernel_rfl) 65 zeroCs HK.out (by kernel_rfl) rfl (by kernel_rfl) ?_
    refine Eq.mpr (congrArg (fun x => wpList _ _ _ _ _ x) (setRow_self _ _ _ _ _ HK.out)) ?_
    go_wp2_with fail
    exact bodyPost_ret (ret_head18 _ w.heap.size zeroHead false HK.out _ rfl rfl) rfl ⟨rfl, HB.out⟩
  · have d0 : decide ((s.size : Int) < 512) = false := decide_eq_false (by omega)
    have hb512 : (512 : Int) ≤ (s.size : Int) := by omega
    obtain ⟨S, hS⟩ : ∃ S, S = s.extract 0 512 := ⟨_, rfl⟩
    have hSl : S.data.toList = s.data.toList.take 512 := by rw [hS, fext_list, List.drop_zero]
    have CD := Lib.hid fun wx : World => rdec16_any wx S (by rw [hS, ByteArray.size_extract]; omega)
    rw [hSl] at CD
    obtain ⟨dd, hdd⟩ : ∃ d, d = decA (s.data.toList.take 512) := ⟨_, rfl⟩
    obtain ⟨X, k⟩ := dd
    rw [← hdd] at CD
    have HA : Hid (headA2 s.data.toList = (X, decide (k = 0))) := Lib.hid (by unfold headA2; rw [if_neg (by rw [hl]; exact e), ← hdd])
    rw [HA.out]
    have hkd : ((k : Int) == 0) = decide (k = 0) := by
      by_cases hk : k = 0
      · rw [hk]; rfl
      · rw [decide_eq_false hk]
        exact beq_false_of_ne (by omega)
    have HS := Lib.hid hS.symm
    dsimp only at CD
    have hv : headV X = .agg #[.string X.path, .int .i64 X.size, .int .u8 X.kind, .int .i64 X.mode, .int .i64 X.time, .string X.link, .string X.user, .string X.group, .int .i64 X.uid, .int .i64 X.gid] := rfl
    rw [hv] at CD
    clear hS hSl hdd e hl hv
    go_enter Tryz.func37, Tryz.ntmps37
    go_wp2_with fail
    rw [HS.out]
    refine (CD.out _).mono ?_
    rintro e w2 ⟨rfl, hb2⟩
    have hz2 := (step_of_below hb2).blk HK.out List.not_mem_nil List.not_mem_nil
    have hb3 : Below w2.heap.size w2 (w2.alloc (.cells #[.string X.path, .int .i64 X.size, .int .u8 X.kind, .int .i64 X.mode, .int .i64 X.time, .string X.link, .string X.user, .string X.group, .int .i64 X.uid, .int .i64 X.gid] 65)) := (Below.refl _ _).alloc (Nat.le_refl _) _
    have HZ3 := Lib.hid ((step_of_below hb3).blk hz2 List.not_mem_nil List.not_mem_nil)
    have HK3 := Lib.hid (blk_new w2 65 #[.string X.path, .int .i64 X.size, .int .u8 X.kind, .int .i64 X.mode, .int .i64 X.time, .string X.link, .string X.user, .string X.group, .int .i64 X.uid, .int .i64 X.gid])
    have HB3 := Lib.hid ((HB.out.trans (hb2.mono HB.out.size)).trans (hb3.mono (HB.out.trans (hb2.mono HB.out.size)).size))
    clear hb2 hz2 hb3
    go_upto_region 4 with fail
    generalize w2.alloc (.cells #[.string X.path, .int .i64 X.size, .int .u8 X.kind, .int .i64 X.mode, .int .i64 X.time, .string X.link, .string X.user, .string X.group, .int .i64 X.uid, .int .i64 X.gid] 65) = w3 at *
    generalize w2.heap.size = g at *
    have c0 : w3.cell? ⟨g, 0, none⟩ = some (.string X.path) := blk_cell HK3.out 0
    have c1 : w3.cell? ⟨g, 1, none⟩ = some (.int .i64 X.size) := blk_cell HK3.out 1
    have c2 : w3.cell? ⟨g, 2, none⟩ = some (.int .u8 X.kind) := blk_cell HK3.out 2
    have c3 : w3.cell? ⟨g, 3, none⟩ = some (.int .i64 X.mode) := blk_cell HK3.out 3
    have c4 : w3.cell? ⟨g, 4, none⟩ = some (.int .i64 X.time) := blk_cell HK3.out 4
    have c5 : w3.cell? ⟨g, 5, none⟩ = some (.string X.link) := blk_cell HK3.out 5
    have c6 : w3.cell? ⟨g, 6, none⟩ = some (.string X.user) := blk_cell HK3.out 6
    have c7 : w3.cell? ⟨g, 7, none⟩ = some (.string X.group) := blk_cell HK3.out 7
    have c8 : w3.cell? ⟨g, 8, none⟩ = some (.int .i64 X.uid) := blk_cell HK3.out 8
    have c9 : w3.cell? ⟨g, 9, none⟩ = some (.int .i64 X.gid) := blk_cell HK3.out 9
    apply wp_region_lit
    refine wpList_plain rfl fun KK hKK => ?_
    go_simp
    refine hKK _ _ ?_
    clear hKK KK
    refine wpList_plain rfl fun KK hKK => ?_
    go_simp
    refine hKK _ _ ?_
    clear hKK KK
    refine wpList_plain rfl fun KK hKK => ?_
    go_simp
    refine hKK _ _ ?_
    clear hKK KK
    refine wpList_store_row rfl 65 (.tmp 2) (.tmp 16) rfl w.heap.size #[.string X.path, .int .i64 X.size, .int .u8 X.kind, .int .i64 X.mode, .int .i64 X.time, .string X.link, .string X.user, .string X.group, .int .i64 X.uid, .int .i64 X.gid] rfl (by kernel_rfl) 65 zeroCs HZ3.out (by kernel_rfl) rfl (by kernel_rfl) ?_
    have hfin : Blk (w3.setRow w.heap.size #[.string X.path, .int .i64 X.size, .int .u8 X.kind, .int .i64 X.mode, .int .i64 X.time, .string X.link, .string X.user, .string X.group, .int .i64 X.uid, .int .i64 X.gid]) w.heap.size 65 (headCs X) := setRow_heap w3 w.heap.size zeroCs (headCs X) 65 (0, 0) HZ3.out
    have HFIN := Lib.hid hfin
    have HBF := Lib.hid (below_row HB3.out (Nat.le_refl w.heap.size) #[.string X.path, .int .i64 X.size, .int .u8 X.kind, .int .i64 X.mode, .int .i64 X.time, .string X.link, .string X.user, .string X.group, .int .i64 X.uid, .int .i64 X.gid])
    clear hfin c0 c1 c2 c3 c4 c5 c6 c7 c8 c9
    go_wp2_with fail
    exact bodyPost_ret (ret_head18 _ w.heap.size X (decide (k = 0)) HFIN.out _ rfl (by first | rfl | (show Value.bool _ = _; rw [hkd]))) rfl ⟨rfl, HBF.out⟩
/-- What behind answers. -/
def behA (s : List UInt8) (n : Nat) : List UInt8 × List UInt8 × Bool := if s.length < 512 + upTo n then ([], [], false) else ((s.drop 512).take n, s.drop (512 + upTo n), true)
theorem behA_T (s : List UInt8) (n : Nat) : behindT s n = if (behA s n).2.2 = true then some ((behA s n).1, (behA s n).2.1) else none := by
  unfold behindT behA
  split
  · rfl
  · rfl
set_option maxHeartbeats 3200000 in
set_option maxRecDepth 100000 in
theorem rbehind_any (w : World) (s : ByteArray) (n : Nat) (hs : s.size ≤ 140737488355328) (hn : n ≤ 9007199254740992) :
    Calls Tryz.prog 38 #[.string s, .int .i64 n] w fun e w' => e = .returned (.tuple #[.string (strF (behA s.data.toList n).1), .string (strF (behA s.data.toList n).2.1), .bool (behA s.data.toList n).2.2]) ∧ Below w.heap.size w w' := by
  have hl : s.data.toList.length = s.size := rfl
  have HP : Hid (∀ (a b : List UInt8) (k : Bool) (w' : World), behA s.data.toList n = (a, b, k) → Below w.heap.size w w' → (fun e w' => e = Ending.returned (.tuple #[.string (strF (behA s.data.toList n).1), .string (strF (behA s.data.toList n).2.1), .bool (behA s.data.toList n).2.2]) ∧ Below w.heap.size w w') (.returned (.tuple #[.string (strF a), .string (strF b), .bool k])) w') := Lib.hid fun a b k w' e hb => ⟨by rw [e], hb⟩
  generalize (fun e w' => e = Ending.returned (.tuple #[.string (strF (behA s.data.toList n).1), .string (strF (behA s.data.toList n).2.1), .bool (behA s.data.toList n).2.2]) ∧ Below w.heap.size w w') = PO at *
  obtain ⟨m, hm⟩ : ∃ m, m = n % 512 := ⟨_, rfl⟩
  have hmz : (n : Int) % 512 = (m : Int) := by omega
  obtain ⟨u, hu⟩ : ∃ u, u = upTo n := ⟨_, rfl⟩
  have hue : (m = 0 → u = n) ∧ (m ≠ 0 → (n : Int) - (m : Int) + 512 = (u : Int)) := by
    rw [hu]
    unfold upTo
    constructor
    · intro h; omega
    · intro h; omega
  have hnu : n ≤ u := by rw [hu]; unfold upTo; omega
  have huz : u ≤ 9007199254741504 := by rw [hu]; unfold upTo; omega
  have HU := Lib.hid hu
  by_cases e : s.size < 512 + u
  · have HF : Hid (∀ w', Below w.heap.size w w' → PO (.returned (.tuple #[.string (strF []), .string (strF []), .bool false])) w') := Lib.hid fun w' hb => HP.out [] [] false w' (by
      unfold behA
      rw [if_pos (by rw [hl, ← HU.out]; exact e)]) hb
    have d1 : decide ((s.size : Int) - 512 < (u : Int)) = true := decide_eq_true (by omega)
    clear hu
    by_cases em : m = 0
    · have d0 : ((m : Int) != 0) = false := by rw [em]; rfl
      have hun := hue.1 em
      subst hun
      clear hue hm em e hl
      go_enter Tryz.func38, Tryz.ntmps38
      go_wp2_with fail
      go_ret3
      exact HF.out _ (Below.refl _ _)
    · have d0 : ((m : Int) != 0) = true := bne_iff_ne.2 (by omega)
      have hun := hue.2 em
      clear hue hm em e hl
      go_enter Tryz.func38, Tryz.ntmps38
      go_wp2_with fail
      go_ret3
      exact HF.out _ (Below.refl _ _)
  · obtain ⟨X1, hX1⟩ : ∃ x, x = s.extract 512 (512 + n) := ⟨_, rfl⟩
    obtain ⟨X2, hX2⟩ : ∃ x, x = s.extract (512 + u) s.size := ⟨_, rfl⟩
    have hx1 : X1 = strF ((s.data.toList.drop 512).take n) := by
      apply ByteArray.ext
      apply Array.toList_inj.1
      rw [hX1, fext_list]
      show List.drop 512 (List.take (512 + n) s.data.toList) = (s.data.toList.drop 512).take n
      rw [List.drop_take, Nat.add_sub_cancel_left]
    have hx2 : X2 = strF (s.data.toList.drop (512 + u)) := by
      apply ByteArray.ext
      apply Array.toList_inj.1
      rw [hX2, fext_list]
      show List.drop (512 + u) (List.take s.size s.data.toList) = s.data.toList.drop (512 + u)
      rw [List.take_of_length_le (Nat.le_refl s.size)]
    have HF : Hid (∀ w', Below w.heap.size w w' → PO (.returned (.tuple #[.string X1, .string X2, .bool true])) w') := Lib.hid fun w' hb => by
      rw [hx1, hx2]
      exact HP.out _ _ true w' (by
        unfold behA
        rw [if_neg (by rw [hl, ← HU.out]; exact e), ← HU.out]) hb
    have d1 : decide ((s.size : Int) - 512 < (u : Int)) = false := decide_eq_false (by omega)
    have e1 : (512 : Int) + (n : Int) ≤ (s.size : Int) := by omega
    have e2 : (512 : Int) + (u : Int) ≤ (s.size : Int) := by omega
    have HX1 := Lib.hid hX1.symm
    have HX2 := Lib.hid hX2.symm
    clear hu hX1 hX2 hx1 hx2
    by_cases em : m = 0
    · have d0 : ((m : Int) != 0) = false := by rw [em]; rfl
      have hun := hue.1 em
      subst hun
      clear hue hm em e hl
      go_enter Tryz.func38, Tryz.ntmps38
      go_upto_region 7 with fail
      go_quiet (fail)
      rw [HX1.out, HX2.out]
      have HG := Lib.hid (HF.out (w.drewN nq) (below_drewN (Below.refl _ _) nq))
      go_wp2_with fail
      go_ret3
      exact HG.out
    · have d0 : ((m : Int) != 0) = true := bne_iff_ne.2 (by omega)
      have hun := hue.2 em
      clear hue hm em e hl
      go_enter Tryz.func38, Tryz.ntmps38
      go_upto_region 7 with fail
      go_quiet (fail)
      rw [HX1.out, HX2.out]
      have HG := Lib.hid (HF.out (w.drewN nq) (below_drewN (Below.refl _ _) nq))
      go_wp2_with fail
      go_ret3
      exact HG.out
end Go.Proofs.YtdjmfkodjjjhfaaGreatDoor
/- Tar: plain facts that Read's walk wants; what is told of Read's variables. Written ahead of stage 18. -/
namespace Go.Proofs.YtdjmfkodjjjhfaaGreatDoor
open Go.RowKit

theorem numberA_le (s : List UInt8) : (numberA s).1 ≤ 9007199254740992 := by
  unfold numberA
  split
  · exact Nat.zero_le _
  · split
    · exact Nat.zero_le _
    · next h => exact Nat.le_of_not_lt h
theorem decimalA_le (s : List UInt8) : (decimalA s).1 ≤ 9007199254740992 := by
  unfold decimalA decEnd
  split
  · exact Nat.zero_le _
  · split
    · exact Nat.zero_le _
    · split
      · exact Nat.zero_le _
      · next h => exact Nat.le_of_not_lt h
theorem pathL_le (s : List UInt8) : (pathL s).length ≤ 256 := by
  have h1 := cut_fld s 345 500
  have h2 := cut_fld s 0 100
  unfold pathL joinP
  split
  · omega
  · rw [List.length_append, List.length_cons]
    omega
/-- A head that was read: its size is a number, its path is short. -/
theorem headA2_facts {s : List UInt8} {Y : HeadP} (h : headA2 s = (Y, true)) : (∃ n : Nat, Y.size = n ∧ n ≤ 9007199254740992) ∧ Y.path.size ≤ 256 ∧ Y.kind < 256 := by
  unfold headA2 at h
  split at h
  · cases h
  · injection h with h1 h2
    have h3 : (decA (s.take 512)).2 = 0 := of_decide_eq_true h2
    have h4 : (decA (s.take 512)).1 = decH (s.take 512) := by
      unfold decA at h3 ⊢
      split
      · rfl
      · next hn =>
        rw [if_neg hn] at h3
        cases h3
    rw [h4] at h1
    subst h1
    refine ⟨⟨(numL (s.take 512) 3).1, rfl, numberA_le _⟩, pathL_le _, ?_⟩
    show kindL _ < 256
    unfold kindL
    split
    · decide
    · exact UInt8.toNat_lt _
theorem last_toL (k : ByteArray) : ∀ (L : List PairB) (v : Option ByteArray), (lastA k L v).map (fun b => b.data.toList) = lastA k.data.toList (L.map toL) (v.map fun b => b.data.toList)
  | [], _ => rfl
  | p :: L, v => by
    rw [lastA, List.map_cons, lastA, last_toL k L]
    congr 1
    have he : p.1 = k ↔ (toL p).1 = k.data.toList := by
      constructor
      · intro h; rw [← h]; rfl
      · intro h; exact ByteArray.ext (Array.toList_inj.1 h)
    by_cases e : p.1 = k
    · rw [if_pos e, if_pos (he.1 e)]
      rfl
    · rw [if_neg e, if_neg (fun h => e (he.2 h))]
set_option maxRecDepth 100000 in
theorem lastA_mem {k : ByteArray} : ∀ (L : List PairB) (v : Option ByteArray) (u : ByteArray), lastA k L v = some u → v = some u ∨ ∃ p, p ∈ L ∧ p.2 = u
  | [], v, u, h => .inl h
  | p :: L, v, u, h => by
    rw [lastA] at h
    rcases lastA_mem L _ u h with h1 | ⟨q, hq, e⟩
    · split at h1
      · exact .inr ⟨p, List.mem_cons_self, Option.some.inj h1⟩
      · exact .inl h1
    · exact .inr ⟨q, List.mem_cons_of_mem _ hq, e⟩
/-- Between Read's steps: the head at a1, the answer's variable ahead of it. -/
structure RdT (w wx : World) (a1 : Nat) (Y : HeadP) : Prop where
  head : Blk wx a1 65 (headCs Y)
  zero : Blk wx w.heap.size 23 #[.string ⟨#[]⟩, .string ⟨#[]⟩]
  below : Below w.heap.size w wx
  lo : w.heap.size < a1
theorem RdT.on {w wx wy : World} {a1 : Nat} {Y : HeadP} (D : RdT w wx a1 Y) (h : Below wx.heap.size wx wy) : RdT w wy a1 Y :=
  ⟨(step_of_below h).blk D.head List.not_mem_nil List.not_mem_nil, (step_of_below h).blk D.zero List.not_mem_nil List.not_mem_nil, D.below.trans (h.mono D.below.size), D.lo⟩
theorem RdT.path {w wx : World} {a1 : Nat} {Y : HeadP} (D : RdT w wx a1 Y) (v : ByteArray) : RdT w (wx.setCell ⟨a1, 0, none⟩ (.string v)) a1 { Y with path := v } :=
  ⟨blk_set D.head 0 (.string v), (Below.heap_setCell _ ⟨a1, 0, none⟩ _ _ (Nat.ne_of_lt D.lo)).trans D.zero, D.below.setCell (p := ⟨a1, 0, none⟩) (Nat.le_of_lt D.lo) _, D.lo⟩
theorem RdT.size {w wx : World} {a1 : Nat} {Y : HeadP} (D : RdT w wx a1 Y) (n : Int) : RdT w (wx.setCell ⟨a1, 1, none⟩ (.int .i64 n)) a1 { Y with size := n } :=
  ⟨blk_set D.head 1 (.int .i64 n), (Below.heap_setCell _ ⟨a1, 1, none⟩ _ _ (Nat.ne_of_lt D.lo)).trans D.zero, D.below.setCell (p := ⟨a1, 1, none⟩) (Nat.le_of_lt D.lo) _, D.lo⟩
theorem RdT.row {w wx : World} {a1 : Nat} {Y : HeadP} (D : RdT w wx a1 Y) (Z : HeadP) : RdT w (wx.setRow a1 (headCs Z)) a1 Z :=
  ⟨setRow_heap wx a1 (headCs Y) (headCs Z) 65 (0, 0) D.head, (setRow_other wx a1 _ _ (Nat.ne_of_lt D.lo)).trans D.zero, below_row D.below (Nat.le_of_lt D.lo) _, D.lo⟩
set_option maxRecDepth 100000 in
theorem step_row (wx : World) (a1 : Nat) (cs : Array Value) : Step a1 [a1] [] wx (wx.setRow a1 cs) :=
  ⟨below_row (Below.refl a1 wx) (Nat.le_refl _) cs, fun g t ds fr hb hp _ => (setRow_other wx a1 g cs (fun e => hp (by rw [e]; simp))).trans hb⟩
/-- Pairs of one's own, behind the head. -/
def Prs (wx : World) (a1 : Nat) (A : Option Addr) (n c : Nat) (L : List PairB) : Prop := ∃ base, a1 < base ∧ wx.ownsRow base 56 2 (.slice A n c) n (cellsB L)
theorem Prs.step {wx wy : World} {a1 n c : Nat} {A : Option Addr} {L : List PairB} (h : Prs wx a1 A n c L) (hs : Step a1 [a1] [] wx wy) : Prs wy a1 A n c L := by
  obtain ⟨base, hb, ho⟩ := h
  refine ⟨base, hb, hs.row ho (fun k hk hm => ?_) List.not_mem_nil⟩
  have h1 := (World.ownsRow.lt ho k hk).1
  have h2 := List.mem_singleton.1 hm
  omega
theorem Prs.below {wx wy : World} {a1 n c : Nat} {A : Option Addr} {L : List PairB} (h : Prs wx a1 A n c L) (hb : Below wx.heap.size wx wy) : Prs wy a1 A n c L := by
  obtain ⟨base, h1, ho⟩ := h
  exact ⟨base, h1, (step_of_below hb).row ho (fun k _ => List.not_mem_nil) List.not_mem_nil⟩
theorem Prs.pin {wx : World} {a1 n c : Nat} {A : Option Addr} {L : List PairB} (h : Prs wx a1 A n c L) : PIn wx A n L := by
  obtain ⟨_, _, h⟩ := h
  exact pin_own h
theorem Prs.nil {wx : World} {a1 : Nat} (h : a1 < wx.heap.size) : Prs wx a1 none 0 0 [] := ⟨wx.heap.size, h, rfl, .inl ⟨rfl, rfl⟩⟩
end Go.Proofs.YtdjmfkodjjjhfaaGreatDoor
