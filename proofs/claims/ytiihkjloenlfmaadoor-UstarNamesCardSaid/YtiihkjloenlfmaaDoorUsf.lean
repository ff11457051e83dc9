/- Ustar: heads compared. Written ahead of stage 16. -/
import Derived.Test.YtiihkjloenlfmaaDoorUse
import Derived.Laws.StructEq
namespace Go.Proofs.YtiihkjloenlfmaaDoor
open Go.RowKit

theorem rdec16_any (w : World) (t : ByteArray) (hs : t.size ≤ 9223372036854775807) : Calls Tryd.prog 13 #[.string t] w fun e w' => e = .returned (.tuple #[headV (decA t.data.toList).1, .int .i64 (decA t.data.toList).2]) ∧ Below w.heap.size w w' := by
  by_cases h : t.size = 512 ∧ fld t.data.toList 257 265 = ustarL
  · exact rdec_yes w t h.1 h.2
  · have hd : decA t.data.toList = (zeroHead, 160) := by
      unfold decA
      rw [if_neg (fun hok => h ⟨hok.1, hok.2.1⟩)]
    rw [hd]
    refine rdec_no w t hs ?_
    by_cases h1 : t.size = 512
    · exact .inr fun h2 => h ⟨h1, h2⟩
    · exact .inl h1
set_option maxRecDepth 100000 in
theorem str2_in (d : Nat) (a b c e : ByteArray) (w : World) : (Op.equalIn (d + 1 + 1) 22 (.agg #[.string a, .string b]) (.agg #[.string c, .string e])).run Tryd.prog w = .ok (a.toList == c.toList && b.toList == e.toList) w := by
  rw [Op.equalIn]
  simp [run_underlying Tryd.underlying22, part, go_sem, List.range']
  by_cases h0 : a.toList = c.toList
  · by_cases h1 : b.toList = e.toList
    · simp [h0, h1]
    · simp [h0, h1]
  · simp [h0]
set_option maxRecDepth 100000 in
theorem int2_in (d : Nat) (a b c e : Int) (w : World) : (Op.equalIn (d + 1 + 1) 23 (.agg #[.int .i64 a, .int .i64 b]) (.agg #[.int .i64 c, .int .i64 e])).run Tryd.prog w = .ok (a == c && b == e) w := by
  rw [Op.equalIn]
  simp [run_underlying Tryd.underlying23, part, go_sem, List.range']
  by_cases h0 : a = c
  · by_cases h1 : b = e
    · simp [h0, h1]
    · simp [h0, h1]
  · simp [h0]
set_option maxRecDepth 100000 in
theorem guardH : Tryd.prog.eqGuardType Tryd.prog.depth 25 = false := by kernel_rfl
set_option maxRecDepth 100000 in
theorem heldH : Tryd.prog.stoodInHeld 25 = false := by kernel_rfl
set_option maxRecDepth 100000 in
theorem fieldsH : Tryd.prog.underlying 25 = some (.struct (Tryd.prog.fieldsOf 25)) := by simp [Program.fieldsOf, Tryd.underlying25]
def sameH (x y : HeadP) : Bool := x.path.toList == y.path.toList && (x.size == y.size && ((x.kind : Int) == (y.kind : Int) && (x.mode == y.mode && (x.time == y.time && (x.link.toList == y.link.toList && ((x.user.toList == y.user.toList && x.group.toList == y.group.toList) && (x.uid == y.uid && x.gid == y.gid)))))))
theorem bytes_same (a b : ByteArray) : (a.toList == b.toList) = true ↔ a = b := by
  rw [ByteArray.toList_eq, ByteArray.toList_eq, beq_iff_eq]
  constructor
  · intro h
    apply ByteArray.ext
    exact Array.toList_inj.1 h
  · exact fun h => by rw [h]
theorem bytes_eq {a b : ByteArray} (h : a.toList = b.toList) : a = b := (bytes_same a b).1 (by rw [beq_iff_eq]; exact h)
set_option maxRecDepth 100000 in
theorem sameH_true (x y : HeadP) : sameH x y = true ↔ x = y := by
  constructor
  · intro hs
    unfold sameH at hs
    simp only [Bool.and_eq_true, beq_iff_eq] at hs
    obtain ⟨h1, h2, h3, h4, h5, h6, ⟨h7, h8⟩, h9, h10⟩ := hs
    cases x
    cases y
    simp only [HeadP.mk.injEq]
    exact ⟨bytes_eq h1, h2, Int.ofNat.inj h3, h4, h5, bytes_eq h6, bytes_eq h7, bytes_eq h8, h9, h10⟩
  · intro h
    subst h
    unfold sameH
    simp
instance (x y : HeadP) : Decidable (x = y) := decidable_of_iff _ (sameH_true x y)
theorem sameH_iff (x y : HeadP) : sameH x y = decide (x = y) := by
  by_cases h : x = y
  · rw [decide_eq_true h]
    exact (sameH_true x y).2 h
  · rw [decide_eq_false h, ← Bool.not_eq_true]
    exact fun hs => h ((sameH_true x y).1 hs)
set_option maxRecDepth 100000 in
set_option maxHeartbeats 1600000 in
theorem head_eql (x y : HeadP) (w : World) : (binOp .eql 25 (headV x) (headV y)).run Tryd.prog w = .ok (.bool (decide (x = y))) w := by
  rw [← sameH_iff]
  unfold headV headCs
  rw [run_eql_struct, run_equalIn_agg w 9999 25 _ _ fieldsH heldH]
  have hs := fun (a b c e : ByteArray) wx => str2_in 9997 a b c e wx
  have hi := fun (a b c e : Int) wx => int2_in 9997 a b c e wx
  simp [Program.fieldsOf, Tryd.underlying25, Op.eqFields, part, go_sem, hs, hi, Tryd.sizeOf22, Tryd.sizeOf23]
  unfold sameH
  by_cases a0 : x.path.toList = y.path.toList
  · by_cases a1 : x.size = y.size
    · by_cases a2 : (x.kind : Int) = (y.kind : Int)
      · by_cases a3 : x.mode = y.mode
        · by_cases a4 : x.time = y.time
          · by_cases a5 : x.link.toList = y.link.toList
            · by_cases a6 : x.user.toList = y.user.toList
              · by_cases a7 : x.group.toList = y.group.toList
                · by_cases a8 : x.uid = y.uid
                  · by_cases a9 : x.gid = y.gid
                    · simp [a0, a1, a2, a3, a4, a5, a6, a7, a8, a9]
                    · simp [a0, a1, a2, a3, a4, a5, a6, a7, a8, a9]
                  · simp [a0, a1, a2, a3, a4, a5, a6, a7, a8]
                · simp [a0, a1, a2, a3, a4, a5, a6, a7]
              · simp [a0, a1, a2, a3, a4, a5, a6]
            · simp [a0, a1, a2, a3, a4, a5]
          · simp [a0, a1, a2, a3, a4]
        · simp [a0, a1, a2, a3]
      · simp [a0, a1, a2]
    · simp [a0, a1]
  · simp [a0]
end Go.Proofs.YtiihkjloenlfmaaDoor
