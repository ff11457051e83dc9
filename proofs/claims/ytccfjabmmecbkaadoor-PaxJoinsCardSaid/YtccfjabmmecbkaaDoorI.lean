/- Slices of ints that are read, cut and appended to. Conditions: at most 10^9 ints in an append. -/
import Derived.Test.YtccfjabmmecbkaaDoorS
namespace Go.Proofs.YtccfjabmmecbkaaDoor
open Go.RowKit

def iv (b : Nat) : Value := .int .i64 b

/-- The slice '.slice A n c' of ints holds the numbers L. -/
def IntsIn (w : World) (A : Option Addr) (n : Nat) (L : List Nat) : Prop :=
  L.length = n ∧ (0 < n → ∃ b off, A = some ⟨b, off, none⟩ ∧ ∀ i, i < n → w.cell? ⟨b, off + i, none⟩ = some (.int .i64 (L.getD i 0)))

set_option maxRecDepth 100000 in
theorem IntsIn.nil {w : World} {A : Option Addr} {n k a : Nat} {L : List Nat} (h : IntsIn w A n L) (hk : k = 0) (_hak : a + k ≤ n) : IntsIn w A k ((L.drop a).take k) := by
  have := h.1
  subst hk
  exact ⟨by simp, fun h => by omega⟩

theorem IntsIn.cut {w : World} {A : Option Addr} {n k a : Nat} {L : List Nat} (h : IntsIn w A n L) (hak : a + k ≤ n) : IntsIn w (Option.map (fun x => x.add a) A) k ((L.drop a).take k) := by
  refine ⟨by rw [List.length_take, List.length_drop, h.1]; omega, fun hk => ?_⟩
  obtain ⟨b, off, rfl, hc⟩ := h.2 (by omega)
  refine ⟨b, off + a, by rw [Option.map_some, Addr.add_lit], fun i hi => ?_⟩
  rw [Nat.add_assoc, hc (a + i) (by omega), List.getD_eq_getElem?_getD, List.getD_eq_getElem?_getD, List.getElem?_take, if_pos hi, List.getElem?_drop]

theorem IntsIn.front {w : World} {A : Option Addr} {n : Nat} {L : List Nat} (h : IntsIn w A n L) (k : Nat) (hk : k ≤ n) : IntsIn w A k (L.take k) := by
  refine ⟨by rw [List.length_take, h.1]; omega, fun h0 => ?_⟩
  obtain ⟨b, off, hA, hc⟩ := h.2 (by omega)
  refine ⟨b, off, hA, fun i hi => ?_⟩
  rw [hc i (by omega), List.getD_eq_getElem?_getD, List.getD_eq_getElem?_getD, List.getElem?_take, if_pos hi]

set_option maxRecDepth 100000 in
theorem ints_of_own {w : World} {B n cap : Nat} {A : Option Addr} {L : List Nat} (h : w.ownsRow B 3 1 (.slice A n cap) n (L.map iv)) : IntsIn w A n L := by
  have hl := h.1
  rw [List.length_map, Nat.mul_one] at hl
  refine ⟨hl, fun hn => ?_⟩
  obtain ⟨A', cap', hv, _, _, hg⟩ := own_slice h
  simp only [Value.slice.injEq] at hv
  obtain ⟨rfl, _, rfl⟩ := hv
  obtain ⟨g, rfl⟩ := hg hn
  refine ⟨g, 0, rfl, fun i hi => ?_⟩
  rw [Nat.zero_add, h.cellAt i (by omega), List.getElem?_map, List.getD_eq_getElem?_getD, List.getElem?_eq_getElem (by omega)]
  rfl

theorem hfar {w : World} {B b n : Nat} {v : Value} {xs : List Value} (h : w.ownsRow B 3 1 v n xs) (hb : b < B) (o : Nat) : some (⟨b, o, none⟩ : Addr).block ≠ v.ownBlock := by
  intro e
  have := (h.lt b e.symm).1
  omega

set_option maxRecDepth 100000 in
/-- An append whose run is known, at a step of a statement whose order is open. -/
theorem step_append_run {ops : Array Oper} {o : Oper} {a : Act} {w w' : World} {K : Act → World → Prop} {Q : Exit → Act → World → Prop} {E : Prop} {v' : Value} (hgd : o.guard = none) (s x : Operand) (t : TypeId)
    (ho : o.op = .call { callee := .builtin .append, args := #[s, x], argTypes := #[t, t] }) (vs vx : Value) (hs : a.eval s = vs) (hx : a.eval x = vx)
    (hrun : (Builtin.append_ #[t, t] o.type #[vs, vx]).run Tryd.prog w = .ok v' w') (h : K (a.put o.dst v') w') :
    if Region.wanted o (yielded ops a.tmps) = true then Oper.wp Tryd.prog o a w K Q else E := by
  have hw : Region.wanted o (yielded ops a.tmps) = true := by simp [Region.wanted, hgd]
  rw [if_pos hw]
  unfold Oper.wp execOp
  simp only [ho, resolve, invoke, builtin, Sem.run_bind, Sem.run_pure, Result.andThen_ok, List.map_toArray, List.map_cons, List.map_nil, hs, hx, hrun]
  exact h

set_option maxRecDepth 100000 in
theorem bit_lt (l : List Nat) (i : Nat) (hb : Bit01 l) : l.getD i 0 < 2 := by
  rw [List.getD_eq_getElem?_getD]
  rcases h : l[i]? with _ | b
  · simp
  · exact hb b (List.mem_of_getElem? h)

theorem bit_and (c e : Nat) (hc : c < 256) : bits .and .i64 ((c : Int) / 2 ^ e) 1 = ((c / 2 ^ e % 2 : Nat) : Int) := by
  have h1 : ((c : Int) / 2 ^ e) = ((c / 2 ^ e : Nat) : Int) := by rw [Int.natCast_ediv, Int.natCast_pow]; rfl
  have hlt : c / 2 ^ e < 256 := Nat.lt_of_le_of_lt (Nat.div_le_self _ _) hc
  rw [h1]
  generalize c / 2 ^ e = d at *
  show IntKind.i64.wrap ((BitVec.ofInt 64 (d : Int) &&& BitVec.ofInt 64 1).toNat : Int) = _
  rw [BitVec.toNat_and, BitVec.ofInt_natCast, BitVec.toNat_ofNat, Nat.mod_eq_of_lt (show d < 2 ^ 64 by omega), show (BitVec.ofInt 64 1).toNat = 1 from rfl, nat_mask1, IntKind.wrap_i64]
  omega

end Go.Proofs.YtccfjabmmecbkaaDoor
