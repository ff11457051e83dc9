import Derived.Test.YtfhgikojdfblpaaGreatM00
set_option maxRecDepth 100000
namespace Go.Proofs.YtfhgikojdfblpaaGreat
open _root_.Go.Proofs.Tryz
open Go.RowKit
structure IsW (B:Nat) (w:World) (p:Nat) (v:Value) (L:List Nat):Prop where
 lo:B<=p
 blk:Blk w p 134 #[.bool true,v,.int .i64 L.length]
 row:w.ownsRow B 5 1 v (aK L).length ((aK L).map bv)
 bit:au L
structure IsR (B:Nat) (w:World) (p:Nat) (s:ByteArray) (n:Nat):Prop where
 lo:B<=p
 blk:Blk w p 107 #[.bool true,.string s,.int .i64 n]
theorem IsW.step{B B':Nat}{ps:List Nat}{ts:List TypeId}{w w':World}{p:Nat}{v:Value}{L:List Nat}(h:IsW B w p v L)(hs:ak B' ps ts w w')(hp:p∉ps)(hv:∀k,v.ownBlock=some k->k∉ps)(ht:(134:TypeId)∉ts)(h0:(5:TypeId)∉ts):IsW B w' p v L:=
 ⟨h.lo,hs.blk h.blk hp ht,hs.row h.row hv h0,h.bit⟩
theorem IsR.step{B B':Nat}{ps:List Nat}{ts:List TypeId}{w w':World}{p:Nat}{s:ByteArray}{n:Nat}(h:IsR B w p s n)(hs:ak B' ps ts w w')(hp:p∉ps)(ht:(107:TypeId)∉ts):IsR B w' p s n:=
 ⟨h.lo,hs.blk h.blk hp ht⟩
theorem nK(w:World)(B:Nat)(hB:B<=w.heap.size):IsW B (w.alloc (.cells #[.bool true,.slice none 0 0,.int .i64 0] 134)) w.heap.size (.slice none 0 0) []:=
 ⟨hB,aj w 134 _,Nt _ _ _ _,fun _ h=>by simp at h⟩
theorem lY(w:World)(B:Nat)(hB:B<=w.heap.size)(s:ByteArray)(n:Nat):IsR B (w.alloc (.cells #[.bool true,.string s,.int .i64 n] 107)) w.heap.size s n:=
 ⟨hB,aj w 107 _⟩
theorem IsW.alloc{B:Nat}{w:World}{p:Nat}{v:Value}{L:List Nat}(h:IsW B w p v L)(o:Obj):IsW B (w.alloc o) p v L:=
 h.step ((ak.refl w.heap.size [] [] w).alloc (ag _) o) (by simp) (by simp) (by simp) (by simp)
theorem IsR.alloc{B:Nat}{w:World}{p:Nat}{s:ByteArray}{n:Nat}(h:IsR B w p s n)(o:Obj):IsR B (w.alloc o) p s n:=
 h.step ((ak.refl w.heap.size [] [] w).alloc (ag _) o) (by simp) (by simp)
theorem Mh{B B':Nat}{w:World}{p q:Nat}{v:Value}{L:List Nat}{s:ByteArray}{n:Nat}(h:IsW B w p v L)(k:IsR B' w q s n):p≠q:=by
 rintro rfl;have h1:=h.blk;have h2:=k.blk;unfold Blk at h1 h2;rw[h1]at h2;injection h2 with h2
 injection h2 with _ h3
 exact absurd h3 (by decide)
theorem IsW.take{B B':Nat}{w w':World}{p q:Nat}{v:Value}{L:List Nat}{s:ByteArray}{n:Nat}(h:IsW B w p v L)(k:IsR B' w q s n){C:Nat}(hs:ak C [q] [] w w'):IsW B w' p v L:=
 h.step hs (by simpa using Mh h k) (fun i hi=>by simpa using dV h.row k.blk (by decide) i hi) (by simp) (by simp)
theorem IsR.put{B B':Nat}{w w':World}{p q:Nat}{v:Value}{L:List Nat}{s:ByteArray}{n:Nat}(k:IsR B w q s n)(h:IsW B' w p v L){C:Nat}(hs:ak C [p] [5] w w'):IsR B w' q s n:=
 k.step hs (by simpa using (Mh h k).symm) (by decide)
