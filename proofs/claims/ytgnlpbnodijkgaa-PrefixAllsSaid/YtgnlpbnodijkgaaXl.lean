/- The seven statements of stage 9, over prefix as it landed. -/
import Derived.Test.YtgnlpbnodijkgaaXi
import Derived.Test.YtgnlpbnodijkgaaXk
import Derived.Test.YtgnlpbnodijkgaaAm
import Derived.Test.YtgnlpbnodijkgaaOr
namespace Go.Proofs.Ytgnlpbnodijkgaa
open Go.RowKit

/-- What the code's functions answer. -/
theorem done (S N : Nat) (hS : S ≤ 281474976710656) : PrefixDone S N where
  codes := fun w A n c L hL _ hn => ccodes_any w A n c L hL hn
  enc := fun w A B n c m d L list hL _ hn hB hmd hm => cenc_any w A B n c m d L list hL hn hB hmd hm
  dec := fun w A n c L s at' hL _ hn hs h1 h2 => cdec_any w A n c L s at' hL hn (by omega) h1 h2
  all := fun w A n c L s at' k en hL _ hn hs h1 h2 h3 h4 h5 h6 => call_any w A n c L s at' k en hL hn hs h1 h2 h3 h4 h5 h6
  check := fun w A n c L hL _ hn => (ccheck_any w A n c L hL hn).mono fun _ _ ⟨h1, h2⟩ => ⟨h1, by rw [h2]; exact Below.refl _ _⟩
  make := fun w A n c L most hL _ _ hn h1 h2 => by
    by_cases h : ¬ MayW L ∨ most < 12 ∨ 20 < most
    · exact cmake_out w A n c L most hL hn h
    · obtain ⟨m, rfl⟩ : ∃ m : Nat, most = m := ⟨most.toNat, by omega⟩
      exact cmake_any w A n c L m hL (Classical.not_not.1 fun k => h (.inl k)) (by omega) (by omega)

theorem prefixCodes_holds : Rows.PrefixCodesSaid := PrefixCodes.over (done 1000 0 (by omega)) (by omega)
theorem prefixEncodes_holds : Rows.PrefixEncodesSaid := PrefixEncodes.over (done 1000 0 (by omega)) (by omega)
theorem prefixDecodes_holds : Rows.PrefixDecodesSaid := PrefixDecodes.over (done 1000 0 (by omega)) (by omega)
theorem prefixAlls_holds : Rows.PrefixAllsSaid := PrefixAlls.over (done 1000 0 (by omega)) (by omega)
theorem prefixFree_holds : Rows.PrefixFreeSaid := PrefixFree.over (done 1000 0 (by omega)) (by omega)
theorem prefixBack_holds : Rows.PrefixBackSaid := PrefixBack.over (done 1000 0 (by omega)) (by omega)
theorem prefixFull_upto : Rows.PrefixFullUptoSaid := PrefixFullU.over (done 1048576 1048576 (by omega))

#print axioms prefixBack_holds
#print axioms prefixFull_upto
end Go.Proofs.Ytgnlpbnodijkgaa
