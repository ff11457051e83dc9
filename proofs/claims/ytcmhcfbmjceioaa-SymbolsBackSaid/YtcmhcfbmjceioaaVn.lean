/- The seven statements of symbols hold at every argument within the row's own bounds. -/
import Derived.Test.YtcmhcfbmjceioaaJr
import Derived.Test.YtcmhcfbmjceioaaVm
namespace Go.Proofs.Ytcmhcfbmjceioaa
open Go.RowKit

theorem symbolsOfs_holds : Rows.SymbolsOfsSaid := SymbolsOfs.over done
theorem symbolsFronts_holds : Rows.SymbolsFrontsSaid := SymbolsFronts.over done
theorem symbolsBacks_holds : Rows.SymbolsBacksSaid := SymbolsBacks.over done
theorem symbolsShows_holds : Rows.SymbolsShowsSaid := SymbolsShows.over done
theorem symbolsTakes_holds : Rows.SymbolsTakesSaid := SymbolsTakes.over done
theorem symbolsBack_holds : Rows.SymbolsBackSaid := SymbolsBack.over done
theorem symbolsZeros_holds : Rows.SymbolsZerosSaid := SymbolsZeros.over done

#print axioms symbolsOfs_holds
#print axioms symbolsFronts_holds
#print axioms symbolsBacks_holds
#print axioms symbolsShows_holds
#print axioms symbolsTakes_holds
#print axioms symbolsBack_holds
#print axioms symbolsZeros_holds
end Go.Proofs.Ytcmhcfbmjceioaa
