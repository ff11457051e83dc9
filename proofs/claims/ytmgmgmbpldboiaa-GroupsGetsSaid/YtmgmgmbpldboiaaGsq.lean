/- GroupsShows, GroupsGets hold in the first form. -/
import Derived.Test.YtmgmgmbpldboiaaGsr
import Derived.Test.YtmgmgmbpldboiaaZ37
namespace Go.Proofs.Ytmgmgmbpldboiaa
theorem groupsShows_holds : Rows.GroupsShowsSaid := GroupsShows.over done
theorem groupsGets_holds : Rows.GroupsGetsSaid := GroupsGets.over done
end Go.Proofs.Ytmgmgmbpldboiaa
