/- For every input the law BlockTakes returns true: any bits, from any place on, are read by block.Take as the document's text and sum, or refused (P12.2). Conditions: none. The names in this claim's texts are short, for a claim's size; what they say stands in the readable texts that they were made of by program. -/
import Derived.Test.YthakcjehhlpjnaaGreatB47
import Derived.Test.YthakcjehhlpjnaaGreatB28
namespace Go.Proofs.YthakcjehhlpjnaaGreat
open Go.RowKit
theorem FA:iF 1 where
 one:=by omega
 make:=zY
 take:=fun w s a m hs _ _ _ _=>rI w s a m (by omega)
 sum:=fun w s hs=>mB w s (by omega)
 enc:=fun w s hs=>S03.gK w s (by omega)
theorem blockTakes_holds:Rows.BlockTakesSaid:=BlockTakes.JW FA
end Go.Proofs.YthakcjehhlpjnaaGreat
