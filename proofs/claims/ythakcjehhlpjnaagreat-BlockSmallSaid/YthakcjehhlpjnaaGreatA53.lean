/- For every input the laws of block return true: BlockBack (a text that was packed, behind whatever bytes, is read as it was, or is too great: P12.3), BlockSums (a block in which another sum stands is refused for it: P12.3), BlockSmall (a block of n bytes has at most 12 n + 4000 bits: P12.4). Conditions: none. The names in this claim's texts are short, for a claim's size; what they say stands in the readable texts that they were made of by program. -/
import Derived.Test.YthakcjehhlpjnaaGreatA52
import Derived.Test.YthakcjehhlpjnaaGreatA30
namespace Go.Proofs.YthakcjehhlpjnaaGreat
open Go.RowKit
theorem done:cT 20000 where
 one:=by omega
 make:=fun w s hs=>yj w s (by omega)
 take:=fun w s a m hs _ _ _ _=>yx w s a m (by omega)
 sum:=fun w s hs=>rU w s (by omega)
 enc:=fun w s hs=>S03.iu w s (by omega)
theorem blockBack_holds:Rows.BlockBackSaid:=BlockBack.EX done
theorem blockSums_holds:Rows.BlockSumsSaid:=BlockSums.EX done
theorem blockSmall_holds:Rows.BlockSmallSaid:=BlockSmall.EX done
end Go.Proofs.YthakcjehhlpjnaaGreat
