/-
  What the calls of package tag come to, said of cells: fits, fold, Of, Make, Check.
-/
import Derived.Test.YtholccdkmgpjladBase
import Derived.Test.YtholccdkmgpjladTagMath
namespace Go.Proofs.Ytholccdkmgpjlad
open Go.RowKit

end Go.Proofs.Ytholccdkmgpjlad
