/-
  What the calls of package tag come to, said of cells: fits, fold, Of, Make, Check.
-/
import Derived.Test.YtholccdkmgpjlaeBase
import Derived.Test.YtholccdkmgpjlaeTagMath
namespace Go.Proofs.Ytholccdkmgpjlae
open Go.RowKit

end Go.Proofs.Ytholccdkmgpjlae
