/- The program's contracts of chapter 6. -/
import Derived.Test.YtjpifilclhbgeaaGcP
namespace Go.Proofs.Ytjpifilclhbgeaa
open Go Go.Abs Go.RowKit Go.Dial
end Go.Proofs.Ytjpifilclhbgeaa
