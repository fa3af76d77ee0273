/- The program's contracts of chapter 6. -/
import Derived.Test.YtnenopebfobajaaGcP
namespace Go.Proofs.Ytnenopebfobajaa
open Go Go.Abs Go.RowKit Go.Dial
end Go.Proofs.Ytnenopebfobajaa
