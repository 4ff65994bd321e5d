/- The reference's Log is walked. -/
import Derived.Test.YtaapggeaoacikaaX9
namespace Go.Proofs.Ytaapggeaoacikaa
theorem logWalked : LogWalked := fun _ _ _ h hn => log_walk h hn
end Go.Proofs.Ytaapggeaoacikaa
