/- A frame as a whole, by value. -/
import Derived.Test.YtpognlidhppnaaaFr
import Derived.Test.YtpognlidhppnaaaMid
namespace Go.Proofs.Ytpognlidhppnaaa
theorem Try.bigFrame : Big Try.prog 27 11 := Big.of (b := 80) Try.underlying27 rfl (by kernel_rfl) (by decide)
end Go.Proofs.Ytpognlidhppnaaa
