/- The runs of the statement CacheOwn, of the numbers from 160 on. -/
import Derived.Test.YtnbmaplhpkkdbaaCacheA
set_option maxRecDepth 100000
namespace Go.Proofs.Ytnbmaplhpkkdbaa.cacheOwn
open Go Ev

theorem r160 : chk 8 160 = true := by kernel_rfl
theorem r168 : chk 8 168 = true := by kernel_rfl
theorem r176 : chk 8 176 = true := by kernel_rfl
theorem r184 : chk 8 184 = true := by kernel_rfl

end Go.Proofs.Ytnbmaplhpkkdbaa.cacheOwn
