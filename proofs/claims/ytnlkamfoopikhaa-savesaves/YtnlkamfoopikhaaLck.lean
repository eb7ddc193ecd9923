import Derived.Test.YtnlkamfoopikhaaProg
import Derived.Conc.RwLib
import Derived.Conc.MuData
import Derived.KernelRfl
