/- The program's eight contracts of chapter 10, all together. -/
import Derived.Test.YtbhkpjjedeinpaaRiBe
import Derived.Test.YtbhkpjjedeinpaaRiLf
import Derived.Test.YtbhkpjjedeinpaaRlDx
