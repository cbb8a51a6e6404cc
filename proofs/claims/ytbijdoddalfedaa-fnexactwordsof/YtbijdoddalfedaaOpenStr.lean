/- How a text that came in is read: the library's own. -/
import Derived.Test.YtbijdoddalfedaaOpen
import Derived.ChangeMaps5
