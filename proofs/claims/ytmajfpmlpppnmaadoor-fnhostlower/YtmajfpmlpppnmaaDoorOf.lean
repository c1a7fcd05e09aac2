/- The reader's choice out of a list of numbers or texts. -/
import Derived.Test.YtmajfpmlpppnmaaDoorOfI
import Derived.Test.YtmajfpmlpppnmaaDoorOfS
