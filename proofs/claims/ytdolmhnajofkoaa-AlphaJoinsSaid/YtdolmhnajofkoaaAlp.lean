/- The contracts of layer 6: the program's and the reference's. -/
import Derived.Test.YtdolmhnajofkoaaAlpR3
import Derived.Test.YtdolmhnajofkoaaAlpR4
import Derived.Test.YtdolmhnajofkoaaAlpR5
import Derived.Test.YtdolmhnajofkoaaAlpI
import Derived.Test.YtdolmhnajofkoaaAlpL
import Derived.Test.YtdolmhnajofkoaaAlpQ
