/- Nothing of its own. -/
import Derived.Test.YtaiodombphpcgaaCnC
