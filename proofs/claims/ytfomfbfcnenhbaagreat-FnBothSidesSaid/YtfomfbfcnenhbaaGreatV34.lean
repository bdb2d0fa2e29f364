/- Texts of a proof, laid together. -/
import Derived.Test.YtfomfbfcnenhbaaGreatV33
