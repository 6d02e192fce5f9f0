/- points added, and taken several times; squares -/
import Derived.Test.YtieimijkkjhegaaTb0
import Derived.Test.YtieimijkkjhegaaTbq
