/- points added, and taken several times; squares -/
import Derived.Test.YtgjegildeejghaaTb0
import Derived.Test.YtgjegildeejghaaTbq
