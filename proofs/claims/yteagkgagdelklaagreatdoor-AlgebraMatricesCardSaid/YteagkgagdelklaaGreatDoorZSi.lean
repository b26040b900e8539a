/- The contract of LeadingZeros64 lies in the text that this one imports. -/
import Derived.Test.YteagkgagdelklaaGreatDoorZSh
