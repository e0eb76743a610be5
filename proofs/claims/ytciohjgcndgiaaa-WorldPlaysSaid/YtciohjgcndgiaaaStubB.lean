/- What is asked of the landed package world for whatever events: all of it real. -/
import Derived.Test.YtciohjgcndgiaaaStubF
import Derived.Test.YtciohjgcndgiaaaEvTick
import Derived.Test.YtciohjgcndgiaaaEvDrop
import Derived.Test.YtciohjgcndgiaaaEvShut
