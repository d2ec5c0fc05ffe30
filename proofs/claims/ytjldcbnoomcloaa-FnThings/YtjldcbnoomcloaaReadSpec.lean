/-
  The cursor (Cur) beside the plain facts on things in bytes (ThingRead).
-/
import Derived.Test.YtjldcbnoomcloaaThingRead
import Derived.Test.YtjldcbnoomcloaaCur
