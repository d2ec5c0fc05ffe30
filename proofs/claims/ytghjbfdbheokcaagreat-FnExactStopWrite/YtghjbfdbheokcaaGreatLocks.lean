/-
  The numbers under which this translation holds sync.Mutex, and that it holds it as the library's contracts want (made by tools/locks.py).
-/
import Derived.Test.YtghjbfdbheokcaaGreatProg
import Derived.Conc.MuLone
import Derived.KernelRfl
namespace Go.Proofs.YtghjbfdbheokcaaGreat
abbrev muLink : Go.Conc.Locks.MuLink := { lock := 51, unlock := 24, ilock := 76, iunlock := 53, lockSlow := 94, unlockSlow := 83, disable := 81, enable := 84, acquire := 93, relMerge := 80, cas32 := 92, add32 := 82, tMutex := 77, tIMutex := 75, tPMutex := 110, tPIMutex := 129, tPI32 := 133, tUP := 131, tNoCopy := 72, tU32 := 73 }

theorem muLib : Go.Conc.Locks.MuLib Tryz.prog muLink :=
  ⟨Tryz.func51, Tryz.func24, Tryz.func76, Tryz.func53, Tryz.func81, Tryz.func84, Tryz.func93, Tryz.func80, Tryz.func92, Tryz.func82, Tryz.underlying75, Tryz.runUnderlying75, Tryz.sizeOf75, Tryz.isAgg75, Tryz.zeroValue75, Tryz.underlying77, Tryz.runUnderlying77, Tryz.sizeOf77, Tryz.isAgg77, Tryz.zeroValue77, Tryz.underlying110, Tryz.runUnderlying110, Tryz.sizeOf110, Tryz.isAgg110, Tryz.zeroValue110, Tryz.underlying129, Tryz.runUnderlying129, Tryz.sizeOf129, Tryz.isAgg129, Tryz.zeroValue129, Tryz.underlying133, Tryz.runUnderlying133, Tryz.sizeOf133, Tryz.isAgg133, Tryz.zeroValue133, Tryz.underlying131, Tryz.runUnderlying131, Tryz.sizeOf131, Tryz.isAgg131, Tryz.zeroValue131, Tryz.underlying72, Tryz.runUnderlying72, Tryz.sizeOf72, Tryz.isAgg72, Tryz.zeroValue72, Tryz.underlying21, Tryz.runUnderlying21, Tryz.sizeOf21, Tryz.isAgg21, Tryz.zeroValue21, (by kernel_rfl)⟩
end Go.Proofs.YtghjbfdbheokcaaGreat
