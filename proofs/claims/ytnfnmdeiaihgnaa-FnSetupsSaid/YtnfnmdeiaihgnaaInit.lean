/- What the words say with which the program of this seat starts: read once, for the wrap of each proof. -/
import Derived.Test.YtnfnmdeiaihgnaaProg
import Derived.KernelRfl
import GoSem.ClaimJoined
import GoSem.ClaimOpenFrom
namespace Go.Proofs.Ytnfnmdeiaihgnaa
theorem startWords : (Try.prog.mayEnter && ((false == Try.prog.liftsFinal) && (Try.prog.make == some .cut))) = true := by kernel_rfl
theorem mayEnterT : Try.prog.mayEnter = true := (Bool.and_eq_true_iff.1 startWords).1
theorem liftsT : (false == Try.prog.liftsFinal) = true := (Bool.and_eq_true_iff.1 (Bool.and_eq_true_iff.1 startWords).2).1
theorem makeT : (Try.prog.make == some .cut) = true := (Bool.and_eq_true_iff.1 (Bool.and_eq_true_iff.1 startWords).2).2
end Go.Proofs.Ytnfnmdeiaihgnaa
