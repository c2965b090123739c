/- The calls that the laws of times and the chapter's examples ask for. -/
import Derived.Test.YteomfleofeeofaaGreatDoorCpB
import Derived.Test.YteomfleofeeofaaGreatDoorCtL
namespace Go.Proofs.YteomfleofeeofaaGreatDoor
set_option maxRecDepth 100000
set_option linter.unusedSimpArgs false
set_option linter.unusedVariables false
section
open Go.RowKit Go.Sort
def noF:SignF:=⟨fun _=>⟨(List.replicate 32 0).toArray⟩,fun _ _=>⟨(List.replicate 64 0).toArray⟩,fun _ _ _=>0,fun _=>⟨(List.replicate 32 0).toArray⟩,fun _ _=>rfl,fun _ _ _=>rfl,fun _=>rfl⟩
theorem ctTm:TmCalls PowQ where
 step:=fun w w' h hb=>h.step hb
 time:=fun n w h0 h1 q=>ptime_any n w h0 h1 q
 rd0:=fun w q=>by
  have h:=pread_any (fun w w' h hb=>PowQ.step h hb) (fun w h=>h) noF ⟨#[]⟩ w q (fun h=>by rw[try_empty]at h;cases h);rw[(try_read noF).1,(try_read noF).2,cer_none]at h;exact h
end
end Go.Proofs.YteomfleofeeofaaGreatDoor
