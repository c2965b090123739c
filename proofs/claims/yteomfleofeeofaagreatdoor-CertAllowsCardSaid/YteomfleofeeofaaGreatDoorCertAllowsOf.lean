/- CertAllows over whatever the program's calls are. -/
import Derived.Test.YteomfleofeeofaaGreatDoorCtL
namespace Go.Proofs.YteomfleofeeofaaGreatDoor
open Go.Lib (hid)
set_option maxHeartbeats 16000000
open Go.Proofs.Tryz
set_option maxRecDepth 100000
set_option linter.unusedSimpArgs false
set_option linter.unusedVariables false
section
open Go.RowKit Go.Sort
theorem certAllows_of{F:SignF}(R:SignR F){Q:World→Prop}(C:AlCalls F Q)(s:ByteArray)(z0:Int)(h0:-9223372036854775808≤z0)(h1:z0≤9223372036854775807)(ao:Option Addr)(ln cp:Nat)(ss:List ByteArray)(hl:ss.length=ln)(z1:ln≤cp)(w:World)(hQ:Q w)(hI:StrsAt w ao ss):Rt 6 #[.string s,.int .i64 z0,.slice ao ln cp] w (.bool true):=by
 unfold Rt;have HC:=hid C;have HQ:=hid hQ;have HA:=hid (fun W hW=>ctwake_of C.tm W hW);have hb:=Below.refl w.heap.size w;clear hQ;have HI:=hid hI;by_cases h2:2000<s.size
 ·have d1:decide ((2000:Int)<(s.size:Int))=true:=by simp;omega
  clear C R h2 hI hl z1 h0 h1;go_enter func6,ntmps6;go_wp2_with fail;refine (HA.out _ HQ.out).mono ?_;rintro ee W1⟨rfl,bk⟩;replace HQ:=hid (HC.out.step _ _ HQ.out bk);replace hb:=bws hb bk;clear bk;go_wp2_with fail;go_ret;exact⟨rfl,hb⟩
 have d1:decide ((2000:Int)<(s.size:Int))=false:=by simp;omega
 by_cases h3:100<ln
 ·have d2:decide ((100:Int)<(ln:Int))=true:=by simp;omega
  clear C R h2 hI hl z1 h0 h1 h3;go_enter func6,ntmps6;go_wp2_with fail;refine (HA.out _ HQ.out).mono ?_;rintro ee W1⟨rfl,bk⟩;replace HQ:=hid (HC.out.step _ _ HQ.out bk);replace hb:=bws hb bk;clear bk;go_wp2_with fail;go_ret;exact⟨rfl,hb⟩
 have d2:decide ((100:Int)<(ln:Int))=false:=by simp;omega
 have C1:=hid (fun W hW hI=>C.allow s z0 ao ln cp ss W (by omega) h0 h1 hl (by omega) z1 hI hW);have R1:=hid (fun W hI=>rAllow_any F R s z0 ao ln cp ss W (by omega) hl (by omega) hI);generalize alE F s z0 ss=q at *;have x2:(q==q)=true:=by simp
 clear C R h2 hI hl z1 h0 h1 h3;go_enter func6,ntmps6;go_wp2_with fail;refine (C1.out _ HQ.out HI.out).mono ?_;rintro ee W1⟨rfl,bk⟩;replace HI:=hid (HI.out.step bk);replace HQ:=hid (HC.out.step _ _ HQ.out bk);replace hb:=bws hb bk;clear bk;go_wp2_with fail;refine (R1.out _ HI.out).mono ?_;rintro ee W2⟨rfl,bk⟩;replace HI:=hid (HI.out.step bk);replace HQ:=hid (HC.out.step _ _ HQ.out bk);replace hb:=bws hb bk;clear bk;go_wp2_with fail;refine (HA.out _ HQ.out).mono ?_;rintro ee W3⟨rfl,bk⟩;replace HI:=hid (HI.out.step bk);replace HQ:=hid (HC.out.step _ _ HQ.out bk);replace hb:=bws hb bk;clear bk;go_wp2_with fail;go_ret;exact⟨rfl,hb⟩
end
end Go.Proofs.YteomfleofeeofaaGreatDoor
